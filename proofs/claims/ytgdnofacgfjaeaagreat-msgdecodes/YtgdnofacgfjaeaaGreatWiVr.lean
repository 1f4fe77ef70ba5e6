import Derived.Test.YtgdnofacgfjaeaaGreatWiX
import Derived.Test.YtgdnofacgfjaeaaGreatOd
import Derived.Defers
import Derived.Recover
import Derived.WalkSmall
namespace Go.Proofs.YtgdnofacgfjaeaaGreat.Wi
open Go.RowKit
set_option linter.unusedVariables false
def headOf (zs:List Int):List Int:=fourOf zs.length++fourOf (sumOf (fourOf zs.length))
def sealOf (zs:List Int):List Int:=headOf zs++zs++fourOf (sumOf (headOf zs++zs))
theorem headOf_len (zs:List Int):(headOf zs).length=8:=rfl
theorem sealOf_len (zs:List Int):(sealOf zs).length=zs.length+12:=by simp [sealOf,headOf_len,fourOf_len];omega
theorem headOf_u8 (zs:List Int):U8 (headOf zs):=(fourOf_u8 _).append (fourOf_u8 _)
theorem sealOf_u8 {zs:List Int} (h:U8 zs):U8 (sealOf zs):=((headOf_u8 _).append h).append (fourOf_u8 _)
theorem at_some {b off k:Nat} (h:At (some ⟨b,off,none⟩) k):k=b:=by obtain ⟨ad,e,rfl⟩:=h;cases e;rfl
theorem Kept.fresh {w w1 w2:World} {S:Nat→Prop} (h:Kept No w w1) (k:Kept S w1 w2) (hS:∀ i,S i→w.heap.size≤i):Kept No w w2:=
  h.trans k (fun _ e=>e) (fun i hi e=>absurd hi (by have:=hS i e;omega))
theorem ret_slice {a:Option Addr} {n m c:Nat} (h:n=m):Ending.returned (.slice a n c)=.returned (.slice a m c):=by rw [h]
set_option maxRecDepth 1000000 in
set_option maxHeartbeats 1000000 in
theorem seal_any (a:Option Addr) (m cap:Nat) (zs:List Int) (w:World) (hz:zs.length=m) (hm:m≤131072) (hb:Bytes w a zs) (h8:U8 zs) (hc:a=none→cap=0) :
    Calls Tryz.prog 38 #[.slice a m cap] w fun e w'=>∃ a' c',e=.returned (.slice a' (m+12) c')∧OwnS w' w.heap.size a' c' (sealOf zs)∧Kept No w w':=by
  have HB:Hid (Bytes w a zs):=hb
  have H8:Hid (U8 zs):=h8
  have HC:Hid (a=none→cap=0):=hc
  have HZ:Hid (zs.length=m):=hz
  clear hb h8 hc hz
  obtain ⟨i0,hi,hz0,hz1,hz2⟩:=info_parts Tryz.info5
  go_enter Tryz.func38,Tryz.ntmps38
  go_wp2_with (at_make;go_must (refine wpList_make_own _ rfl _ (.tmp 10) 35 rfl w.heap.size 5 i0 (.int .u8 0) 1 Tryz.underlying35 hi hz0 hz1 .i64 .i64 _ (m+12) rfl rfl (by omega) (by rw [hz2];omega) (by unfold maxLen;omega) (Nat.le_refl _) ?_;intro w1 hown hgrow;have HO1:Hid (OwnS w1 w.heap.size (some ⟨w.heap.size,0,none⟩) (m+12) []):=hown;have HK1:Hid (Kept No w w1):=kept_grown hgrow;clear hown hgrow))
  refine (putFour_any w.heap.size _ _ _ [] _ _ rfl HO1.out HK1.out.size (by omega) (by omega) (by simp)).mono ?_
  rintro e w2 ⟨a2,c2,rfl,hO2,hK2⟩
  have HO2:Hid (OwnS w2 w.heap.size a2 c2 (fourOf m)):=hO2
  have HK2:Hid (Kept No w w2):=HK1.out.fresh hK2 (fun i e=>HO1.out.base e)
  clear hO2 hK2 HO1 HK1
  go_wp2_with fail
  refine (sumN_any _ _ _ (fourOf m) _ (by simp [fourOf_len]) (by omega) HO2.out.bytes (fourOf_u8 _)).mono ?_
  rintro e w' ⟨rfl,rfl⟩
  have hs:=sumOf_bd (fourOf m)
  go_wp2_with fail
  refine (putFour_any w.heap.size _ _ _ (fourOf m) _ _ (by simp [fourOf_len]) HO2.out HK2.out.size (by omega) (by omega) (by omega)).mono ?_
  rintro e w3 ⟨a3,c3,rfl,hO3,hK3⟩
  have HO3:Hid (OwnS w3 w.heap.size a3 c3 (headOf zs)):=by unfold headOf;rw [HZ.out];exact hO3
  have HK3:Hid (Kept No w w3):=HK2.out.fresh hK3 (fun i e=>HO2.out.base e)
  clear hO3 hK3 HO2 HK2 hs
  go_wp2_with (at_builtin;go_must (refine wp_app _ Tryz.underlying35 Tryz.info5 rfl _ _ rfl w.heap.size _ _ _ (headOf zs) rfl (by simp [headOf_len]) HO3.out _ _ _ zs rfl HZ.out (HB.out.no HK3.out) HC.out (by have:=HZ.out;rw [headOf_len];omega) HK3.out.size ?_;intro a4 c4 w4 HO4 HK4' HN';have HK4:Hid (Kept No w w4):=HK3.out.fresh HK4'.out (fun i e=>HO3.out.base e);clear HK4' HN' HO3 HK3))
  refine (sumN_any _ _ _ (headOf zs++zs) _ (by have:=HZ.out;simp [headOf_len];omega) (by omega) HO4.out.bytes ((headOf_u8 _).append H8.out)).mono ?_
  rintro e w' ⟨rfl,rfl⟩
  have hs:=sumOf_bd (headOf zs++zs)
  go_wp2_with fail
  refine (putFour_any w.heap.size _ _ _ (headOf zs++zs) _ _ (by have:=HZ.out;simp [headOf_len];omega) HO4.out HK4.out.size (by omega) (by omega) (by omega)).mono ?_
  rintro e w5 ⟨a5,c5,rfl,hO5,hK5⟩
  have HO5:Hid (OwnS w5 w.heap.size a5 c5 (sealOf zs)):=hO5
  have HK5:Hid (Kept No w w5):=HK4.out.fresh hK5 (fun i e=>HO4.out.base e)
  clear hO5 hK5 HO4 HK4 hs
  go_wp2
  go_ret
  exact ⟨a5,c5,ret_slice (by omega),HO5.out,HK5.out⟩
set_option maxRecDepth 1000000 in
set_option maxHeartbeats 1000000 in
theorem rseal_any (a:Option Addr) (m cap:Nat) (zs:List Int) (w:World) (hz:zs.length=m) (hm:m≤131072) (hb:Bytes w a zs) (h8:U8 zs) (hc:a=none→cap=0) :
    Calls Tryz.prog 26 #[.slice a m cap] w fun e w'=>∃ a' c',e=.returned (.slice a' (m+12) c')∧OwnS w' w.heap.size a' c' (sealOf zs)∧Kept No w w':=by
  have HB:Hid (Bytes w a zs):=hb
  have H8:Hid (U8 zs):=h8
  have HC:Hid (a=none→cap=0):=hc
  have HZ:Hid (zs.length=m):=hz
  clear hb h8 hc hz
  go_enter Tryz.func26,Tryz.ntmps26
  go_wp2_with fail
  refine (Four_any _ _ (by omega) (by omega)).mono ?_
  rintro e w2 ⟨rfl,hO2,hK2⟩
  have HO2:Hid (OwnS w2 w.heap.size (some ⟨w.heap.size,0,none⟩) 4 (fourOf m)):=hO2
  have HK2:Hid (Kept No w w2):=hK2
  clear hO2 hK2
  go_wp2_with fail
  refine (rsumN_any _ _ _ (fourOf m) _ (by simp [fourOf_len]) (by omega) HO2.out.bytes (fourOf_u8 _)).mono ?_
  rintro e w' ⟨rfl,rfl⟩
  have hs:=sumOf_bd (fourOf m)
  go_wp2_with fail
  refine (Four_any _ _ (by omega) (by omega)).mono ?_
  rintro e w3 ⟨rfl,hO3,hK3⟩
  have HF3:Hid (Bytes w3 (some ⟨w'.heap.size,0,none⟩) (fourOf (sumOf (fourOf m)))):=hO3.bytes
  have HO3:Hid (OwnS w3 w.heap.size (some ⟨w.heap.size,0,none⟩) 4 (fourOf m)):=HO2.out.no hK3
  have HK3:Hid (Kept No w w3):=HK2.out.then hK3
  clear hO3 hK3 HO2 HK2 hs
  go_wp2_with (first
    | (at_builtin;refine wp_app _ Tryz.underlying35 Tryz.info5 rfl (.tmp 13) (.tmp 15) rfl w.heap.size _ _ _ (fourOf m) rfl rfl HO3.out _ _ _ (fourOf (sumOf (fourOf m))) rfl rfl HF3.out (fun e=>by cases e) (by simp [fourOf_len]) HK3.out.size ?_;intro a4 c4 w4 HO4' HK4' HN';have HO4:Hid (OwnS w4 w.heap.size a4 c4 (headOf zs)):=(by unfold headOf;rw [HZ.out];exact HO4'.out);have HK4:Hid (Kept No w w4):=HK3.out.fresh HK4'.out (fun i e=>HO3.out.base e);clear HO4' HK4' HN' HO3 HK3 HF3)
    | (at_builtin;refine wp_app _ Tryz.underlying35 Tryz.info5 rfl (.tmp 17) (.tmp 18) rfl w.heap.size _ _ _ (headOf zs) rfl (by simp [headOf_len]) HO4.out _ _ _ zs rfl HZ.out (HB.out.no HK4.out) HC.out (by have:=HZ.out;rw [headOf_len];omega) HK4.out.size ?_;intro a5 c5 w5 HO5 HK5' HN';have HK5:Hid (Kept No w w5):=HK4.out.fresh HK5'.out (fun i e=>HO4.out.base e);clear HK5' HN' HO4 HK4))
  refine (rsumN_any _ _ _ (headOf zs++zs) _ (by have:=HZ.out;simp [headOf_len];omega) (by omega) HO5.out.bytes ((headOf_u8 _).append H8.out)).mono ?_
  rintro e w' ⟨rfl,rfl⟩
  have hs:=sumOf_bd (headOf zs++zs)
  go_wp2_with fail
  refine (Four_any _ _ (by omega) (by omega)).mono ?_
  rintro e w6 ⟨rfl,hO6,hK6⟩
  have HF6:Hid (Bytes w6 (some ⟨w'.heap.size,0,none⟩) (fourOf (sumOf (headOf zs++zs)))):=hO6.bytes
  have HO6:Hid (OwnS w6 w.heap.size a5 c5 (headOf zs++zs)):=HO5.out.no hK6
  have HK6:Hid (Kept No w w6):=HK5.out.then hK6
  clear hO6 hK6 HO5 HK5 hs
  go_wp2_with (at_builtin;go_must (refine wp_app _ Tryz.underlying35 Tryz.info5 rfl (.tmp 22) (.tmp 24) rfl w.heap.size _ _ _ (headOf zs++zs) rfl (by have:=HZ.out;simp [headOf_len];omega) HO6.out _ _ _ (fourOf (sumOf (headOf zs++zs))) rfl rfl HF6.out (fun e=>by cases e) (by have:=HZ.out;simp [fourOf_len,headOf_len];omega) HK6.out.size ?_;intro a7 c7 w7 HO7 HK7' HN';have HK7:Hid (Kept No w w7):=HK6.out.fresh HK7'.out (fun i e=>HO6.out.base e);clear HK7' HN' HO6 HK6 HF6))
  go_ret
  exact ⟨a7,c7,ret_slice (by omega),HO7.out,HK7.out⟩
theorem rseal_long (a:Option Addr) (m cap:Nat) (w:World) (hm:131072 < m) (h2:m≤140737488355328) :
    Calls Tryz.prog 26 #[.slice a m cap] w fun e w'=>e=.returned (.slice none 0 0)∧w'=w:=by
  go_enter Tryz.func26,Tryz.ntmps26
  go_wp2
  go_ret
  exact ⟨rfl,rfl⟩
theorem Bytes.drop {w:World} {b off:Nat} {zs:List Int} (h:Bytes w (some ⟨b,off,none⟩) zs) (k:Nat):Bytes w (some ⟨b,off+k,none⟩) (zs.drop k):=by
  intro i hi
  simp only[List.length_drop] at hi
  obtain ⟨b',off',e,hc⟩:=h (k+i) (by omega)
  cases e
  refine ⟨b,off+k,rfl,?_⟩
  rw [List.getElem?_drop,Nat.add_assoc]
  exact hc
theorem Bytes.take {w:World} {a:Option Addr} {zs:List Int} (h:Bytes w a zs) (k:Nat):Bytes w a (zs.take k):=by
  intro i hi
  simp only[List.length_take] at hi
  rw [List.getElem?_take,if_pos (by omega)]
  exact h i (by omega)
theorem Bytes.drewN {w:World} {a:Option Addr} {zs:List Int} (h:Bytes w a zs) (n:Nat):Bytes (w.drewN n) a zs:=h
theorem four_n (N:Int) (a:Option Addr) (m cap:Nat) (zs:List Int) (w:World) (hN:numOf zs=N) (hm:zs.length=m) (h4:4≤m) (hb:Bytes w a zs) (h8:U8 zs) :
    Calls Tryz.prog 199 #[.slice a m cap] w fun e w'=>e=.returned (.int .i64 N)∧∃ n,w'=w.drewN n:=by
  subst hN;exact four_any a m cap zs w hm h4 hb h8
theorem number_n (N:Int) (a:Option Addr) (m cap:Nat) (zs:List Int) (w:World) (hN:numOf zs=N) (hm:zs.length=m) (h4:4≤m) (hb:Bytes w a zs) (h8:U8 zs) :
    Calls Tryz.prog 181 #[.slice a m cap] w fun e w'=>e=.returned (.int .i64 N)∧∃ n,w'=w.drewN n:=by
  subst hN;exact number_any a m cap zs w hm h4 hb h8
theorem sum_n (N:Int) (a:Option Addr) (m cap:Nat) (zs:List Int) (w:World) (hN:sumOf zs=N) (hz:zs.length=m) (hm:m≤140737488355328) (hb:Bytes w a zs) (h8:U8 zs) :
    Calls Tryz.prog 84 #[.slice a m cap] w fun e w'=>e=.returned (.int .i64 N)∧w'=w:=by
  subst hN;exact sumN_any a m cap zs w hz hm hb h8
theorem rsum_n (N:Int) (a:Option Addr) (m cap:Nat) (zs:List Int) (w:World) (hN:sumOf zs=N) (hz:zs.length=m) (hm:m≤140737488355328) (hb:Bytes w a zs) (h8:U8 zs) :
    Calls Tryz.prog 58 #[.slice a m cap] w fun e w'=>e=.returned (.int .i64 N)∧w'=w:=by
  subst hN;exact rsumN_any a m cap zs w hz hm hb h8
theorem numOf_take (zs:List Int):numOf (zs.take 4)=numOf zs:=by
  simp [numOf]
def openOf (zs:List Int):List Int × Int:=
  if zs.length < 8 then ([],10)
  else if numOf (zs.drop 4)≠sumOf (zs.take 4) then ([],12)
  else if 131072 < numOf zs then ([],2)
  else if (zs.length:Int) < numOf zs+12 then ([],10)
  else if numOf zs+12 < (zs.length:Int) then ([],11)
  else if numOf (zs.drop ((numOf zs).toNat+8))≠sumOf (zs.take ((numOf zs).toNat+8)) then ([],12)
  else ((zs.drop 8).take (numOf zs).toNat,0)
def Opens (w:World) (zs:List Int) (e:Ending) (w':World):Prop:=
  ∃ a' n' c',e=.returned (.tuple #[.slice a' n' c',.int .i64 (openOf zs).2])∧n'=(openOf zs).1.length∧OwnS w' w.heap.size a' c' (openOf zs).1∧Kept No w w'
theorem opens_no {w:World} {zs:List Int} {w':World} (x:Int) (h:openOf zs=([],x)) (k:Kept No w w'):Opens w zs (.returned (.tuple #[.slice none 0 0,.int .i64 x])) w':=
  ⟨none,0,0,by rw [h],by rw [h];rfl,by rw [h];exact OwnS.nil _ _,k⟩
theorem numOf_bd {zs:List Int} (h:U8 zs):0≤numOf zs∧numOf zs≤4294967295:=by
  have a:=h 0;have b:=h 1;have c:=h 2;have d:=h 3
  unfold numOf;omega
set_option maxRecDepth 1000000 in
set_option maxHeartbeats 400000 in
theorem open_cut (a:Option Addr) (m cap:Nat) (zs:List Int) (w:World) (hz:zs.length=m) (hl:m < 8) :
    Calls Tryz.prog 157 #[.slice a m cap] w (Opens w zs):=by
  have HO:Hid (openOf zs=([],10)):=by unfold Hid openOf;rw [if_pos (by omega)]
  clear hz
  go_enter Tryz.func157,Tryz.ntmps157
  go_wp2
  go_ret2
  exact opens_no 10 HO.out (Kept.refl _ _)
set_option maxRecDepth 1000000 in
set_option maxHeartbeats 1000000 in
theorem open_any (b off m cap:Nat) (zs:List Int) (w:World) (hz:zs.length=m) (hm:m≤140737488355328) (hcm:cap≤9223372036854775807) (hcap:m≤cap) (hb:Bytes w (some ⟨b,off,none⟩) zs) (h8:U8 zs) (hl:8≤m) :
    Calls Tryz.prog 157 #[.slice (some ⟨b,off,none⟩) m cap] w (Opens w zs):=by
  have HB:Hid (Bytes w (some ⟨b,off,none⟩) zs):=hb
  have H8:Hid (U8 zs):=h8
  have HZ:Hid (zs.length=m):=hz
  obtain ⟨n,hn⟩:∃ n:Nat,numOf zs=n:=⟨(numOf zs).toNat,by have:=numOf_bd h8;omega⟩
  have hn2:n≤4294967295:=by have:=numOf_bd h8;omega
  obtain ⟨P,hP⟩:∃ P,numOf (zs.drop 4)=P:=⟨_,rfl⟩
  obtain ⟨S,hS⟩:∃ S,sumOf (zs.take 4)=S:=⟨_,rfl⟩
  have HN:Hid (numOf zs=n):=hn
  have HP:Hid (numOf (zs.drop 4)=P):=hP
  have HS:Hid (sumOf (zs.take 4)=S):=hS
  clear hb h8 hz hn hP hS
  have g1:(4:Int)≤(m:Int):=by omega
  have g2:(m:Int)≤(cap:Int):=by omega
  have g3:¬ (cap=4):=by omega
  have g4:(4:Int)≤(cap:Int):=by omega
  have g5:¬ ((cap:Int)=4):=by omega
  by_cases hps:P=S
  · have hps':(P==S)=true:=by simpa using hps
    by_cases h1:131072 < n
    · have HO:Hid (openOf zs=([],2)):=by unfold Hid openOf;rw [HP.out,HS.out,HZ.out,HN.out,if_neg (by omega),if_neg (by simpa using hps),if_pos (by omega)]
      clear hps
      go_enter Tryz.func157,Tryz.ntmps157
      go_wp2
      go_quiet ((first
        | (go_at_call 199;exact Calls.quiet_of (four_n P _ _ _ (zs.drop 4) _ HP.out (by have:=HZ.out;simp;omega) (by omega) ((HB.out.drop 4).drewN _) (H8.out.drop 4)))
        | (go_at_call 84;exact Calls.quiet_of_same (sum_n S _ _ _ (zs.take 4) _ HS.out (by have:=HZ.out;simp;omega) (by omega) ((HB.out.take 4).drewN _) (H8.out.take 4)))))
      go_wp2_with fail
      refine (four_n n _ _ _ zs _ HN.out HZ.out (by omega) (HB.out.drewN _) H8.out).mono ?_
      rintro e w1 ⟨rfl,n1,hw1⟩
      have HB2:Hid (Bytes w1 (some ⟨b,off,none⟩) zs):=by rw [hw1];exact HB.out
      have HK2:Hid (Kept No w w1):=by rw [hw1];exact (Kept.no_drewN _ _).drewN _
      clear hw1
      go_wp2
      go_ret2
      exact opens_no 2 HO.out HK2.out
    by_cases h2:m < n+12
    · have HO:Hid (openOf zs=([],10)):=by unfold Hid openOf;rw [HP.out,HS.out,HZ.out,HN.out,if_neg (by omega),if_neg (by simpa using hps),if_neg (by omega),if_pos (by omega)]
      clear hps
      go_enter Tryz.func157,Tryz.ntmps157
      go_wp2
      go_quiet ((first
        | (go_at_call 199;exact Calls.quiet_of (four_n P _ _ _ (zs.drop 4) _ HP.out (by have:=HZ.out;simp;omega) (by omega) ((HB.out.drop 4).drewN _) (H8.out.drop 4)))
        | (go_at_call 84;exact Calls.quiet_of_same (sum_n S _ _ _ (zs.take 4) _ HS.out (by have:=HZ.out;simp;omega) (by omega) ((HB.out.take 4).drewN _) (H8.out.take 4)))))
      go_wp2_with fail
      refine (four_n n _ _ _ zs _ HN.out HZ.out (by omega) (HB.out.drewN _) H8.out).mono ?_
      rintro e w1 ⟨rfl,n1,hw1⟩
      have HB2:Hid (Bytes w1 (some ⟨b,off,none⟩) zs):=by rw [hw1];exact HB.out
      have HK2:Hid (Kept No w w1):=by rw [hw1];exact (Kept.no_drewN _ _).drewN _
      clear hw1
      go_wp2
      go_ret2
      exact opens_no 10 HO.out HK2.out
    by_cases h3:n+12 < m
    · have HO:Hid (openOf zs=([],11)):=by unfold Hid openOf;rw [HP.out,HS.out,HZ.out,HN.out,if_neg (by omega),if_neg (by simpa using hps),if_neg (by omega),if_neg (by omega),if_pos (by omega)]
      clear hps
      go_enter Tryz.func157,Tryz.ntmps157
      go_wp2
      go_quiet ((first
        | (go_at_call 199;exact Calls.quiet_of (four_n P _ _ _ (zs.drop 4) _ HP.out (by have:=HZ.out;simp;omega) (by omega) ((HB.out.drop 4).drewN _) (H8.out.drop 4)))
        | (go_at_call 84;exact Calls.quiet_of_same (sum_n S _ _ _ (zs.take 4) _ HS.out (by have:=HZ.out;simp;omega) (by omega) ((HB.out.take 4).drewN _) (H8.out.take 4)))))
      go_wp2_with fail
      refine (four_n n _ _ _ zs _ HN.out HZ.out (by omega) (HB.out.drewN _) H8.out).mono ?_
      rintro e w1 ⟨rfl,n1,hw1⟩
      have HB2:Hid (Bytes w1 (some ⟨b,off,none⟩) zs):=by rw [hw1];exact HB.out
      have HK2:Hid (Kept No w w1):=by rw [hw1];exact (Kept.no_drewN _ _).drewN _
      clear hw1
      go_wp2
      go_ret2
      exact opens_no 11 HO.out HK2.out
    obtain rfl:m=n+12:=by omega
    obtain ⟨P2,hP2⟩:∃ P,numOf (zs.drop (n+8))=P:=⟨_,rfl⟩
    obtain ⟨S2,hS2⟩:∃ S,sumOf (zs.take (n+8))=S:=⟨_,rfl⟩
    have HP2:Hid (numOf (zs.drop (n+8))=P2):=hP2
    have HS2:Hid (sumOf (zs.take (n+8))=S2):=hS2
    clear hP2 hS2
    have q0:(0:Int)≤8+(n:Int):=by omega
    have q1:(8:Int)+(n:Int)≤(n:Int)+12:=by omega
    have q2:((8:Int)+(n:Int)).toNat=n+8:=by omega
    have q3:¬ (cap=n+8):=by omega
    have k6:¬ (cap=8):=by omega
    clear h2 h3
    by_cases hq:P2=S2
    · have hq':(P2==S2)=true:=by simpa using hq
      have HO:Hid (openOf zs=((zs.drop 8).take n,0)):=by unfold Hid openOf;rw [HP.out,HS.out,HZ.out,HN.out,if_neg (by omega),if_neg (by simpa using hps),if_neg (by omega),if_neg (by omega),if_neg (by omega),Int.toNat_natCast,HP2.out,HS2.out,if_neg (by simpa using hq)]
      clear hps hq
      go_enter Tryz.func157,Tryz.ntmps157
      go_wp2
      go_quiet ((first
        | (go_at_call 199;exact Calls.quiet_of (four_n P _ _ _ (zs.drop 4) _ HP.out (by have:=HZ.out;simp;omega) (by omega) ((HB.out.drop 4).drewN _) (H8.out.drop 4)))
        | (go_at_call 84;exact Calls.quiet_of_same (sum_n S _ _ _ (zs.take 4) _ HS.out (by have:=HZ.out;simp;omega) (by omega) ((HB.out.take 4).drewN _) (H8.out.take 4)))))
      go_wp2_with fail
      refine (four_n n _ _ _ zs _ HN.out HZ.out (by omega) (HB.out.drewN _) H8.out).mono ?_
      rintro e w1 ⟨rfl,n1,hw1⟩
      have HB2:Hid (Bytes w1 (some ⟨b,off,none⟩) zs):=by rw [hw1];exact HB.out
      have HK2:Hid (Kept No w w1):=by rw [hw1];exact (Kept.no_drewN _ _).drewN _
      clear hw1
      go_wp2_with fail
      go_quiet ((first
        | (go_at_call 199;exact Calls.quiet_of (four_n P2 _ _ _ (zs.drop (n+8)) _ HP2.out (by have:=HZ.out;simp;omega) (by omega) ((HB2.out.drop (n+8)).drewN _) (H8.out.drop _)))
        | (go_at_call 84;exact Calls.quiet_of_same (sum_n S2 _ _ _ (zs.take (n+8)) _ HS2.out (by have:=HZ.out;simp;omega) (by omega) ((HB2.out.take (n+8)).drewN _) (H8.out.take _)))))
      go_wp2_with fail
      refine (clone_any _ _ _ ((zs.drop 8).take n) _ (by have:=HZ.out;simp;omega) (((HB2.out.drop 8).take n).drewN _) (fun e=>by cases e) (by omega)).mono ?_
      rintro e w3 ⟨a3,c3,rfl,hO3,hK3,-⟩
      have HO3:Hid (OwnS w3 w.heap.size a3 c3 ((zs.drop 8).take n)):=hO3.lower HK2.out.size
      have HK3:Hid (Kept No w w3):=(HK2.out.drewN _).then hK3
      clear hO3 hK3
      go_wp2
      go_ret2
      exact ⟨a3,n,c3,by rw [HO.out];rfl,by rw [HO.out];have:=HZ.out;simp;omega,by rw [HO.out];exact HO3.out,HK3.out⟩
    · have hq':(P2==S2)=false:=by simpa using hq
      have HO:Hid (openOf zs=([],12)):=by unfold Hid openOf;rw [HP.out,HS.out,HZ.out,HN.out,if_neg (by omega),if_neg (by simpa using hps),if_neg (by omega),if_neg (by omega),if_neg (by omega),Int.toNat_natCast,HP2.out,HS2.out,if_pos (by simpa using hq)]
      clear hps hq
      go_enter Tryz.func157,Tryz.ntmps157
      go_wp2
      go_quiet ((first
        | (go_at_call 199;exact Calls.quiet_of (four_n P _ _ _ (zs.drop 4) _ HP.out (by have:=HZ.out;simp;omega) (by omega) ((HB.out.drop 4).drewN _) (H8.out.drop 4)))
        | (go_at_call 84;exact Calls.quiet_of_same (sum_n S _ _ _ (zs.take 4) _ HS.out (by have:=HZ.out;simp;omega) (by omega) ((HB.out.take 4).drewN _) (H8.out.take 4)))))
      go_wp2_with fail
      refine (four_n n _ _ _ zs _ HN.out HZ.out (by omega) (HB.out.drewN _) H8.out).mono ?_
      rintro e w1 ⟨rfl,n1,hw1⟩
      have HB2:Hid (Bytes w1 (some ⟨b,off,none⟩) zs):=by rw [hw1];exact HB.out
      have HK2:Hid (Kept No w w1):=by rw [hw1];exact (Kept.no_drewN _ _).drewN _
      clear hw1
      go_wp2_with fail
      go_quiet ((first
        | (go_at_call 199;exact Calls.quiet_of (four_n P2 _ _ _ (zs.drop (n+8)) _ HP2.out (by have:=HZ.out;simp;omega) (by omega) ((HB2.out.drop (n+8)).drewN _) (H8.out.drop _)))
        | (go_at_call 84;exact Calls.quiet_of_same (sum_n S2 _ _ _ (zs.take (n+8)) _ HS2.out (by have:=HZ.out;simp;omega) (by omega) ((HB2.out.take (n+8)).drewN _) (H8.out.take _)))))
      go_wp2
      go_ret2
      exact opens_no 12 HO.out (HK2.out.drewN _)
  · have hps':(P==S)=false:=by simpa using hps
    have HO:Hid (openOf zs=([],12)):=by unfold Hid openOf;rw [HP.out,HS.out,HZ.out,if_neg (by omega),if_pos hps]
    clear hps
    go_enter Tryz.func157,Tryz.ntmps157
    go_wp2
    go_quiet ((first
      | (go_at_call 199;exact Calls.quiet_of (four_n P _ _ _ (zs.drop 4) _ HP.out (by have:=HZ.out;simp;omega) (by omega) ((HB.out.drop 4).drewN _) (H8.out.drop 4)))
      | (go_at_call 84;exact Calls.quiet_of_same (sum_n S _ _ _ (zs.take 4) _ HS.out (by have:=HZ.out;simp;omega) (by omega) ((HB.out.take 4).drewN _) (H8.out.take 4)))))
    go_wp2
    go_ret2
    exact opens_no 12 HO.out (Kept.no_drewN _ _)
set_option maxRecDepth 1000000 in
set_option maxHeartbeats 1000000 in
theorem ropen_any (b off m cap:Nat) (zs:List Int) (w:World) (hz:zs.length=m) (hm:m≤140737488355328) (hcm:cap≤9223372036854775807) (hcap:m≤cap) (hb:Bytes w (some ⟨b,off,none⟩) zs) (h8:U8 zs) (hl:8≤m) :
    Calls Tryz.prog 121 #[.slice (some ⟨b,off,none⟩) m cap] w (Opens w zs):=by
  have HB:Hid (Bytes w (some ⟨b,off,none⟩) zs):=hb
  have H8:Hid (U8 zs):=h8
  have HZ:Hid (zs.length=m):=hz
  obtain ⟨n,hn⟩:∃ n:Nat,numOf zs=n:=⟨(numOf zs).toNat,by have:=numOf_bd h8;omega⟩
  have hn2:n≤4294967295:=by have:=numOf_bd h8;omega
  obtain ⟨P,hP⟩:∃ P,numOf (zs.drop 4)=P:=⟨_,rfl⟩
  obtain ⟨S,hS⟩:∃ S,sumOf (zs.take 4)=S:=⟨_,rfl⟩
  have HN:Hid (numOf zs=n):=hn
  have HP:Hid (numOf (zs.drop 4)=P):=hP
  have HS:Hid (sumOf (zs.take 4)=S):=hS
  clear hb h8 hz hn hP hS
  have g1:(4:Int)≤(m:Int):=by omega
  have g2:(m:Int)≤(cap:Int):=by omega
  have g3:¬ (cap=4):=by omega
  have g4:(4:Int)≤(cap:Int):=by omega
  have g5:¬ ((cap:Int)=4):=by omega
  have g6:(8:Int)≤(cap:Int):=by omega
  by_cases hps:P=S
  · have hps':(P==S)=true:=by simpa using hps
    by_cases h1:131072 < n
    · have HO:Hid (openOf zs=([],2)):=by unfold Hid openOf;rw [HP.out,HS.out,HZ.out,HN.out,if_neg (by omega),if_neg (by simpa using hps),if_pos (by omega)]
      clear hps
      go_enter Tryz.func121,Tryz.ntmps121
      go_wp2
      go_quiet ((first
        | (go_at_call 181;exact Calls.quiet_of (number_n P _ _ _ ((zs.drop 4).take 4) _ ((numOf_take _).trans HP.out) (by have:=HZ.out;simp;omega) (by omega) (((HB.out.drop 4).take 4).drewN _) ((H8.out.drop 4).take 4)))
        | (go_at_call 58;exact Calls.quiet_of_same (rsum_n S _ _ _ (zs.take 4) _ HS.out (by have:=HZ.out;simp;omega) (by omega) ((HB.out.take 4).drewN _) (H8.out.take 4)))))
      go_wp2_with fail
      refine (number_n n _ _ _ (zs.take 4) _ ((numOf_take _).trans HN.out) (by have:=HZ.out;simp;omega) (by omega) ((HB.out.take 4).drewN _) (H8.out.take 4)).mono ?_
      rintro e w1 ⟨rfl,n1,hw1⟩
      have HB2:Hid (Bytes w1 (some ⟨b,off,none⟩) zs):=by rw [hw1];exact HB.out
      have HK2:Hid (Kept No w w1):=by rw [hw1];exact (Kept.no_drewN _ _).drewN _
      clear hw1
      go_wp2
      go_ret2
      exact opens_no 2 HO.out HK2.out
    by_cases h2:m < n+12
    · have HO:Hid (openOf zs=([],10)):=by unfold Hid openOf;rw [HP.out,HS.out,HZ.out,HN.out,if_neg (by omega),if_neg (by simpa using hps),if_neg (by omega),if_pos (by omega)]
      clear hps
      go_enter Tryz.func121,Tryz.ntmps121
      go_wp2
      go_quiet ((first
        | (go_at_call 181;exact Calls.quiet_of (number_n P _ _ _ ((zs.drop 4).take 4) _ ((numOf_take _).trans HP.out) (by have:=HZ.out;simp;omega) (by omega) (((HB.out.drop 4).take 4).drewN _) ((H8.out.drop 4).take 4)))
        | (go_at_call 58;exact Calls.quiet_of_same (rsum_n S _ _ _ (zs.take 4) _ HS.out (by have:=HZ.out;simp;omega) (by omega) ((HB.out.take 4).drewN _) (H8.out.take 4)))))
      go_wp2_with fail
      refine (number_n n _ _ _ (zs.take 4) _ ((numOf_take _).trans HN.out) (by have:=HZ.out;simp;omega) (by omega) ((HB.out.take 4).drewN _) (H8.out.take 4)).mono ?_
      rintro e w1 ⟨rfl,n1,hw1⟩
      have HB2:Hid (Bytes w1 (some ⟨b,off,none⟩) zs):=by rw [hw1];exact HB.out
      have HK2:Hid (Kept No w w1):=by rw [hw1];exact (Kept.no_drewN _ _).drewN _
      clear hw1
      go_wp2
      go_ret2
      exact opens_no 10 HO.out HK2.out
    by_cases h3:n+12 < m
    · have HO:Hid (openOf zs=([],11)):=by unfold Hid openOf;rw [HP.out,HS.out,HZ.out,HN.out,if_neg (by omega),if_neg (by simpa using hps),if_neg (by omega),if_neg (by omega),if_pos (by omega)]
      clear hps
      go_enter Tryz.func121,Tryz.ntmps121
      go_wp2
      go_quiet ((first
        | (go_at_call 181;exact Calls.quiet_of (number_n P _ _ _ ((zs.drop 4).take 4) _ ((numOf_take _).trans HP.out) (by have:=HZ.out;simp;omega) (by omega) (((HB.out.drop 4).take 4).drewN _) ((H8.out.drop 4).take 4)))
        | (go_at_call 58;exact Calls.quiet_of_same (rsum_n S _ _ _ (zs.take 4) _ HS.out (by have:=HZ.out;simp;omega) (by omega) ((HB.out.take 4).drewN _) (H8.out.take 4)))))
      go_wp2_with fail
      refine (number_n n _ _ _ (zs.take 4) _ ((numOf_take _).trans HN.out) (by have:=HZ.out;simp;omega) (by omega) ((HB.out.take 4).drewN _) (H8.out.take 4)).mono ?_
      rintro e w1 ⟨rfl,n1,hw1⟩
      have HB2:Hid (Bytes w1 (some ⟨b,off,none⟩) zs):=by rw [hw1];exact HB.out
      have HK2:Hid (Kept No w w1):=by rw [hw1];exact (Kept.no_drewN _ _).drewN _
      clear hw1
      go_wp2
      go_ret2
      exact opens_no 11 HO.out HK2.out
    obtain rfl:m=n+12:=by omega
    obtain ⟨P2,hP2⟩:∃ P,numOf (zs.drop (n+8))=P:=⟨_,rfl⟩
    obtain ⟨S2,hS2⟩:∃ S,sumOf (zs.take (n+8))=S:=⟨_,rfl⟩
    have HP2:Hid (numOf (zs.drop (n+8))=P2):=hP2
    have HS2:Hid (sumOf (zs.take (n+8))=S2):=hS2
    clear hP2 hS2
    have q0:(0:Int)≤(n:Int)+8:=by omega
    have q1:(n:Int)+8≤(n:Int)+12:=by omega
    have q2:((n:Int)+8).toNat=n+8:=by omega
    have q3:¬ (cap=n+8):=by omega
    have k6:¬ (cap=8):=by omega
    clear h2 h3
    by_cases hq:P2=S2
    · have hq':(P2==S2)=true:=by simpa using hq
      have HO:Hid (openOf zs=((zs.drop 8).take n,0)):=by unfold Hid openOf;rw [HP.out,HS.out,HZ.out,HN.out,if_neg (by omega),if_neg (by simpa using hps),if_neg (by omega),if_neg (by omega),if_neg (by omega),Int.toNat_natCast,HP2.out,HS2.out,if_neg (by simpa using hq)]
      clear hps hq
      go_enter Tryz.func121,Tryz.ntmps121
      go_wp2
      go_quiet ((first
        | (go_at_call 181;exact Calls.quiet_of (number_n P _ _ _ ((zs.drop 4).take 4) _ ((numOf_take _).trans HP.out) (by have:=HZ.out;simp;omega) (by omega) (((HB.out.drop 4).take 4).drewN _) ((H8.out.drop 4).take 4)))
        | (go_at_call 58;exact Calls.quiet_of_same (rsum_n S _ _ _ (zs.take 4) _ HS.out (by have:=HZ.out;simp;omega) (by omega) ((HB.out.take 4).drewN _) (H8.out.take 4)))))
      go_wp2_with fail
      refine (number_n n _ _ _ (zs.take 4) _ ((numOf_take _).trans HN.out) (by have:=HZ.out;simp;omega) (by omega) ((HB.out.take 4).drewN _) (H8.out.take 4)).mono ?_
      rintro e w1 ⟨rfl,n1,hw1⟩
      have HB2:Hid (Bytes w1 (some ⟨b,off,none⟩) zs):=by rw [hw1];exact HB.out
      have HK2:Hid (Kept No w w1):=by rw [hw1];exact (Kept.no_drewN _ _).drewN _
      clear hw1
      go_wp2_with fail
      go_quiet ((first
        | (go_at_call 181;exact Calls.quiet_of (number_n P2 _ _ _ (zs.drop (n+8)) _ HP2.out (by have:=HZ.out;simp;omega) (by omega) ((HB2.out.drop (n+8)).drewN _) (H8.out.drop _)))
        | (go_at_call 58;exact Calls.quiet_of_same (rsum_n S2 _ _ _ (zs.take (n+8)) _ HS2.out (by have:=HZ.out;simp;omega) (by omega) ((HB2.out.take (n+8)).drewN _) (H8.out.take _)))))
      go_wp2_with (at_builtin;go_must (refine wp_app _ Tryz.underlying35 Tryz.info5 rfl _ _ rfl w.heap.size none 0 0 [] rfl rfl (OwnS.nil _ _) _ _ _ ((zs.drop 8).take n) rfl (by have:=HZ.out;simp;omega) (((HB2.out.drop 8).take n).drewN _) (fun e=>by cases e) (by have:=HZ.out;simp;omega) (HK2.out.drewN _).size ?_;intro a3 c3 w3 HO3 HK3' HN3))
      have HK3:Hid (Kept No w w3):=(HK2.out.drewN _).fresh HK3'.out (fun i e=>absurd e At.none)
      go_ret2
      exact ⟨a3,n,c3,by rw [HO.out];rfl,by rw [HO.out];have:=HZ.out;simp;omega,by rw [HO.out];exact HO3.out,HK3.out⟩
    · have hq':(P2==S2)=false:=by simpa using hq
      have HO:Hid (openOf zs=([],12)):=by unfold Hid openOf;rw [HP.out,HS.out,HZ.out,HN.out,if_neg (by omega),if_neg (by simpa using hps),if_neg (by omega),if_neg (by omega),if_neg (by omega),Int.toNat_natCast,HP2.out,HS2.out,if_pos (by simpa using hq)]
      clear hps hq
      go_enter Tryz.func121,Tryz.ntmps121
      go_wp2
      go_quiet ((first
        | (go_at_call 181;exact Calls.quiet_of (number_n P _ _ _ ((zs.drop 4).take 4) _ ((numOf_take _).trans HP.out) (by have:=HZ.out;simp;omega) (by omega) (((HB.out.drop 4).take 4).drewN _) ((H8.out.drop 4).take 4)))
        | (go_at_call 58;exact Calls.quiet_of_same (rsum_n S _ _ _ (zs.take 4) _ HS.out (by have:=HZ.out;simp;omega) (by omega) ((HB.out.take 4).drewN _) (H8.out.take 4)))))
      go_wp2_with fail
      refine (number_n n _ _ _ (zs.take 4) _ ((numOf_take _).trans HN.out) (by have:=HZ.out;simp;omega) (by omega) ((HB.out.take 4).drewN _) (H8.out.take 4)).mono ?_
      rintro e w1 ⟨rfl,n1,hw1⟩
      have HB2:Hid (Bytes w1 (some ⟨b,off,none⟩) zs):=by rw [hw1];exact HB.out
      have HK2:Hid (Kept No w w1):=by rw [hw1];exact (Kept.no_drewN _ _).drewN _
      clear hw1
      go_wp2_with fail
      go_quiet ((first
        | (go_at_call 181;exact Calls.quiet_of (number_n P2 _ _ _ (zs.drop (n+8)) _ HP2.out (by have:=HZ.out;simp;omega) (by omega) ((HB2.out.drop (n+8)).drewN _) (H8.out.drop _)))
        | (go_at_call 58;exact Calls.quiet_of_same (rsum_n S2 _ _ _ (zs.take (n+8)) _ HS2.out (by have:=HZ.out;simp;omega) (by omega) ((HB2.out.take (n+8)).drewN _) (H8.out.take _)))))
      go_wp2
      go_ret2
      exact opens_no 12 HO.out (HK2.out.drewN _)
  · have hps':(P==S)=false:=by simpa using hps
    have HO:Hid (openOf zs=([],12)):=by unfold Hid openOf;rw [HP.out,HS.out,HZ.out,if_neg (by omega),if_pos hps]
    clear hps
    go_enter Tryz.func121,Tryz.ntmps121
    go_wp2
    go_quiet ((first
      | (go_at_call 181;exact Calls.quiet_of (number_n P _ _ _ ((zs.drop 4).take 4) _ ((numOf_take _).trans HP.out) (by have:=HZ.out;simp;omega) (by omega) (((HB.out.drop 4).take 4).drewN _) ((H8.out.drop 4).take 4)))
      | (go_at_call 58;exact Calls.quiet_of_same (rsum_n S _ _ _ (zs.take 4) _ HS.out (by have:=HZ.out;simp;omega) (by omega) ((HB.out.take 4).drewN _) (H8.out.take 4)))))
    go_wp2
    go_ret2
    exact opens_no 12 HO.out (Kept.no_drewN _ _)
set_option maxRecDepth 1000000 in
set_option maxHeartbeats 400000 in
theorem ropen_cut (a:Option Addr) (m cap:Nat) (zs:List Int) (w:World) (hz:zs.length=m) (hl:m < 8) :
    Calls Tryz.prog 121 #[.slice a m cap] w (Opens w zs):=by
  have HO:Hid (openOf zs=([],10)):=by unfold Hid openOf;rw [if_pos (by omega)]
  clear hz
  go_enter Tryz.func121,Tryz.ntmps121
  go_wp2
  go_ret2
  exact opens_no 10 HO.out (Kept.refl _ _)
structure Sl (w:World) (a:Option Addr) (m cap:Nat) (zs:List Int):Prop where
  len:zs.length=m
  bytes:Bytes w a zs
  u8:U8 zs
  le:m≤cap
  cm:cap≤9223372036854775807
  bd:m≤140737488351232
  nil:a=none→cap=0
theorem Sl.kept {S:Nat→Prop} {w w':World} {a:Option Addr} {m cap:Nat} {zs:List Int} (h:Sl w a m cap zs) (hk:Kept S w w') (hS:∀ k,k < w.heap.size→¬ S k):Sl w' a m cap zs:=
  ⟨h.len,fun i hi=>by
    obtain ⟨b,off,rfl,hc⟩:=h.bytes i hi
    exact ⟨b,off,rfl,hk.cell hc (hS b (World.block_lt_of_cell? w _ hc))⟩,h.u8,h.le,h.cm,h.bd,h.nil⟩
theorem Sl.no {w w':World} {a:Option Addr} {m cap:Nat} {zs:List Int} (h:Sl w a m cap zs) (hk:Kept No w w'):Sl w' a m cap zs:=h.kept hk (fun _ _ e=>e)
theorem Sl.off {S:Nat→Prop} {w w':World} {a:Option Addr} {m cap:Nat} {zs:List Int} (h:Sl w a m cap zs) (hk:Kept S w w') (hS:∀ k,At a k→¬ S k):Sl w' a m cap zs:=
  ⟨h.len,h.bytes.kept hk (fun b off e=>hS b ⟨_,e,rfl⟩),h.u8,h.le,h.cm,h.bd,h.nil⟩
theorem OwnS.sl {w:World} {base:Nat} {a:Option Addr} {m cap:Nat} {zs:List Int} (h:OwnS w base a cap zs) (hm:zs.length=m) (h8:U8 zs) (hb:m≤140737488351232):Sl w a m cap zs:=by
  refine ⟨hm,h.bytes,h8,by rw [← hm];exact h.len,?_,hb,h.nilcap⟩
  rcases h.cases with ⟨_,rfl,_⟩ | ⟨g,_,_,_,_,hc⟩
  · omega
  · unfold maxLen at hc;omega
theorem open_sl {a:Option Addr} {m cap:Nat} {zs:List Int} {w:World} (h:Sl w a m cap zs):Calls Tryz.prog 157 #[.slice a m cap] w (Opens w zs):=by
  by_cases hl:m < 8
  · exact open_cut a m cap zs w h.len hl
  · obtain ⟨b,off,rfl,_⟩:=h.bytes 0 (by rw [h.len];omega)
    exact open_any b off m cap zs w h.len (by have:=h.bd;omega) h.cm h.le h.bytes h.u8 (by omega)
theorem ropen_sl {a:Option Addr} {m cap:Nat} {zs:List Int} {w:World} (h:Sl w a m cap zs):Calls Tryz.prog 121 #[.slice a m cap] w (Opens w zs):=by
  by_cases hl:m < 8
  · exact ropen_cut a m cap zs w h.len hl
  · obtain ⟨b,off,rfl,_⟩:=h.bytes 0 (by rw [h.len];omega)
    exact ropen_any b off m cap zs w h.len (by have:=h.bd;omega) h.cm h.le h.bytes h.u8 (by omega)
theorem Sl.nilS (w:World):Sl w none 0 0 []:=⟨rfl,fun i hi=>absurd hi (Nat.not_lt_zero _),U8.nil,Nat.le_refl _,by omega,by omega,fun _=>rfl⟩
theorem and127 (v:Nat) (h:W64 v):bits .and .u64 (v:Int) 127=(v:Int) % 128:=by
  unfold W64 at h
  exact bits_mask .u64 64 (by decide) (fun n a b=>by simp [IntKind.wrap,IntKind.bits,IntKind.signed];omega) 7 (by decide) (v:Int) (by omega) (by omega)
set_option maxRecDepth 1000000 in
set_option maxHeartbeats 1000000 in
theorem rvarint_any (u:Nat) (w:World) (hu:W64 u) :
    Calls Tryz.prog 230 #[.int .u64 (u:Int)] w fun e w'=>∃ a' n' c',e=.returned (.slice a' n' c')∧n'=(vint u).length∧OwnS w' w.heap.size a' c' (vint u)∧Kept No w w':=by
  have HU:Hid (W64 u):=hu
  have HV:Hid ((vint u).length≤10):=vint_len10 u hu
  clear hu
  go_enter Tryz.func230,Tryz.ntmps230
  go_wp2
  go_loopw [0,3] (fun s o wr=>∃ v:Nat,∃ a' n' c',Hid (W64 v)∧s=.int .u64 (v:Int)∧o=.slice a' n' c'∧Hid (∃ zs',n'=zs'.length∧OwnS wr w.heap.size a' c' zs'∧zs'++vint v=vint u)∧Hid (Kept No w wr)) (fun s _ _=>(intOf s).toNat)
  case atStart=>exact ⟨u,none,0,0,HU,rfl,rfl,⟨[],rfl,OwnS.nil _ _,rfl⟩,Kept.refl _ _⟩
  case round=>
    obtain ⟨v,a1,n1,c1,HV2,rfl,rfl,HR,HK⟩:=hrel
    obtain ⟨zs1,hn1,ho1,he1⟩:=HR.out
    have HN1:Hid (n1=zs1.length):=hn1
    have HO1:Hid (OwnS wr w.heap.size a1 c1 zs1):=ho1
    have HE1:Hid (zs1++vint v=vint u):=he1
    clear hn1 ho1 he1 HR
    by_cases hlt:v < 128
    · have h2:¬ (127:Int) < (v:Int):=by omega
      have hn:n1≤10:=by have h1:=congrArg List.length HE1.out;have:=HV.out;have:=HN1.out;rw [List.length_append] at h1;omega
      go_wp2_with (at_builtin;go_must (refine wp_appB _ Tryz.underlying35 Tryz.info5 rfl _ _ rfl w.heap.size _ _ _ zs1 rfl HN1.out.symm (HO1.out.no ((Kept.refl _ _).alloc _)) _ _ _ [(v:Int)] rfl rfl (one_own _ _).bytes (fun e=>by cases e) (by omega) (by have:=HK.out.size;simp;omega) ?_;intro a2 c2 w2 HO2 HK2 HM2))
      go_ret
      exact ⟨a2,_,c2,rfl,by rw [← HE1.out,vint_lo hlt,HN1.out];simp,by rw [← HE1.out,vint_lo hlt];exact HO2.out,(HK.out.alloc _).fresh HK2.out (fun i e=>HO1.out.base e)⟩
    · have h2:(127:Int) < (v:Int):=by omega
      have h3:(v:Int)≤18446744073709551615:=by have:=HV2.out;unfold W64 at this;omega
      have hb:=and127 v HV2.out
      have hn:n1≤10:=by have h1:=congrArg List.length HE1.out;have:=HV.out;have:=HN1.out;rw [List.length_append] at h1;omega
      go_wp2_with (at_builtin;go_must (refine wp_appB _ Tryz.underlying35 Tryz.info5 rfl _ _ rfl w.heap.size _ _ _ zs1 rfl HN1.out.symm (HO1.out.no ((Kept.refl _ _).alloc _)) _ _ _ [(v:Int) % 128+128] rfl rfl (one_own _ _).bytes (fun e=>by cases e) (by omega) (by have:=HK.out.size;simp;omega) ?_;intro a2 c2 w2 HO2 HK2 HM2))
      have HF:Hid (∃ zs',n1+1=zs'.length∧OwnS w2 w.heap.size a2 c2 zs'∧zs'++vint (v / 128)=vint u):=⟨_,by rw [HN1.out];simp,HO2.out,by rw [← HE1.out,vint_hi hlt];simp⟩
      have HK3:Hid (Kept No w w2):=(HK.out.alloc _).fresh HK2.out (fun i e=>HO1.out.base e)
      go_roundw
      case rel=>exact ⟨v / 128,a2,n1+1,c2,HV2.out.div 128,by go_num,rfl,HF,HK3⟩
      case measure=>simp [intOf];omega
structure Item where
  k:Int
  n:Int
  a:Option Addr
  m:Nat
  c:Nat
  zs:List Int
def Item.val (x:Item):Value:=.agg #[.int .i64 x.k,.int .i64 x.n,.slice x.a x.m x.c]
structure ItOk (w:World) (x:Item):Prop where
  sl:Sl w x.a x.m x.c x.zs
  lo:-9223372036854775808≤x.n
  hi:x.n≤9223372036854775807
theorem ItOk.no {w w':World} {x:Item} (h:ItOk w x) (hk:Kept No w w'):ItOk w' x:=⟨h.sl.no hk,h.lo,h.hi⟩
def Its (w:World) (a:Option Addr) (xs:List Item):Prop:=∀ (i:Nat) x,xs[i]?=some x→∃ b off,a=some ⟨b,off,none⟩ ∧
  w.cell? ⟨b,off+i*3,none⟩=some (.int .i64 x.k)∧w.cell? ⟨b,off+i*3+1,none⟩=some (.int .i64 x.n)∧w.cell? ⟨b,off+i*3+2,none⟩=some (.slice x.a x.m x.c)
theorem Its.kept {S:Nat→Prop} {w w':World} {a:Option Addr} {xs:List Item} (h:Its w a xs) (hk:Kept S w w') (hS:∀ k,At a k→¬ S k):Its w' a xs:=by
  intro i x hx
  obtain ⟨b,off,rfl,h1,h2,h3⟩:=h i x hx
  exact ⟨b,off,rfl,hk.cell h1 (hS b ⟨_,rfl,rfl⟩),hk.cell h2 (hS b ⟨_,rfl,rfl⟩),hk.cell h3 (hS b ⟨_,rfl,rfl⟩)⟩
theorem Its.no {w w':World} {a:Option Addr} {xs:List Item} (h:Its w a xs) (hk:Kept No w w'):Its w' a xs:=h.kept hk (fun _ _ e=>e)
def putOf (x:Item):List Int:=if x.k=1 then vint x.n.toNat else if x.k=2 then vint (zz x.n) else vint x.zs.length++x.zs
def putIt (st:Option (List Int)) (x:Item):Option (List Int):=if x.k=1 then putNum st x.n else if x.k=2 then st.map (·++vint (zz x.n)) else putBytes st x.zs
def allOf (xs:List Item):Option (List Int):=xs.foldl putIt (some [])
theorem putIt_none (x:Item):putIt none x=none:=by
  unfold putIt putNum putBytes;split
  · split <;> rfl
  · split <;> rfl
theorem putIt_neg (st:Option (List Int)) {x:Item} (h:x.k=1) (h':x.n < 0):putIt st x=none:=by unfold putIt putNum;rw [if_pos h,if_pos h']
theorem putIt_some (zs:List Int) {x:Item} (h:x.k=1→0≤x.n):putIt (some zs) x=some (zs++putOf x):=by
  unfold putIt putOf putNum putBytes
  split
  · rw [if_neg (by have:=h ‹_›;omega)];rfl
  · split <;> rfl
theorem fold_none (xs:List Item):xs.foldl putIt none=none:=by
  induction xs with
  | nil=>rfl
  | cons x r ih=>rw [List.foldl_cons,putIt_none];exact ih
theorem allOf_snoc (xs:List Item) (k:Nat) (x:Item) (h:xs[k]?=some x):allOf (xs.take (k+1))=putIt (allOf (xs.take k)) x:=by
  obtain ⟨hk,rfl⟩:=List.getElem?_eq_some_iff.1 h
  rw [List.take_succ_eq_append_getElem hk,allOf,List.foldl_append]
  rfl
theorem allOf_none {xs:List Item} (k:Nat) (h:allOf (xs.take k)=none):allOf xs=none:=by
  have e:allOf xs=(xs.drop k).foldl putIt (allOf (xs.take k)):=by
    unfold allOf;rw [← List.foldl_append,List.take_append_drop]
  rw [e,h,fold_none]
def tot (xs:List Item):Nat:=(xs.map (fun x=>10+x.m)).sum
theorem tot_take (xs:List Item) (k:Nat):tot (xs.take k)≤tot xs:=by
  have:tot xs=tot (xs.take k)+tot (xs.drop k):=by
    unfold tot;rw [← List.sum_append,← List.map_append,List.take_append_drop]
  omega
theorem Bytes.kept2 {S:Nat→Prop} {w w':World} {a:Option Addr} {zs:List Int} (h:Bytes w a zs) (hk:Kept S w w') (hS:0 < zs.length→∀ k,At a k→¬ S k):Bytes w' a zs:=by
  intro i hi
  obtain ⟨b,off,rfl,hc⟩:=h i hi
  exact ⟨b,off,rfl,hk.cell hc (hS (by omega) b ⟨_,rfl,rfl⟩)⟩
theorem World.heap_size_alloc1 (w:World) (o:Obj):(w.alloc o).heap.size=w.heap.size+1:=by simp
theorem Tryz.assertNil (w:World):(Instr.typeAssert Value.nilIface 20 47 true).run Tryz.prog w=.ok (.tuple #[.int .i64 0,.bool false]) w:=by kernel_rfl
theorem Tryz.assertErr (v:Value) (w:World):(Instr.typeAssert (.iface 47 v) 20 47 true).run Tryz.prog w=.ok (.tuple #[v,.bool true]) w:=by kernel_rfl
set_option maxRecDepth 1000000 in
set_option maxHeartbeats 1000000 in
theorem catch_idle (p q:Addr) (w:World) :
    CallsD Tryz.prog 226 #[.pointer (some p),.pointer (some q)] .returning w fun e u' w'=>e=.returned (.tuple #[])∧u'=.returning∧w'=w:=by
  have h:=fun w=>Tryz.assertNil w
  refine callsD_of_wpS Tryz.func226 rfl fun c₀ cs hu=>?_
  apply wpS_seq
  apply wpS_region
  simp [wpOpsS,go_sem,recoverD,hu,Tryz.ntmps226,Exit.thenS,h]
  apply wpS_seq
  apply wpS_region
  simp [wpOpsS,go_sem,Exit.thenS]
  refine wpS_cond (t:=false) (by simp [Act.eval,Array.replicate]) ?_
  simp only[Bool.false_eq_true,if_false]
  refine wpS_of_wp (wp_skip ?_)
  cases c₀
  simp_all [bodyPostS,results,Tryz.results226]
set_option maxRecDepth 1000000 in
set_option maxHeartbeats 1000000 in
theorem catch_panicking (p q g:Nat) (at_ code:Int) (v0 v1 v2 v3:Value) (older:List PanicEntry) (w:World)
    (hp:w.cell? ⟨p,0,none⟩=some (.int .i64 at_)) (hq:w.cell? ⟨q,0,none⟩=some (.pointer (some ⟨g,0,none⟩)))
    (c0:w.cell? ⟨g,0,none⟩=some v0) (c1:w.cell? ⟨g,1,none⟩=some v1) (c2:w.cell? ⟨g,2,none⟩=some v2) (c3:w.cell? ⟨g,3,none⟩=some v3)
    (f0:w.frozen? ⟨g,0,none⟩=false) (f1:w.frozen? ⟨g,1,none⟩=false) (f2:w.frozen? ⟨g,2,none⟩=false) (f3:w.frozen? ⟨g,3,none⟩=false) :
    CallsD Tryz.prog 226 #[.pointer (some ⟨p,0,none⟩),.pointer (some ⟨q,0,none⟩)] (.panicking ({ v:=.iface 47 (.int .i64 code),recovered:=false } :: older)) w fun e u' w'=>
      e=.returned (.tuple #[])∧u'=.panicking ({ v:=.iface 47 (.int .i64 code),recovered:=true } :: older) ∧
      w'=(((w.setCell ⟨g,0,none⟩ (.slice none 0 0)).setCell ⟨g,1,none⟩ (.int .i64 0)).setCell ⟨g,2,none⟩ (.int .i64 at_)).setCell ⟨g,3,none⟩ (.int .i64 code):=by
  have h:=fun v w=>Tryz.assertErr v w
  refine callsD_of_wpS Tryz.func226 rfl fun c₀ cs hu=>?_
  apply wpS_seq
  apply wpS_region
  simp [wpOpsS,go_sem,recoverD,hu,Tryz.ntmps226,Exit.thenS,h]
  apply wpS_seq
  apply wpS_region
  simp [wpOpsS,go_sem,Exit.thenS]
  refine wpS_cond (t:=true) (by simp [Act.eval,Array.replicate]) ?_
  simp only[if_true]
  clear h
  refine wpS_of_wp ?_
  go_wp2
  clear hp hq c0 c1 c2 c3 f0 f1 f2 f3
  simp [bodyPostS,results,Tryz.results226]
structure Rd (w:World) (g:Nat) (la:Option Addr) (lc:Nat) (zs:List Int) (at_:Nat):Prop where
  cell:w.heap[g]?=some (.cells #[.slice la zs.length lc,.int .i64 (at_:Int),.int .i64 0,.int .i64 0] 231 (0,0))
  sl:Sl w la zs.length lc zs
  bd:at_+zs.length≤140737488355328
theorem Rd.lt {w:World} {g:Nat} {la:Option Addr} {lc:Nat} {zs:List Int} {at_:Nat} (h:Rd w g la lc zs at_):g < w.heap.size:=(Array.getElem?_eq_some_iff.1 h.cell).1
theorem Rd.ne {w:World} {g:Nat} {la:Option Addr} {lc:Nat} {zs:List Int} {at_:Nat} (h:Rd w g la lc zs at_) (h0:0 < zs.length) {k:Nat} (hk:At la k):k≠g:=by
  rintro rfl
  obtain ⟨b,off,rfl,hc⟩:=h.sl.bytes 0 h0
  obtain ⟨ad,e,e2⟩:=hk
  cases e
  simp only at e2
  subst e2
  rw [cell_of_row w b (off+0) _ 231 (0,0) h.cell] at hc
  match off,hc with
  | 0,hc=>simp at hc
  | 1,hc=>simp at hc
  | 2,hc=>simp at hc
  | 3,hc=>simp at hc
  | n+4,hc=>simp at hc
theorem Rd.no {w w':World} {g:Nat} {la:Option Addr} {lc:Nat} {zs:List Int} {at_:Nat} (h:Rd w g la lc zs at_) (hk:Kept No w w'):Rd w' g la lc zs at_:=
  ⟨(hk.block g h.lt (fun e=>e)).trans h.cell,h.sl.no hk,h.bd⟩
theorem Sl.kept2 {S:Nat→Prop} {w w':World} {a:Option Addr} {m cap:Nat} {zs:List Int} (h:Sl w a m cap zs) (hk:Kept S w w') (hS:0 < zs.length→∀ k,At a k→¬ S k):Sl w' a m cap zs:=
  ⟨h.len,h.bytes.kept2 hk hS,h.u8,h.le,h.cm,h.bd,h.nil⟩
theorem take_end {w:World} {g b off lc:Nat} {zs:List Int} {at_ n:Nat} {la':Option Addr} (h:Rd w g (some ⟨b,off,none⟩) lc zs at_) (hn:n≤zs.length)
    (hla:(lc=n∧la'=some ⟨b,off,none⟩)∨(lc≠n∧la'=some ⟨b,off+n,none⟩)) {v:Int} (hv:v=((at_+n:Nat):Int)) :
    Rd ((w.setCell ⟨g,0,none⟩ (.slice la' (zs.length - n) (lc - n))).setCell ⟨g,1,none⟩ (.int .i64 v)) g la' (lc - n) (zs.drop n) (at_+n) ∧
    Kept (Only g) w ((w.setCell ⟨g,0,none⟩ (.slice la' (zs.length - n) (lc - n))).setCell ⟨g,1,none⟩ (.int .i64 v)):=by
  subst hv
  have hK:Kept (Only g) w ((w.setCell ⟨g,0,none⟩ (.slice la' (zs.length - n) (lc - n))).setCell ⟨g,1,none⟩ (.int .i64 ((at_+n:Nat):Int))):=
    ((Kept.refl (Only g) w).setCell (p:=⟨g,0,none⟩) (fun _=>(rfl:g=g)) _).setCell (p:=⟨g,1,none⟩) (fun _=>(rfl:g=g)) _
  refine ⟨⟨?_,?_,?_⟩,hK⟩
  · have h1:=heap_setCell_same w g 0 _ 231 (.slice la' (zs.length - n) (lc - n)) h.cell
    have h2:=heap_setCell_same _ g 1 _ 231 (.int .i64 ((at_+n:Nat):Int)) h1
    rw [h2,List.length_drop];rfl
  · have hs:=h.sl
    have hcap:=hs.le
    have hl:(zs.drop n).length=zs.length - n:=List.length_drop
    have hby:Bytes w la' (zs.drop n):=by
      rcases hla with ⟨e1,rfl⟩ | ⟨e1,rfl⟩
      · have:zs.drop n=[]:=List.drop_eq_nil_of_le (by omega)
        rw [this];intro i hi;exact absurd hi (Nat.not_lt_zero _)
      · exact hs.bytes.drop n
    refine ⟨rfl,hby.kept2 hK (fun h0 k hk e=>?_),hs.u8.drop n,by rw [hl];omega,by have:=hs.cm;omega,by rw [hl];have:=hs.bd;omega,fun e=>?_⟩
    · refine h.ne (by omega) (k:=k) ?_ e
      rcases hla with ⟨e1,rfl⟩ | ⟨e1,rfl⟩
      · exact hk
      · obtain ⟨ad,e',e2⟩:=hk;cases e';exact ⟨_,rfl,e2⟩
    · rcases hla with ⟨e1,rfl⟩ | ⟨e1,rfl⟩ <;> cases e
  · have:=h.bd;rw [List.length_drop];omega
set_option maxRecDepth 1000000 in
set_option maxHeartbeats 1000000 in
theorem take_any (g b off lc:Nat) (zs:List Int) (at_ n:Nat) (w:World) (h:Rd w g (some ⟨b,off,none⟩) lc zs at_) (hn:n≤zs.length) :
    Calls Tryz.prog 232 #[.pointer (some ⟨g,0,none⟩),.int .i64 (n:Int)] w fun e w'=>e=.returned (.slice (some ⟨b,off,none⟩) n lc)∧∃ b' off' lc',At (some ⟨b,off,none⟩) b'∧Rd w' g (some ⟨b',off',none⟩) lc' (zs.drop n) (at_+n)∧Kept (Only g) w w':=by
  have HR:Hid (Rd w g (some ⟨b,off,none⟩) lc zs at_):=h
  have hbd:=h.bd
  have hcm:=h.sl.cm
  have hle:=h.sl.le
  have c0:w.cell? ⟨g,0,none⟩=some (.slice (some ⟨b,off,none⟩) zs.length lc):=by rw [cell_of_row w g 0 _ 231 (0,0) h.cell];rfl
  have c1:w.cell? ⟨g,1,none⟩=some (.int .i64 (at_:Int)):=by rw [cell_of_row w g 1 _ 231 (0,0) h.cell];rfl
  have f0:=frozen_of_row w g 0 _ 231 h.cell
  have f1:=frozen_of_row w g 1 _ 231 h.cell
  have q0:(n:Int)≤(lc:Int):=by omega
  have q1:(n:Int)≤(zs.length:Int):=by omega
  clear h
  by_cases hc:lc=n
  · subst hc
    go_enter Tryz.func232,Tryz.ntmps232
    go_wp2
    go_ret
    refine ⟨rfl,b,off,lc - lc,⟨_,rfl,rfl⟩,?_⟩
    have e1:zs.length - lc=0:=by omega
    have e2:lc - lc=0:=by omega
    have:=take_end (v:=(at_:Int)+(lc:Int)) HR.out hn (.inl ⟨rfl,rfl⟩) (by omega)
    rw [e1,e2] at this
    rw [e2]
    exact this
  · go_enter Tryz.func232,Tryz.ntmps232
    go_wp2
    go_ret
    refine ⟨rfl,b,off+n,lc - n,⟨_,rfl,rfl⟩,?_⟩
    exact take_end HR.out hn (.inr ⟨hc,rfl⟩) (by omega)
def byt (zs:List Int) (i:Nat):Nat:=(zs[i]?.getD 0).toNat
def acc (zs:List Int):Nat→Nat
  | 0=>0
  | i+1=>acc zs i+byt zs i % 128*128 ^ i
def vrGo (zs:List Int):Nat→Nat→Except Int (Nat × Nat)
  | i,0=>.error 11
  | i,f+1=>if zs.length≤i then .error 10 else
      if byt zs i < 128 then (if (0 < i∧byt zs i=0)∨(i=9∧1 < byt zs i) then .error 11 else .ok (acc zs (i+1),i+1))
      else vrGo zs (i+1) f
def vr (zs:List Int):Except Int (Nat × Nat):=vrGo zs 0 10
theorem acc_lt (zs:List Int) (i:Nat):acc zs i < 128 ^ i:=by
  induction i with
  | zero=>simp [acc]
  | succ i ih=>
    rw [acc,Nat.pow_succ]
    have h1:byt zs i % 128≤127:=by omega
    have h2:byt zs i % 128*128 ^ i≤127*128 ^ i:=Nat.mul_le_mul_right _ h1
    omega
theorem vr_step (zs:List Int) (k:Nat) (h:k < 10):vrGo zs k (10 - k)=if zs.length≤k then .error 10 else
      if byt zs k < 128 then (if (0 < k∧byt zs k=0)∨(k=9∧1 < byt zs k) then .error 11 else .ok (acc zs (k+1),k+1))
      else vrGo zs (k+1) (10 - (k+1)):=by
  rw [show 10 - k=(10 - (k+1))+1 from by omega,vrGo]
theorem wrap64u (n:Int) (a:0≤n) (b:n < 18446744073709551616):IntKind.u64.wrap n=n:=by
  have e:IntKind.u64.wrap n=n % 18446744073709551616:=by simp [IntKind.wrap,IntKind.bits,IntKind.signed]
  rw [e];omega
theorem or_step (zs:List Int) (k B:Nat) (hB:byt zs k=B) (h:k≤8∨(k=9∧B≤1)) :
    bits .or .u64 (acc zs k:Int) (IntKind.u64.wrap ((B:Int) % 128*2 ^ (7*k)))=(acc zs (k+1):Int):=by
  have hp:(2:Int) ^ (7*k)=((128 ^ k:Nat):Int):=by rw [Int.pow_mul,Int.natCast_pow];rfl
  have ha:=acc_lt zs k
  have hx:B % 128*128 ^ k < 18446744073709551616:=by
    rcases h with h | ⟨rfl,h⟩
    · have h1:128 ^ k≤128 ^ 8:=Nat.pow_le_pow_right (by decide) h
      have h2:B % 128*128 ^ k≤127*128 ^ 8:=Nat.mul_le_mul (by omega) h1
      omega
    · have h2:B % 128*128 ^ 9≤1*128 ^ 9:=Nat.mul_le_mul (by omega) (Nat.le_refl _)
      omega
  have hk9:128 ^ k≤128 ^ 9:=Nat.pow_le_pow_right (by decide) (by omega)
  have e1:(B:Int) % 128*2 ^ (7*k)=((B % 128*128 ^ k:Nat):Int):=by rw [hp,Int.natCast_mul];rfl
  have e2:IntKind.u64.wrap ((B:Int) % 128*2 ^ (7*k))=((B % 128*128 ^ k:Nat):Int):=by
    rw [e1];exact wrap64u _ (by omega) (by omega)
  rw [e2,bits_or_comm,bits_join .u64 64 (by decide) (fun n a b=>wrap64u n a (by omega)) (7*k) _ _ (by omega) (by rw [hp,Int.natCast_mul];exact Int.mul_emod_left _ _) (by omega) (by omega) (by rw [hp];omega) (by omega)]
  rw [acc,hB]
  omega
abbrev Thrown (code:Int):Ending:=.panicked [{ v:=.iface 47 (.int .i64 code),recovered:=false }]
set_option maxRecDepth 1000000 in
set_option maxHeartbeats 400000 in
theorem check_bad (i b:Nat) (w:World) (hi:i≤9) (hb:b≤255) (h:(0 < i∧b=0)∨(i=9∧1 < b)) :
    Calls Tryz.prog 233 #[.int .i64 (i:Int),.int .u8 (b:Int)] w fun e w'=>e=Thrown 11∧w'=w:=by
  by_cases h0:0 < i∧b=0
  · obtain ⟨h1,rfl⟩:=h0
    have i0:(0:Int) < (i:Int):=by omega
    clear h hi h1
    go_enter Tryz.func233,Tryz.ntmps233
    go_wp2
    exact ⟨rfl,rfl,rfl⟩
  · obtain ⟨rfl,h1⟩:i=9∧1 < b:=by omega
    have b0:((b:Int)==0)=false:=by simp;omega
    have b1:(1:Int) < (b:Int):=by omega
    clear h h0 hi
    go_enter Tryz.func233,Tryz.ntmps233
    go_wp2
    exact ⟨rfl,rfl,rfl⟩
set_option maxRecDepth 1000000 in
set_option maxHeartbeats 400000 in
theorem check_ok (i b:Nat) (w:World) (hi:i≤9) (hb:b≤255) (h:¬ ((0 < i∧b=0)∨(i=9∧1 < b))) :
    Calls Tryz.prog 233 #[.int .i64 (i:Int),.int .u8 (b:Int)] w fun e w'=>e=.returned (.tuple #[])∧w'=w:=by
  by_cases h0:i=0
  · subst h0
    clear h
    go_enter Tryz.func233,Tryz.ntmps233
    go_wp2
    go_end0
    exact ⟨rfl,rfl⟩
  · have i0:(0:Int) < (i:Int):=by omega
    have b0:((b:Int)==0)=false:=by simp;omega
    by_cases h9:i=9
    · subst h9
      have b1:¬ (1:Int) < (b:Int):=by omega
      clear h h0
      go_enter Tryz.func233,Tryz.ntmps233
      go_wp2
      go_end0
      exact ⟨rfl,rfl⟩
    · have i9:((i:Int)==9)=false:=by simp;omega
      clear h h0 h9
      go_enter Tryz.func233,Tryz.ntmps233
      go_wp2
      go_end0
      exact ⟨rfl,rfl⟩
def VrPost (w:World) (g:Nat) (la:Option Addr) (zs:List Int) (at_:Nat) (kd:IntKind) (V:Except Int (Nat × Nat)) (e:Ending) (w':World):Prop:=
  match V with
  | .error c=>e=Thrown c∧w'=w
  | .ok (u,k)=>e=.returned (.int kd (u:Int))∧∃ b' off' lc',At la b'∧Rd w' g (some ⟨b',off',none⟩) lc' (zs.drop k) (at_+k)∧Kept (Only g) w w'
set_option maxRecDepth 1000000 in
set_option maxHeartbeats 1000000 in
theorem rvar_any (g:Nat) (la:Option Addr) (lc:Nat) (zs:List Int) (at_:Nat) (w:World) (h:Rd w g la lc zs at_) :
    Calls Tryz.prog 227 #[.pointer (some ⟨g,0,none⟩)] w (VrPost w g la zs at_ .u64 (vr zs)):=by
  have HR:Hid (Rd w g la lc zs at_):=h
  have hbd:=h.bd
  have c0:w.cell? ⟨g,0,none⟩=some (.slice la zs.length lc):=by rw [cell_of_row w g 0 _ 231 (0,0) h.cell];rfl
  obtain ⟨V,hV⟩:∃ V,V=vr zs:=⟨_,rfl⟩
  rw [← hV]
  have HV:Hid (V=vrGo zs 0 10):=hV
  clear h hV
  go_enter Tryz.func227,Tryz.ntmps227
  go_wp2
  go_loop [3,6] (fun u i=>∃ (k:Nat) (U:Int),k≤10∧k≤zs.length∧i=.int .i64 (k:Int)∧u=.int .u64 U∧Hid (k≤9→U=(acc zs k:Int))∧Hid (V=vrGo zs k (10 - k))) (fun _ i=>10 - (intOf i).toNat)
  case atStart=>exact ⟨0,0,by omega,by omega,rfl,rfl,fun _=>rfl,HV⟩
  case round=>
    obtain ⟨k,U,hk,hkl,rfl,rfl,HU,HK⟩:=hrel
    by_cases hlt:k < 10
    · have i1:(k:Int) < 10:=by omega
      by_cases hcut:k < zs.length
      · have i2:((k:Int)==(zs.length:Int))=false:=by simp;omega
        have i3:(k:Int) < (zs.length:Int):=by omega
        obtain ⟨b,off,rfl,hcl⟩:=HR.out.sl.bytes k hcut
        obtain ⟨B,hB⟩:∃ B:Nat,zs[k]?.getD 0=(B:Int):=⟨byt zs k,by have:=HR.out.sl.u8 k;unfold byt;omega⟩
        have hB8:B≤255:=by have:=HR.out.sl.u8 k;omega
        rw [hB] at hcl
        have HB:Hid (byt zs k=B):=by unfold Hid byt;rw [hB];simp
        clear hB
        by_cases h128:B < 128
        · have j1:(B:Int) < 128:=by omega
          by_cases hbad:(0 < k∧B=0)∨(k=9∧1 < B)
          · have HE:Hid (V=.error 11):=by
              show V=_
              rw [HK.out,vr_step zs k hlt,if_neg (by omega),HB.out,if_pos h128,if_pos hbad]
            clear HV HK HU
            go_wp2_with fail
            refine (check_bad k B w (by omega) hB8 hbad).mono ?_
            rintro e w1 ⟨rfl,rfl⟩
            go_wp2
            exact ⟨rfl,by rw [HE.out];exact ⟨rfl,rfl⟩⟩
          · have HE:Hid (V=.ok (acc zs (k+1),k+1)):=by
              show V=_
              rw [HK.out,vr_step zs k hlt,if_neg (by omega),HB.out,if_pos h128,if_neg hbad]
            have HS:Hid (bits .or .u64 U (IntKind.u64.wrap ((B:Int) % 128*2 ^ (7*k)))=(acc zs (k+1):Int)):=by
              rw [Hid,HU.out (by omega)];exact or_step zs k B HB.out (by omega)
            clear HV HK HU
            go_wp2_with fail
            refine (check_ok k B w (by omega) hB8 hbad).mono ?_
            rintro e w1 ⟨rfl,rfl⟩
            go_wp2_with fail
            refine (take_any g b off lc zs at_ (k+1) w1 HR.out (by omega)).mono ?_
            rintro e w2 ⟨rfl,hr⟩
            have HF:Hid _:=hr
            clear hr
            go_wp2
            go_ret
            show VrPost _ _ _ _ _ _ _ _ _
            rw [HE.out]
            exact ⟨ret_int HS.out,HF.out⟩
        · have j1:¬ (B:Int) < 128:=by omega
          have HE:Hid (V=vrGo zs (k+1) (10 - (k+1))):=by
            show V=_
            rw [HK.out,vr_step zs k hlt,if_neg (by omega),HB.out,if_neg h128]
          have HS:Hid (k+1≤9→bits .or .u64 U (IntKind.u64.wrap ((B:Int) % 128*2 ^ (7*k)))=(acc zs (k+1):Int)):=by
            intro h9
            rw [HU.out (by omega)];exact or_step zs k B HB.out (by omega)
          clear HV HK HU
          go_wp2
          go_round
          case rel=>exact ⟨k+1,_,by omega,by omega,by go_num,rfl,HS,HE⟩
          case measure=>simp [intOf];omega
      · have i2:((k:Int)==(zs.length:Int))=true:=by simp;omega
        have HE:Hid (V=.error 10):=by
          show V=_
          rw [HK.out,vr_step zs k hlt,if_pos (by omega)]
        clear HV HK HU
        go_wp2
        exact ⟨rfl,by rw [HE.out];exact ⟨rfl,rfl⟩⟩
    · obtain rfl:k=10:=by omega
      have HE:Hid (V=.error 11):=HK.out
      clear HV HK HU
      go_wp2
      exact ⟨rfl,by rw [HE.out];exact ⟨rfl,rfl⟩⟩
end Go.Proofs.YtgdnofacgfjaeaaGreat.Wi
