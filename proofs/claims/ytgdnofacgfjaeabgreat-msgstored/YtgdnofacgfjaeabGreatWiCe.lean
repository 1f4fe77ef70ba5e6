import Derived.Test.YtgdnofacgfjaeabGreatWiY
import Derived.Test.YtgdnofacgfjaeabGreatHf
import Derived.Defers
import Derived.Recover
import Derived.WalkSmall
namespace Go.Proofs.YtgdnofacgfjaeabGreat.Wi
open Go.RowKit
set_option linter.unusedVariables false
def headOf (zs:List Int):List Int:=fourOf zs.length++fourOf (sumOf (fourOf zs.length))
def sealOf (zs:List Int):List Int:=headOf zs++zs++fourOf (sumOf (headOf zs++zs))
theorem headOf_len (zs:List Int):(headOf zs).length=8:=rfl
theorem sealOf_len (zs:List Int):(sealOf zs).length=zs.length+12:=by simp [sealOf,headOf_len,fourOf_len];omega
theorem headOf_u8 (zs:List Int):U8 (headOf zs):=(fourOf_u8 _).append (fourOf_u8 _)
theorem sealOf_u8 {zs:List Int} (h:U8 zs):U8 (sealOf zs):=((headOf_u8 _).append h).append (fourOf_u8 _)
theorem at_some {b off k:Nat} (h:At (some ⟨b,off,none⟩) k):k=b:=by obtain ⟨ad,e,rfl⟩:=h;cases e;rfl
theorem Kept.fresh {w w1 w2:World} {S:Nat→Prop} (h:Kept No w w1) (k:Kept S w1 w2) (hS:∀ i,S i→w.heap.size≤i):Kept No w w2:=
  h.trans k (fun _ e=>e) (fun i hi e=>absurd hi (by have:=hS i e;omega))
theorem ret_slice {a:Option Addr} {n m c:Nat} (h:n=m):Ending.returned (.slice a n c)=.returned (.slice a m c):=by rw [h]
set_option maxRecDepth 1000000 in
set_option maxHeartbeats 1000000 in
theorem seal_any (a:Option Addr) (m cap:Nat) (zs:List Int) (w:World) (hz:zs.length=m) (hm:m≤131072) (hb:Bytes w a zs) (h8:U8 zs) (hc:a=none→cap=0) :
    Calls Tryz.prog 18 #[.slice a m cap] w fun e w'=>∃ a' c',e=.returned (.slice a' (m+12) c')∧OwnS w' w.heap.size a' c' (sealOf zs)∧Kept No w w':=by
  have HB:Hid (Bytes w a zs):=hb
  have H8:Hid (U8 zs):=h8
  have HC:Hid (a=none→cap=0):=hc
  have HZ:Hid (zs.length=m):=hz
  clear hb h8 hc hz
  obtain ⟨i0,hi,hz0,hz1,hz2⟩:=info_parts Tryz.info5
  go_enter Tryz.func18,Tryz.ntmps18
  go_wp2_with (at_make;go_must (refine wpList_make_own _ rfl _ (.tmp 10) 30 rfl w.heap.size 5 i0 (.int .u8 0) 1 Tryz.underlying30 hi hz0 hz1 .i64 .i64 _ (m+12) rfl rfl (by omega) (by rw [hz2];omega) (by unfold maxLen;omega) (Nat.le_refl _) ?_;intro w1 hown hgrow;have HO1:Hid (OwnS w1 w.heap.size (some ⟨w.heap.size,0,none⟩) (m+12) []):=hown;have HK1:Hid (Kept No w w1):=kept_grown hgrow;clear hown hgrow))
  refine (putFour_any w.heap.size _ _ _ [] _ _ rfl HO1.out HK1.out.size (by omega) (by omega) (by simp)).mono ?_
  rintro e w2 ⟨a2,c2,rfl,hO2,hK2⟩
  have HO2:Hid (OwnS w2 w.heap.size a2 c2 (fourOf m)):=hO2
  have HK2:Hid (Kept No w w2):=HK1.out.fresh hK2 (fun i e=>HO1.out.base e)
  clear hO2 hK2 HO1 HK1
  go_wp2_with fail
  refine (sumN_any _ _ _ (fourOf m) _ (by simp [fourOf_len]) (by omega) HO2.out.bytes (fourOf_u8 _)).mono ?_
  rintro e w' ⟨rfl,rfl⟩
  have hs:=sumOf_bd (fourOf m)
  go_wp2_with fail
  refine (putFour_any w.heap.size _ _ _ (fourOf m) _ _ (by simp [fourOf_len]) HO2.out HK2.out.size (by omega) (by omega) (by omega)).mono ?_
  rintro e w3 ⟨a3,c3,rfl,hO3,hK3⟩
  have HO3:Hid (OwnS w3 w.heap.size a3 c3 (headOf zs)):=by unfold headOf;rw [HZ.out];exact hO3
  have HK3:Hid (Kept No w w3):=HK2.out.fresh hK3 (fun i e=>HO2.out.base e)
  clear hO3 hK3 HO2 HK2 hs
  go_wp2_with (at_builtin;go_must (refine wp_app _ Tryz.underlying30 Tryz.info5 rfl _ _ rfl w.heap.size _ _ _ (headOf zs) rfl (by simp [headOf_len]) HO3.out _ _ _ zs rfl HZ.out (HB.out.no HK3.out) HC.out (by have:=HZ.out;rw [headOf_len];omega) HK3.out.size ?_;intro a4 c4 w4 HO4 HK4' HN';have HK4:Hid (Kept No w w4):=HK3.out.fresh HK4'.out (fun i e=>HO3.out.base e);clear HK4' HN' HO3 HK3))
  refine (sumN_any _ _ _ (headOf zs++zs) _ (by have:=HZ.out;simp [headOf_len];omega) (by omega) HO4.out.bytes ((headOf_u8 _).append H8.out)).mono ?_
  rintro e w' ⟨rfl,rfl⟩
  have hs:=sumOf_bd (headOf zs++zs)
  go_wp2_with fail
  refine (putFour_any w.heap.size _ _ _ (headOf zs++zs) _ _ (by have:=HZ.out;simp [headOf_len];omega) HO4.out HK4.out.size (by omega) (by omega) (by omega)).mono ?_
  rintro e w5 ⟨a5,c5,rfl,hO5,hK5⟩
  have HO5:Hid (OwnS w5 w.heap.size a5 c5 (sealOf zs)):=hO5
  have HK5:Hid (Kept No w w5):=HK4.out.fresh hK5 (fun i e=>HO4.out.base e)
  clear hO5 hK5 HO4 HK4 hs
  go_wp2
  go_ret
  exact ⟨a5,c5,ret_slice (by omega),HO5.out,HK5.out⟩
theorem seal_long (a:Option Addr) (m cap:Nat) (w:World) (hm:131072 < m) (h2:m≤140737488355328) :
    Calls Tryz.prog 18 #[.slice a m cap] w fun e w'=>e=.returned (.slice none 0 0)∧w'=w:=by
  go_enter Tryz.func18,Tryz.ntmps18
  go_wp2
  go_ret
  exact ⟨rfl,rfl⟩
theorem Bytes.drop {w:World} {b off:Nat} {zs:List Int} (h:Bytes w (some ⟨b,off,none⟩) zs) (k:Nat):Bytes w (some ⟨b,off+k,none⟩) (zs.drop k):=by
  intro i hi
  simp only[List.length_drop] at hi
  obtain ⟨b',off',e,hc⟩:=h (k+i) (by omega)
  cases e
  refine ⟨b,off+k,rfl,?_⟩
  rw [List.getElem?_drop,Nat.add_assoc]
  exact hc
theorem Bytes.take {w:World} {a:Option Addr} {zs:List Int} (h:Bytes w a zs) (k:Nat):Bytes w a (zs.take k):=by
  intro i hi
  simp only[List.length_take] at hi
  rw [List.getElem?_take,if_pos (by omega)]
  exact h i (by omega)
theorem Bytes.drewN {w:World} {a:Option Addr} {zs:List Int} (h:Bytes w a zs) (n:Nat):Bytes (w.drewN n) a zs:=h
theorem four_n (N:Int) (a:Option Addr) (m cap:Nat) (zs:List Int) (w:World) (hN:numOf zs=N) (hm:zs.length=m) (h4:4≤m) (hb:Bytes w a zs) (h8:U8 zs) :
    Calls Tryz.prog 129 #[.slice a m cap] w fun e w'=>e=.returned (.int .i64 N)∧∃ n,w'=w.drewN n:=by
  subst hN;exact four_any a m cap zs w hm h4 hb h8
theorem sum_n (N:Int) (a:Option Addr) (m cap:Nat) (zs:List Int) (w:World) (hN:sumOf zs=N) (hz:zs.length=m) (hm:m≤140737488355328) (hb:Bytes w a zs) (h8:U8 zs) :
    Calls Tryz.prog 53 #[.slice a m cap] w fun e w'=>e=.returned (.int .i64 N)∧w'=w:=by
  subst hN;exact sumN_any a m cap zs w hz hm hb h8
def openOf (zs:List Int):List Int × Int:=
  if zs.length < 8 then ([],10)
  else if numOf (zs.drop 4)≠sumOf (zs.take 4) then ([],12)
  else if 131072 < numOf zs then ([],2)
  else if (zs.length:Int) < numOf zs+12 then ([],10)
  else if numOf zs+12 < (zs.length:Int) then ([],11)
  else if numOf (zs.drop ((numOf zs).toNat+8))≠sumOf (zs.take ((numOf zs).toNat+8)) then ([],12)
  else ((zs.drop 8).take (numOf zs).toNat,0)
def Opens (w:World) (zs:List Int) (e:Ending) (w':World):Prop:=
  ∃ a' n' c',e=.returned (.tuple #[.slice a' n' c',.int .i64 (openOf zs).2])∧n'=(openOf zs).1.length∧OwnS w' w.heap.size a' c' (openOf zs).1∧Kept No w w'
theorem opens_no {w:World} {zs:List Int} {w':World} (x:Int) (h:openOf zs=([],x)) (k:Kept No w w'):Opens w zs (.returned (.tuple #[.slice none 0 0,.int .i64 x])) w':=
  ⟨none,0,0,by rw [h],by rw [h];rfl,by rw [h];exact OwnS.nil _ _,k⟩
theorem numOf_bd {zs:List Int} (h:U8 zs):0≤numOf zs∧numOf zs≤4294967295:=by
  have a:=h 0;have b:=h 1;have c:=h 2;have d:=h 3
  unfold numOf;omega
set_option maxRecDepth 1000000 in
set_option maxHeartbeats 400000 in
theorem open_cut (a:Option Addr) (m cap:Nat) (zs:List Int) (w:World) (hz:zs.length=m) (hl:m < 8) :
    Calls Tryz.prog 79 #[.slice a m cap] w (Opens w zs):=by
  have HO:Hid (openOf zs=([],10)):=by unfold Hid openOf;rw [if_pos (by omega)]
  clear hz
  go_enter Tryz.func79,Tryz.ntmps79
  go_wp2
  go_ret2
  exact opens_no 10 HO.out (Kept.refl _ _)
set_option maxRecDepth 1000000 in
set_option maxHeartbeats 1000000 in
theorem open_any (b off m cap:Nat) (zs:List Int) (w:World) (hz:zs.length=m) (hm:m≤140737488355328) (hcm:cap≤9223372036854775807) (hcap:m≤cap) (hb:Bytes w (some ⟨b,off,none⟩) zs) (h8:U8 zs) (hl:8≤m) :
    Calls Tryz.prog 79 #[.slice (some ⟨b,off,none⟩) m cap] w (Opens w zs):=by
  have HB:Hid (Bytes w (some ⟨b,off,none⟩) zs):=hb
  have H8:Hid (U8 zs):=h8
  have HZ:Hid (zs.length=m):=hz
  obtain ⟨n,hn⟩:∃ n:Nat,numOf zs=n:=⟨(numOf zs).toNat,by have:=numOf_bd h8;omega⟩
  have hn2:n≤4294967295:=by have:=numOf_bd h8;omega
  obtain ⟨P,hP⟩:∃ P,numOf (zs.drop 4)=P:=⟨_,rfl⟩
  obtain ⟨S,hS⟩:∃ S,sumOf (zs.take 4)=S:=⟨_,rfl⟩
  have HN:Hid (numOf zs=n):=hn
  have HP:Hid (numOf (zs.drop 4)=P):=hP
  have HS:Hid (sumOf (zs.take 4)=S):=hS
  clear hb h8 hz hn hP hS
  have g1:(4:Int)≤(m:Int):=by omega
  have g2:(m:Int)≤(cap:Int):=by omega
  have g3:¬ (cap=4):=by omega
  have g4:(4:Int)≤(cap:Int):=by omega
  have g5:¬ ((cap:Int)=4):=by omega
  by_cases hps:P=S
  · have hps':(P==S)=true:=by simpa using hps
    by_cases h1:131072 < n
    · have HO:Hid (openOf zs=([],2)):=by unfold Hid openOf;rw [HP.out,HS.out,HZ.out,HN.out,if_neg (by omega),if_neg (by simpa using hps),if_pos (by omega)]
      clear hps
      go_enter Tryz.func79,Tryz.ntmps79
      go_wp2
      go_quiet ((first
        | (go_at_call 129;exact Calls.quiet_of (four_n P _ _ _ (zs.drop 4) _ HP.out (by have:=HZ.out;simp;omega) (by omega) ((HB.out.drop 4).drewN _) (H8.out.drop 4)))
        | (go_at_call 53;exact Calls.quiet_of_same (sum_n S _ _ _ (zs.take 4) _ HS.out (by have:=HZ.out;simp;omega) (by omega) ((HB.out.take 4).drewN _) (H8.out.take 4)))))
      go_wp2_with fail
      refine (four_n n _ _ _ zs _ HN.out HZ.out (by omega) (HB.out.drewN _) H8.out).mono ?_
      rintro e w1 ⟨rfl,n1,hw1⟩
      have HB2:Hid (Bytes w1 (some ⟨b,off,none⟩) zs):=by rw [hw1];exact HB.out
      have HK2:Hid (Kept No w w1):=by rw [hw1];exact (Kept.no_drewN _ _).drewN _
      clear hw1
      go_wp2
      go_ret2
      exact opens_no 2 HO.out HK2.out
    by_cases h2:m < n+12
    · have HO:Hid (openOf zs=([],10)):=by unfold Hid openOf;rw [HP.out,HS.out,HZ.out,HN.out,if_neg (by omega),if_neg (by simpa using hps),if_neg (by omega),if_pos (by omega)]
      clear hps
      go_enter Tryz.func79,Tryz.ntmps79
      go_wp2
      go_quiet ((first
        | (go_at_call 129;exact Calls.quiet_of (four_n P _ _ _ (zs.drop 4) _ HP.out (by have:=HZ.out;simp;omega) (by omega) ((HB.out.drop 4).drewN _) (H8.out.drop 4)))
        | (go_at_call 53;exact Calls.quiet_of_same (sum_n S _ _ _ (zs.take 4) _ HS.out (by have:=HZ.out;simp;omega) (by omega) ((HB.out.take 4).drewN _) (H8.out.take 4)))))
      go_wp2_with fail
      refine (four_n n _ _ _ zs _ HN.out HZ.out (by omega) (HB.out.drewN _) H8.out).mono ?_
      rintro e w1 ⟨rfl,n1,hw1⟩
      have HB2:Hid (Bytes w1 (some ⟨b,off,none⟩) zs):=by rw [hw1];exact HB.out
      have HK2:Hid (Kept No w w1):=by rw [hw1];exact (Kept.no_drewN _ _).drewN _
      clear hw1
      go_wp2
      go_ret2
      exact opens_no 10 HO.out HK2.out
    by_cases h3:n+12 < m
    · have HO:Hid (openOf zs=([],11)):=by unfold Hid openOf;rw [HP.out,HS.out,HZ.out,HN.out,if_neg (by omega),if_neg (by simpa using hps),if_neg (by omega),if_neg (by omega),if_pos (by omega)]
      clear hps
      go_enter Tryz.func79,Tryz.ntmps79
      go_wp2
      go_quiet ((first
        | (go_at_call 129;exact Calls.quiet_of (four_n P _ _ _ (zs.drop 4) _ HP.out (by have:=HZ.out;simp;omega) (by omega) ((HB.out.drop 4).drewN _) (H8.out.drop 4)))
        | (go_at_call 53;exact Calls.quiet_of_same (sum_n S _ _ _ (zs.take 4) _ HS.out (by have:=HZ.out;simp;omega) (by omega) ((HB.out.take 4).drewN _) (H8.out.take 4)))))
      go_wp2_with fail
      refine (four_n n _ _ _ zs _ HN.out HZ.out (by omega) (HB.out.drewN _) H8.out).mono ?_
      rintro e w1 ⟨rfl,n1,hw1⟩
      have HB2:Hid (Bytes w1 (some ⟨b,off,none⟩) zs):=by rw [hw1];exact HB.out
      have HK2:Hid (Kept No w w1):=by rw [hw1];exact (Kept.no_drewN _ _).drewN _
      clear hw1
      go_wp2
      go_ret2
      exact opens_no 11 HO.out HK2.out
    obtain rfl:m=n+12:=by omega
    obtain ⟨P2,hP2⟩:∃ P,numOf (zs.drop (n+8))=P:=⟨_,rfl⟩
    obtain ⟨S2,hS2⟩:∃ S,sumOf (zs.take (n+8))=S:=⟨_,rfl⟩
    have HP2:Hid (numOf (zs.drop (n+8))=P2):=hP2
    have HS2:Hid (sumOf (zs.take (n+8))=S2):=hS2
    clear hP2 hS2
    have q0:(0:Int)≤8+(n:Int):=by omega
    have q1:(8:Int)+(n:Int)≤(n:Int)+12:=by omega
    have q2:((8:Int)+(n:Int)).toNat=n+8:=by omega
    have q3:¬ (cap=n+8):=by omega
    have k6:¬ (cap=8):=by omega
    clear h2 h3
    by_cases hq:P2=S2
    · have hq':(P2==S2)=true:=by simpa using hq
      have HO:Hid (openOf zs=((zs.drop 8).take n,0)):=by unfold Hid openOf;rw [HP.out,HS.out,HZ.out,HN.out,if_neg (by omega),if_neg (by simpa using hps),if_neg (by omega),if_neg (by omega),if_neg (by omega),Int.toNat_natCast,HP2.out,HS2.out,if_neg (by simpa using hq)]
      clear hps hq
      go_enter Tryz.func79,Tryz.ntmps79
      go_wp2
      go_quiet ((first
        | (go_at_call 129;exact Calls.quiet_of (four_n P _ _ _ (zs.drop 4) _ HP.out (by have:=HZ.out;simp;omega) (by omega) ((HB.out.drop 4).drewN _) (H8.out.drop 4)))
        | (go_at_call 53;exact Calls.quiet_of_same (sum_n S _ _ _ (zs.take 4) _ HS.out (by have:=HZ.out;simp;omega) (by omega) ((HB.out.take 4).drewN _) (H8.out.take 4)))))
      go_wp2_with fail
      refine (four_n n _ _ _ zs _ HN.out HZ.out (by omega) (HB.out.drewN _) H8.out).mono ?_
      rintro e w1 ⟨rfl,n1,hw1⟩
      have HB2:Hid (Bytes w1 (some ⟨b,off,none⟩) zs):=by rw [hw1];exact HB.out
      have HK2:Hid (Kept No w w1):=by rw [hw1];exact (Kept.no_drewN _ _).drewN _
      clear hw1
      go_wp2_with fail
      go_quiet ((first
        | (go_at_call 129;exact Calls.quiet_of (four_n P2 _ _ _ (zs.drop (n+8)) _ HP2.out (by have:=HZ.out;simp;omega) (by omega) ((HB2.out.drop (n+8)).drewN _) (H8.out.drop _)))
        | (go_at_call 53;exact Calls.quiet_of_same (sum_n S2 _ _ _ (zs.take (n+8)) _ HS2.out (by have:=HZ.out;simp;omega) (by omega) ((HB2.out.take (n+8)).drewN _) (H8.out.take _)))))
      go_wp2_with fail
      refine (clone_any _ _ _ ((zs.drop 8).take n) _ (by have:=HZ.out;simp;omega) (((HB2.out.drop 8).take n).drewN _) (fun e=>by cases e) (by omega)).mono ?_
      rintro e w3 ⟨a3,c3,rfl,hO3,hK3,-⟩
      have HO3:Hid (OwnS w3 w.heap.size a3 c3 ((zs.drop 8).take n)):=hO3.lower HK2.out.size
      have HK3:Hid (Kept No w w3):=(HK2.out.drewN _).then hK3
      clear hO3 hK3
      go_wp2
      go_ret2
      exact ⟨a3,n,c3,by rw [HO.out];rfl,by rw [HO.out];have:=HZ.out;simp;omega,by rw [HO.out];exact HO3.out,HK3.out⟩
    · have hq':(P2==S2)=false:=by simpa using hq
      have HO:Hid (openOf zs=([],12)):=by unfold Hid openOf;rw [HP.out,HS.out,HZ.out,HN.out,if_neg (by omega),if_neg (by simpa using hps),if_neg (by omega),if_neg (by omega),if_neg (by omega),Int.toNat_natCast,HP2.out,HS2.out,if_pos (by simpa using hq)]
      clear hps hq
      go_enter Tryz.func79,Tryz.ntmps79
      go_wp2
      go_quiet ((first
        | (go_at_call 129;exact Calls.quiet_of (four_n P _ _ _ (zs.drop 4) _ HP.out (by have:=HZ.out;simp;omega) (by omega) ((HB.out.drop 4).drewN _) (H8.out.drop 4)))
        | (go_at_call 53;exact Calls.quiet_of_same (sum_n S _ _ _ (zs.take 4) _ HS.out (by have:=HZ.out;simp;omega) (by omega) ((HB.out.take 4).drewN _) (H8.out.take 4)))))
      go_wp2_with fail
      refine (four_n n _ _ _ zs _ HN.out HZ.out (by omega) (HB.out.drewN _) H8.out).mono ?_
      rintro e w1 ⟨rfl,n1,hw1⟩
      have HB2:Hid (Bytes w1 (some ⟨b,off,none⟩) zs):=by rw [hw1];exact HB.out
      have HK2:Hid (Kept No w w1):=by rw [hw1];exact (Kept.no_drewN _ _).drewN _
      clear hw1
      go_wp2_with fail
      go_quiet ((first
        | (go_at_call 129;exact Calls.quiet_of (four_n P2 _ _ _ (zs.drop (n+8)) _ HP2.out (by have:=HZ.out;simp;omega) (by omega) ((HB2.out.drop (n+8)).drewN _) (H8.out.drop _)))
        | (go_at_call 53;exact Calls.quiet_of_same (sum_n S2 _ _ _ (zs.take (n+8)) _ HS2.out (by have:=HZ.out;simp;omega) (by omega) ((HB2.out.take (n+8)).drewN _) (H8.out.take _)))))
      go_wp2
      go_ret2
      exact opens_no 12 HO.out (HK2.out.drewN _)
  · have hps':(P==S)=false:=by simpa using hps
    have HO:Hid (openOf zs=([],12)):=by unfold Hid openOf;rw [HP.out,HS.out,HZ.out,if_neg (by omega),if_pos hps]
    clear hps
    go_enter Tryz.func79,Tryz.ntmps79
    go_wp2
    go_quiet ((first
      | (go_at_call 129;exact Calls.quiet_of (four_n P _ _ _ (zs.drop 4) _ HP.out (by have:=HZ.out;simp;omega) (by omega) ((HB.out.drop 4).drewN _) (H8.out.drop 4)))
      | (go_at_call 53;exact Calls.quiet_of_same (sum_n S _ _ _ (zs.take 4) _ HS.out (by have:=HZ.out;simp;omega) (by omega) ((HB.out.take 4).drewN _) (H8.out.take 4)))))
    go_wp2
    go_ret2
    exact opens_no 12 HO.out (Kept.no_drewN _ _)
structure Sl (w:World) (a:Option Addr) (m cap:Nat) (zs:List Int):Prop where
  len:zs.length=m
  bytes:Bytes w a zs
  u8:U8 zs
  le:m≤cap
  cm:cap≤9223372036854775807
  bd:m≤140737488351232
  nil:a=none→cap=0
theorem Sl.kept {S:Nat→Prop} {w w':World} {a:Option Addr} {m cap:Nat} {zs:List Int} (h:Sl w a m cap zs) (hk:Kept S w w') (hS:∀ k,k < w.heap.size→¬ S k):Sl w' a m cap zs:=
  ⟨h.len,fun i hi=>by
    obtain ⟨b,off,rfl,hc⟩:=h.bytes i hi
    exact ⟨b,off,rfl,hk.cell hc (hS b (World.block_lt_of_cell? w _ hc))⟩,h.u8,h.le,h.cm,h.bd,h.nil⟩
theorem Sl.no {w w':World} {a:Option Addr} {m cap:Nat} {zs:List Int} (h:Sl w a m cap zs) (hk:Kept No w w'):Sl w' a m cap zs:=h.kept hk (fun _ _ e=>e)
theorem Sl.off {S:Nat→Prop} {w w':World} {a:Option Addr} {m cap:Nat} {zs:List Int} (h:Sl w a m cap zs) (hk:Kept S w w') (hS:∀ k,At a k→¬ S k):Sl w' a m cap zs:=
  ⟨h.len,h.bytes.kept hk (fun b off e=>hS b ⟨_,e,rfl⟩),h.u8,h.le,h.cm,h.bd,h.nil⟩
theorem OwnS.sl {w:World} {base:Nat} {a:Option Addr} {m cap:Nat} {zs:List Int} (h:OwnS w base a cap zs) (hm:zs.length=m) (h8:U8 zs) (hb:m≤140737488351232):Sl w a m cap zs:=by
  refine ⟨hm,h.bytes,h8,by rw [← hm];exact h.len,?_,hb,h.nilcap⟩
  rcases h.cases with ⟨_,rfl,_⟩ | ⟨g,_,_,_,_,hc⟩
  · omega
  · unfold maxLen at hc;omega
theorem open_sl {a:Option Addr} {m cap:Nat} {zs:List Int} {w:World} (h:Sl w a m cap zs):Calls Tryz.prog 79 #[.slice a m cap] w (Opens w zs):=by
  by_cases hl:m < 8
  · exact open_cut a m cap zs w h.len hl
  · obtain ⟨b,off,rfl,_⟩:=h.bytes 0 (by rw [h.len];omega)
    exact open_any b off m cap zs w h.len (by have:=h.bd;omega) h.cm h.le h.bytes h.u8 (by omega)
theorem Sl.nilS (w:World):Sl w none 0 0 []:=⟨rfl,fun i hi=>absurd hi (Nat.not_lt_zero _),U8.nil,Nat.le_refl _,by omega,by omega,fun _=>rfl⟩
structure Item where
  k:Int
  n:Int
  a:Option Addr
  m:Nat
  c:Nat
  zs:List Int
def Item.val (x:Item):Value:=.agg #[.int .i64 x.k,.int .i64 x.n,.slice x.a x.m x.c]
structure ItOk (w:World) (x:Item):Prop where
  sl:Sl w x.a x.m x.c x.zs
  lo:-9223372036854775808≤x.n
  hi:x.n≤9223372036854775807
theorem ItOk.no {w w':World} {x:Item} (h:ItOk w x) (hk:Kept No w w'):ItOk w' x:=⟨h.sl.no hk,h.lo,h.hi⟩
def Its (w:World) (a:Option Addr) (xs:List Item):Prop:=∀ (i:Nat) x,xs[i]?=some x→∃ b off,a=some ⟨b,off,none⟩ ∧
  w.cell? ⟨b,off+i*3,none⟩=some (.int .i64 x.k)∧w.cell? ⟨b,off+i*3+1,none⟩=some (.int .i64 x.n)∧w.cell? ⟨b,off+i*3+2,none⟩=some (.slice x.a x.m x.c)
theorem Its.kept {S:Nat→Prop} {w w':World} {a:Option Addr} {xs:List Item} (h:Its w a xs) (hk:Kept S w w') (hS:∀ k,At a k→¬ S k):Its w' a xs:=by
  intro i x hx
  obtain ⟨b,off,rfl,h1,h2,h3⟩:=h i x hx
  exact ⟨b,off,rfl,hk.cell h1 (hS b ⟨_,rfl,rfl⟩),hk.cell h2 (hS b ⟨_,rfl,rfl⟩),hk.cell h3 (hS b ⟨_,rfl,rfl⟩)⟩
theorem Its.no {w w':World} {a:Option Addr} {xs:List Item} (h:Its w a xs) (hk:Kept No w w'):Its w' a xs:=h.kept hk (fun _ _ e=>e)
theorem Bytes.kept2 {S:Nat→Prop} {w w':World} {a:Option Addr} {zs:List Int} (h:Bytes w a zs) (hk:Kept S w w') (hS:0 < zs.length→∀ k,At a k→¬ S k):Bytes w' a zs:=by
  intro i hi
  obtain ⟨b,off,rfl,hc⟩:=h i hi
  exact ⟨b,off,rfl,hk.cell hc (hS (by omega) b ⟨_,rfl,rfl⟩)⟩
theorem World.heap_size_alloc1 (w:World) (o:Obj):(w.alloc o).heap.size=w.heap.size+1:=by simp
theorem Tryz.assertNil (w:World):(Instr.typeAssert Value.nilIface 20 31 true).run Tryz.prog w=.ok (.tuple #[.int .i64 0,.bool false]) w:=by kernel_rfl
theorem Tryz.assertErr (v:Value) (w:World):(Instr.typeAssert (.iface 31 v) 20 31 true).run Tryz.prog w=.ok (.tuple #[v,.bool true]) w:=by kernel_rfl
set_option maxRecDepth 1000000 in
set_option maxHeartbeats 1000000 in
theorem catch_idle (p q:Addr) (w:World) :
    CallsD Tryz.prog 176 #[.pointer (some p),.pointer (some q)] .returning w fun e u' w'=>e=.returned (.tuple #[])∧u'=.returning∧w'=w:=by
  have h:=fun w=>Tryz.assertNil w
  refine callsD_of_wpS Tryz.func176 rfl fun c₀ cs hu=>?_
  apply wpS_seq
  apply wpS_region
  simp [wpOpsS,go_sem,recoverD,hu,Tryz.ntmps176,Exit.thenS,h]
  apply wpS_seq
  apply wpS_region
  simp [wpOpsS,go_sem,Exit.thenS]
  refine wpS_cond (t:=false) (by simp [Act.eval,Array.replicate]) ?_
  simp only[Bool.false_eq_true,if_false]
  refine wpS_of_wp (wp_skip ?_)
  cases c₀
  simp_all [bodyPostS,results,Tryz.results176]
set_option maxRecDepth 1000000 in
set_option maxHeartbeats 1000000 in
theorem catch_panicking (p q g:Nat) (at_ code:Int) (v0 v1 v2 v3:Value) (older:List PanicEntry) (w:World)
    (hp:w.cell? ⟨p,0,none⟩=some (.int .i64 at_)) (hq:w.cell? ⟨q,0,none⟩=some (.pointer (some ⟨g,0,none⟩)))
    (c0:w.cell? ⟨g,0,none⟩=some v0) (c1:w.cell? ⟨g,1,none⟩=some v1) (c2:w.cell? ⟨g,2,none⟩=some v2) (c3:w.cell? ⟨g,3,none⟩=some v3)
    (f0:w.frozen? ⟨g,0,none⟩=false) (f1:w.frozen? ⟨g,1,none⟩=false) (f2:w.frozen? ⟨g,2,none⟩=false) (f3:w.frozen? ⟨g,3,none⟩=false) :
    CallsD Tryz.prog 176 #[.pointer (some ⟨p,0,none⟩),.pointer (some ⟨q,0,none⟩)] (.panicking ({ v:=.iface 31 (.int .i64 code),recovered:=false } :: older)) w fun e u' w'=>
      e=.returned (.tuple #[])∧u'=.panicking ({ v:=.iface 31 (.int .i64 code),recovered:=true } :: older) ∧
      w'=(((w.setCell ⟨g,0,none⟩ (.slice none 0 0)).setCell ⟨g,1,none⟩ (.int .i64 0)).setCell ⟨g,2,none⟩ (.int .i64 at_)).setCell ⟨g,3,none⟩ (.int .i64 code):=by
  have h:=fun v w=>Tryz.assertErr v w
  refine callsD_of_wpS Tryz.func176 rfl fun c₀ cs hu=>?_
  apply wpS_seq
  apply wpS_region
  simp [wpOpsS,go_sem,recoverD,hu,Tryz.ntmps176,Exit.thenS,h]
  apply wpS_seq
  apply wpS_region
  simp [wpOpsS,go_sem,Exit.thenS]
  refine wpS_cond (t:=true) (by simp [Act.eval,Array.replicate]) ?_
  simp only[if_true]
  clear h
  refine wpS_of_wp ?_
  go_wp2
  clear hp hq c0 c1 c2 c3 f0 f1 f2 f3
  simp [bodyPostS,results,Tryz.results176]
structure Rd (w:World) (g:Nat) (la:Option Addr) (lc:Nat) (zs:List Int) (at_:Nat):Prop where
  cell:w.heap[g]?=some (.cells #[.slice la zs.length lc,.int .i64 (at_:Int),.int .i64 0,.int .i64 0] 190 (0,0))
  sl:Sl w la zs.length lc zs
  bd:at_+zs.length≤140737488355328
theorem Rd.lt {w:World} {g:Nat} {la:Option Addr} {lc:Nat} {zs:List Int} {at_:Nat} (h:Rd w g la lc zs at_):g < w.heap.size:=(Array.getElem?_eq_some_iff.1 h.cell).1
theorem Rd.ne {w:World} {g:Nat} {la:Option Addr} {lc:Nat} {zs:List Int} {at_:Nat} (h:Rd w g la lc zs at_) (h0:0 < zs.length) {k:Nat} (hk:At la k):k≠g:=by
  rintro rfl
  obtain ⟨b,off,rfl,hc⟩:=h.sl.bytes 0 h0
  obtain ⟨ad,e,e2⟩:=hk
  cases e
  simp only at e2
  subst e2
  rw [cell_of_row w b (off+0) _ 190 (0,0) h.cell] at hc
  match off,hc with
  | 0,hc=>simp at hc
  | 1,hc=>simp at hc
  | 2,hc=>simp at hc
  | 3,hc=>simp at hc
  | n+4,hc=>simp at hc
theorem Rd.no {w w':World} {g:Nat} {la:Option Addr} {lc:Nat} {zs:List Int} {at_:Nat} (h:Rd w g la lc zs at_) (hk:Kept No w w'):Rd w' g la lc zs at_:=
  ⟨(hk.block g h.lt (fun e=>e)).trans h.cell,h.sl.no hk,h.bd⟩
theorem Sl.kept2 {S:Nat→Prop} {w w':World} {a:Option Addr} {m cap:Nat} {zs:List Int} (h:Sl w a m cap zs) (hk:Kept S w w') (hS:0 < zs.length→∀ k,At a k→¬ S k):Sl w' a m cap zs:=
  ⟨h.len,h.bytes.kept2 hk hS,h.u8,h.le,h.cm,h.bd,h.nil⟩
theorem take_end {w:World} {g b off lc:Nat} {zs:List Int} {at_ n:Nat} {la':Option Addr} (h:Rd w g (some ⟨b,off,none⟩) lc zs at_) (hn:n≤zs.length)
    (hla:(lc=n∧la'=some ⟨b,off,none⟩)∨(lc≠n∧la'=some ⟨b,off+n,none⟩)) {v:Int} (hv:v=((at_+n:Nat):Int)) :
    Rd ((w.setCell ⟨g,0,none⟩ (.slice la' (zs.length - n) (lc - n))).setCell ⟨g,1,none⟩ (.int .i64 v)) g la' (lc - n) (zs.drop n) (at_+n) ∧
    Kept (Only g) w ((w.setCell ⟨g,0,none⟩ (.slice la' (zs.length - n) (lc - n))).setCell ⟨g,1,none⟩ (.int .i64 v)):=by
  subst hv
  have hK:Kept (Only g) w ((w.setCell ⟨g,0,none⟩ (.slice la' (zs.length - n) (lc - n))).setCell ⟨g,1,none⟩ (.int .i64 ((at_+n:Nat):Int))):=
    ((Kept.refl (Only g) w).setCell (p:=⟨g,0,none⟩) (fun _=>(rfl:g=g)) _).setCell (p:=⟨g,1,none⟩) (fun _=>(rfl:g=g)) _
  refine ⟨⟨?_,?_,?_⟩,hK⟩
  · have h1:=heap_setCell_same w g 0 _ 190 (.slice la' (zs.length - n) (lc - n)) h.cell
    have h2:=heap_setCell_same _ g 1 _ 190 (.int .i64 ((at_+n:Nat):Int)) h1
    rw [h2,List.length_drop];rfl
  · have hs:=h.sl
    have hcap:=hs.le
    have hl:(zs.drop n).length=zs.length - n:=List.length_drop
    have hby:Bytes w la' (zs.drop n):=by
      rcases hla with ⟨e1,rfl⟩ | ⟨e1,rfl⟩
      · have:zs.drop n=[]:=List.drop_eq_nil_of_le (by omega)
        rw [this];intro i hi;exact absurd hi (Nat.not_lt_zero _)
      · exact hs.bytes.drop n
    refine ⟨rfl,hby.kept2 hK (fun h0 k hk e=>?_),hs.u8.drop n,by rw [hl];omega,by have:=hs.cm;omega,by rw [hl];have:=hs.bd;omega,fun e=>?_⟩
    · refine h.ne (by omega) (k:=k) ?_ e
      rcases hla with ⟨e1,rfl⟩ | ⟨e1,rfl⟩
      · exact hk
      · obtain ⟨ad,e',e2⟩:=hk;cases e';exact ⟨_,rfl,e2⟩
    · rcases hla with ⟨e1,rfl⟩ | ⟨e1,rfl⟩ <;> cases e
  · have:=h.bd;rw [List.length_drop];omega
set_option maxRecDepth 1000000 in
set_option maxHeartbeats 1000000 in
theorem take_any (g b off lc:Nat) (zs:List Int) (at_ n:Nat) (w:World) (h:Rd w g (some ⟨b,off,none⟩) lc zs at_) (hn:n≤zs.length) :
    Calls Tryz.prog 177 #[.pointer (some ⟨g,0,none⟩),.int .i64 (n:Int)] w fun e w'=>e=.returned (.slice (some ⟨b,off,none⟩) n lc)∧∃ b' off' lc',At (some ⟨b,off,none⟩) b'∧Rd w' g (some ⟨b',off',none⟩) lc' (zs.drop n) (at_+n)∧Kept (Only g) w w':=by
  have HR:Hid (Rd w g (some ⟨b,off,none⟩) lc zs at_):=h
  have hbd:=h.bd
  have hcm:=h.sl.cm
  have hle:=h.sl.le
  have c0:w.cell? ⟨g,0,none⟩=some (.slice (some ⟨b,off,none⟩) zs.length lc):=by rw [cell_of_row w g 0 _ 190 (0,0) h.cell];rfl
  have c1:w.cell? ⟨g,1,none⟩=some (.int .i64 (at_:Int)):=by rw [cell_of_row w g 1 _ 190 (0,0) h.cell];rfl
  have f0:=frozen_of_row w g 0 _ 190 h.cell
  have f1:=frozen_of_row w g 1 _ 190 h.cell
  have q0:(n:Int)≤(lc:Int):=by omega
  have q1:(n:Int)≤(zs.length:Int):=by omega
  clear h
  by_cases hc:lc=n
  · subst hc
    go_enter Tryz.func177,Tryz.ntmps177
    go_wp2
    go_ret
    refine ⟨rfl,b,off,lc - lc,⟨_,rfl,rfl⟩,?_⟩
    have e1:zs.length - lc=0:=by omega
    have e2:lc - lc=0:=by omega
    have:=take_end (v:=(at_:Int)+(lc:Int)) HR.out hn (.inl ⟨rfl,rfl⟩) (by omega)
    rw [e1,e2] at this
    rw [e2]
    exact this
  · go_enter Tryz.func177,Tryz.ntmps177
    go_wp2
    go_ret
    refine ⟨rfl,b,off+n,lc - n,⟨_,rfl,rfl⟩,?_⟩
    exact take_end HR.out hn (.inr ⟨hc,rfl⟩) (by omega)
def byt (zs:List Int) (i:Nat):Nat:=(zs[i]?.getD 0).toNat
def acc (zs:List Int):Nat→Nat
  | 0=>0
  | i+1=>acc zs i+byt zs i % 128*128 ^ i
def vrGo (zs:List Int):Nat→Nat→Except Int (Nat × Nat)
  | i,0=>.error 11
  | i,f+1=>if zs.length≤i then .error 10 else
      if byt zs i < 128 then (if (0 < i∧byt zs i=0)∨(i=9∧1 < byt zs i) then .error 11 else .ok (acc zs (i+1),i+1))
      else vrGo zs (i+1) f
def vr (zs:List Int):Except Int (Nat × Nat):=vrGo zs 0 10
theorem acc_lt (zs:List Int) (i:Nat):acc zs i < 128 ^ i:=by
  induction i with
  | zero=>simp [acc]
  | succ i ih=>
    rw [acc,Nat.pow_succ]
    have h1:byt zs i % 128≤127:=by omega
    have h2:byt zs i % 128*128 ^ i≤127*128 ^ i:=Nat.mul_le_mul_right _ h1
    omega
theorem vr_step (zs:List Int) (k:Nat) (h:k < 10):vrGo zs k (10 - k)=if zs.length≤k then .error 10 else
      if byt zs k < 128 then (if (0 < k∧byt zs k=0)∨(k=9∧1 < byt zs k) then .error 11 else .ok (acc zs (k+1),k+1))
      else vrGo zs (k+1) (10 - (k+1)):=by
  rw [show 10 - k=(10 - (k+1))+1 from by omega,vrGo]
theorem wrap64u (n:Int) (a:0≤n) (b:n < 18446744073709551616):IntKind.u64.wrap n=n:=by
  have e:IntKind.u64.wrap n=n % 18446744073709551616:=by simp [IntKind.wrap,IntKind.bits,IntKind.signed]
  rw [e];omega
theorem or_step (zs:List Int) (k B:Nat) (hB:byt zs k=B) (h:k≤8∨(k=9∧B≤1)) :
    bits .or .u64 (acc zs k:Int) (IntKind.u64.wrap ((B:Int) % 128*2 ^ (7*k)))=(acc zs (k+1):Int):=by
  have hp:(2:Int) ^ (7*k)=((128 ^ k:Nat):Int):=by rw [Int.pow_mul,Int.natCast_pow];rfl
  have ha:=acc_lt zs k
  have hx:B % 128*128 ^ k < 18446744073709551616:=by
    rcases h with h | ⟨rfl,h⟩
    · have h1:128 ^ k≤128 ^ 8:=Nat.pow_le_pow_right (by decide) h
      have h2:B % 128*128 ^ k≤127*128 ^ 8:=Nat.mul_le_mul (by omega) h1
      omega
    · have h2:B % 128*128 ^ 9≤1*128 ^ 9:=Nat.mul_le_mul (by omega) (Nat.le_refl _)
      omega
  have hk9:128 ^ k≤128 ^ 9:=Nat.pow_le_pow_right (by decide) (by omega)
  have e1:(B:Int) % 128*2 ^ (7*k)=((B % 128*128 ^ k:Nat):Int):=by rw [hp,Int.natCast_mul];rfl
  have e2:IntKind.u64.wrap ((B:Int) % 128*2 ^ (7*k))=((B % 128*128 ^ k:Nat):Int):=by
    rw [e1];exact wrap64u _ (by omega) (by omega)
  rw [e2,bits_or_comm,bits_join .u64 64 (by decide) (fun n a b=>wrap64u n a (by omega)) (7*k) _ _ (by omega) (by rw [hp,Int.natCast_mul];exact Int.mul_emod_left _ _) (by omega) (by omega) (by rw [hp];omega) (by omega)]
  rw [acc,hB]
  omega
abbrev Thrown (code:Int):Ending:=.panicked [{ v:=.iface 31 (.int .i64 code),recovered:=false }]
set_option maxRecDepth 1000000 in
set_option maxHeartbeats 400000 in
theorem check_bad (i b:Nat) (w:World) (hi:i≤9) (hb:b≤255) (h:(0 < i∧b=0)∨(i=9∧1 < b)) :
    Calls Tryz.prog 210 #[.int .i64 (i:Int),.int .u8 (b:Int)] w fun e w'=>e=Thrown 11∧w'=w:=by
  by_cases h0:0 < i∧b=0
  · obtain ⟨h1,rfl⟩:=h0
    have i0:(0:Int) < (i:Int):=by omega
    clear h hi h1
    go_enter Tryz.func210,Tryz.ntmps210
    go_wp2
    exact ⟨rfl,rfl,rfl⟩
  · obtain ⟨rfl,h1⟩:i=9∧1 < b:=by omega
    have b0:((b:Int)==0)=false:=by simp;omega
    have b1:(1:Int) < (b:Int):=by omega
    clear h h0 hi
    go_enter Tryz.func210,Tryz.ntmps210
    go_wp2
    exact ⟨rfl,rfl,rfl⟩
set_option maxRecDepth 1000000 in
set_option maxHeartbeats 400000 in
theorem check_ok (i b:Nat) (w:World) (hi:i≤9) (hb:b≤255) (h:¬ ((0 < i∧b=0)∨(i=9∧1 < b))) :
    Calls Tryz.prog 210 #[.int .i64 (i:Int),.int .u8 (b:Int)] w fun e w'=>e=.returned (.tuple #[])∧w'=w:=by
  by_cases h0:i=0
  · subst h0
    clear h
    go_enter Tryz.func210,Tryz.ntmps210
    go_wp2
    go_end0
    exact ⟨rfl,rfl⟩
  · have i0:(0:Int) < (i:Int):=by omega
    have b0:((b:Int)==0)=false:=by simp;omega
    by_cases h9:i=9
    · subst h9
      have b1:¬ (1:Int) < (b:Int):=by omega
      clear h h0
      go_enter Tryz.func210,Tryz.ntmps210
      go_wp2
      go_end0
      exact ⟨rfl,rfl⟩
    · have i9:((i:Int)==9)=false:=by simp;omega
      clear h h0 h9
      go_enter Tryz.func210,Tryz.ntmps210
      go_wp2
      go_end0
      exact ⟨rfl,rfl⟩
def VrPost (w:World) (g:Nat) (la:Option Addr) (zs:List Int) (at_:Nat) (kd:IntKind) (V:Except Int (Nat × Nat)) (e:Ending) (w':World):Prop:=
  match V with
  | .error c=>e=Thrown c∧w'=w
  | .ok (u,k)=>e=.returned (.int kd (u:Int))∧∃ b' off' lc',At la b'∧Rd w' g (some ⟨b',off',none⟩) lc' (zs.drop k) (at_+k)∧Kept (Only g) w w'
set_option maxRecDepth 1000000 in
set_option maxHeartbeats 1000000 in
theorem rvar_any (g:Nat) (la:Option Addr) (lc:Nat) (zs:List Int) (at_:Nat) (w:World) (h:Rd w g la lc zs at_) :
    Calls Tryz.prog 178 #[.pointer (some ⟨g,0,none⟩)] w (VrPost w g la zs at_ .u64 (vr zs)):=by
  have HR:Hid (Rd w g la lc zs at_):=h
  have hbd:=h.bd
  have c0:w.cell? ⟨g,0,none⟩=some (.slice la zs.length lc):=by rw [cell_of_row w g 0 _ 190 (0,0) h.cell];rfl
  obtain ⟨V,hV⟩:∃ V,V=vr zs:=⟨_,rfl⟩
  rw [← hV]
  have HV:Hid (V=vrGo zs 0 10):=hV
  clear h hV
  go_enter Tryz.func178,Tryz.ntmps178
  go_wp2
  go_loop [3,6] (fun u i=>∃ (k:Nat) (U:Int),k≤10∧k≤zs.length∧i=.int .i64 (k:Int)∧u=.int .u64 U∧Hid (k≤9→U=(acc zs k:Int))∧Hid (V=vrGo zs k (10 - k))) (fun _ i=>10 - (intOf i).toNat)
  case atStart=>exact ⟨0,0,by omega,by omega,rfl,rfl,fun _=>rfl,HV⟩
  case round=>
    obtain ⟨k,U,hk,hkl,rfl,rfl,HU,HK⟩:=hrel
    by_cases hlt:k < 10
    · have i1:(k:Int) < 10:=by omega
      by_cases hcut:k < zs.length
      · have i2:((k:Int)==(zs.length:Int))=false:=by simp;omega
        have i3:(k:Int) < (zs.length:Int):=by omega
        obtain ⟨b,off,rfl,hcl⟩:=HR.out.sl.bytes k hcut
        obtain ⟨B,hB⟩:∃ B:Nat,zs[k]?.getD 0=(B:Int):=⟨byt zs k,by have:=HR.out.sl.u8 k;unfold byt;omega⟩
        have hB8:B≤255:=by have:=HR.out.sl.u8 k;omega
        rw [hB] at hcl
        have HB:Hid (byt zs k=B):=by unfold Hid byt;rw [hB];simp
        clear hB
        by_cases h128:B < 128
        · have j1:(B:Int) < 128:=by omega
          by_cases hbad:(0 < k∧B=0)∨(k=9∧1 < B)
          · have HE:Hid (V=.error 11):=by
              show V=_
              rw [HK.out,vr_step zs k hlt,if_neg (by omega),HB.out,if_pos h128,if_pos hbad]
            clear HV HK HU
            go_wp2_with fail
            refine (check_bad k B w (by omega) hB8 hbad).mono ?_
            rintro e w1 ⟨rfl,rfl⟩
            go_wp2
            exact ⟨rfl,by rw [HE.out];exact ⟨rfl,rfl⟩⟩
          · have HE:Hid (V=.ok (acc zs (k+1),k+1)):=by
              show V=_
              rw [HK.out,vr_step zs k hlt,if_neg (by omega),HB.out,if_pos h128,if_neg hbad]
            have HS:Hid (bits .or .u64 U (IntKind.u64.wrap ((B:Int) % 128*2 ^ (7*k)))=(acc zs (k+1):Int)):=by
              rw [Hid,HU.out (by omega)];exact or_step zs k B HB.out (by omega)
            clear HV HK HU
            go_wp2_with fail
            refine (check_ok k B w (by omega) hB8 hbad).mono ?_
            rintro e w1 ⟨rfl,rfl⟩
            go_wp2_with fail
            refine (take_any g b off lc zs at_ (k+1) w1 HR.out (by omega)).mono ?_
            rintro e w2 ⟨rfl,hr⟩
            have HF:Hid _:=hr
            clear hr
            go_wp2
            go_ret
            show VrPost _ _ _ _ _ _ _ _ _
            rw [HE.out]
            exact ⟨ret_int HS.out,HF.out⟩
        · have j1:¬ (B:Int) < 128:=by omega
          have HE:Hid (V=vrGo zs (k+1) (10 - (k+1))):=by
            show V=_
            rw [HK.out,vr_step zs k hlt,if_neg (by omega),HB.out,if_neg h128]
          have HS:Hid (k+1≤9→bits .or .u64 U (IntKind.u64.wrap ((B:Int) % 128*2 ^ (7*k)))=(acc zs (k+1):Int)):=by
            intro h9
            rw [HU.out (by omega)];exact or_step zs k B HB.out (by omega)
          clear HV HK HU
          go_wp2
          go_round
          case rel=>exact ⟨k+1,_,by omega,by omega,by go_num,rfl,HS,HE⟩
          case measure=>simp [intOf];omega
      · have i2:((k:Int)==(zs.length:Int))=true:=by simp;omega
        have HE:Hid (V=.error 10):=by
          show V=_
          rw [HK.out,vr_step zs k hlt,if_pos (by omega)]
        clear HV HK HU
        go_wp2
        exact ⟨rfl,by rw [HE.out];exact ⟨rfl,rfl⟩⟩
    · obtain rfl:k=10:=by omega
      have HE:Hid (V=.error 11):=HK.out
      clear HV HK HU
      go_wp2
      exact ⟨rfl,by rw [HE.out];exact ⟨rfl,rfl⟩⟩
def Rdr (w:World) (g:Nat):Prop:=∃ v0 v1 v2 v3,w.heap[g]?=some (.cells #[v0,v1,v2,v3] 190 (0,0))
theorem Rd.rdr {w:World} {g:Nat} {la:Option Addr} {lc:Nat} {zs:List Int} {at_:Nat} (h:Rd w g la lc zs at_):Rdr w g:=⟨_,_,_,_,h.cell⟩
def RdF (w:World) (g:Nat) (place:Nat) (code:Int):Prop:=w.heap[g]?=some (.cells #[.slice none 0 0,.int .i64 0,.int .i64 (place:Int),.int .i64 code] 190 (0,0))
def Caught (g at_:Nat) (OK:World→World→Prop) (BAD:Int→Prop) (w:World) (e:Ending) (w':World):Prop:=
  e=.returned (.tuple #[])∧((∃ W,Kept No w W∧OK W w')∨∃ c,BAD c∧RdF w' g at_ c∧Kept (Only g) w w')
def Throws (g:Nat) (OK:World→World→Prop) (BAD:Int→Prop) (w:World) (e:Ending) (w':World):Prop:=
  (e=.returned (.tuple #[])∧OK w w')∨∃ c,e=Thrown c∧BAD c∧Rdr w' g∧Kept (Only g) w w'
set_option maxRecDepth 1000000 in
set_option maxHeartbeats 1000000 in
theorem catch_any (F:Nat) (caps:Array Value) (hrun:∀ W,(callFunc F caps).run Tryz.prog W=.ok (.enter F caps) W) (g:Nat) (la:Option Addr) (lc:Nat) (zs:List Int) (at_:Nat) (OK:World→World→Prop) (BAD:Int→Prop) (w:World)
    (h:Rd w g la lc zs at_) (hcall:∀ W,Kept No w W→Calls Tryz.prog F caps W (Throws g OK BAD W)) :
    Calls Tryz.prog 132 #[.pointer (some ⟨g,0,none⟩),.func (Fn.func F) #[] caps] w (Caught g at_ OK BAD w):=by
  have hmf:∀ (fn:Fn) (first cap:Array Value) (w:World),(Instr.makeFunc fn first cap).run Tryz.prog w=.ok (.func fn first cap) w:=fun _ _ _ _=>rfl
  have c3:w.cell? ⟨g,3,none⟩=some (.int .i64 0):=by rw [cell_of_row w g 3 _ 190 (0,0) h.cell];rfl
  have c1:w.cell? ⟨g,1,none⟩=some (.int .i64 (at_:Int)):=by rw [cell_of_row w g 1 _ 190 (0,0) h.cell];rfl
  have hg:g < w.heap.size:=h.lt
  have HR:Hid (Rd w g la lc zs at_):=h
  have HC:Hid (∀ W,Kept No w W→Calls Tryz.prog F caps W (Throws g OK BAD W)):=hcall
  clear h hcall
  go_enter_defers Tryz.func132,Tryz.ntmps132
  go_wp2_with fail
  refine (HC.out _ (((Kept.refl No w).alloc _).alloc _)).mono ?_
  rintro e w1 (⟨rfl,hok⟩ | ⟨c,rfl,hbad,⟨v0,v1,v2,v3,hrd⟩,hk⟩)
  · have HF:Hid (∃ W,Kept No w W∧OK W w1):=⟨_,((Kept.refl No w).alloc _).alloc _,hok⟩
    clear hok
    go_wp2
    refine leaves_cons (f:=176) (args:=#[.pointer (some ⟨w.heap.size+1,0,none⟩),.pointer (some ⟨w.heap.size,0,none⟩)]) (by simp) (by simp [go_sem]) ?_
    refine (catch_idle _ _ _).mono ?_
    rintro e u' w'' ⟨rfl,rfl,rfl⟩
    have:Caught g at_ OK BAD w (.returned (.tuple #[])) w'':=⟨rfl,.inl HF.out⟩
    simpa [Leaves,settle,results,Tryz.results132] using this
  · have hp:w1.cell? ⟨w.heap.size+1,0,none⟩=some (.int .i64 (at_:Int)):=hk.cell (by simp) (fun e=>by have e':w.heap.size+1=g:=e;omega)
    have hq:w1.cell? ⟨w.heap.size,0,none⟩=some (.pointer (some ⟨g,0,none⟩)):=hk.cell (by simp) (fun e=>by have e':w.heap.size=g:=e;omega)
    have d0:w1.cell? ⟨g,0,none⟩=some v0:=by rw [cell_of_row w1 g 0 _ 190 (0,0) hrd];rfl
    have d1:w1.cell? ⟨g,1,none⟩=some v1:=by rw [cell_of_row w1 g 1 _ 190 (0,0) hrd];rfl
    have d2:w1.cell? ⟨g,2,none⟩=some v2:=by rw [cell_of_row w1 g 2 _ 190 (0,0) hrd];rfl
    have d3:w1.cell? ⟨g,3,none⟩=some v3:=by rw [cell_of_row w1 g 3 _ 190 (0,0) hrd];rfl
    refine leaves_cons (f:=176) (args:=#[.pointer (some ⟨w.heap.size+1,0,none⟩),.pointer (some ⟨w.heap.size,0,none⟩)]) (by simp) (by simp [go_sem]) ?_
    refine (catch_panicking (w.heap.size+1) w.heap.size g at_ c v0 v1 v2 v3 [] w1 hp hq d0 d1 d2 d3 (frozen_of_row w1 g 0 _ 190 hrd) (frozen_of_row w1 g 1 _ 190 hrd) (frozen_of_row w1 g 2 _ 190 hrd) (frozen_of_row w1 g 3 _ 190 hrd)).mono ?_
    rintro e u' w'' ⟨rfl,rfl,hw⟩
    have h1:=heap_setCell_same w1 g 0 _ 190 (.slice none 0 0) hrd
    have h2:=heap_setCell_same _ g 1 _ 190 (.int .i64 0) h1
    have h3:=heap_setCell_same _ g 2 _ 190 (.int .i64 (at_:Int)) h2
    have h4:=heap_setCell_same _ g 3 _ 190 (.int .i64 c) h3
    have hK:Kept (Only g) w w'':=by
      rw [hw]
      exact (((((((Kept.refl No w).alloc _).alloc _).of_no.then hk).setCell (p:=⟨g,0,none⟩) (fun _=>(rfl:g=g)) _).setCell (p:=⟨g,1,none⟩) (fun _=>(rfl:g=g)) _).setCell (p:=⟨g,2,none⟩) (fun _=>(rfl:g=g)) _).setCell (p:=⟨g,3,none⟩) (fun _=>(rfl:g=g)) _
    have hF:RdF w'' g at_ c:=by rw [hw];unfold RdF;rw [h4];rfl
    have:Caught g at_ OK BAD w (.returned (.tuple #[])) w'':=⟨rfl,.inr ⟨c,hbad,hF,hK⟩⟩
    simpa [Leaves,settle,results,Tryz.results132] using this
set_option maxRecDepth 1000000 in
set_option maxHeartbeats 1000000 in
theorem catch_bad (F:Value) (g p:Nat) (c:Int) (w:World) (h:RdF w g p c) (hc:c≠0) :
    Calls Tryz.prog 132 #[.pointer (some ⟨g,0,none⟩),F] w fun e w'=>e=.returned (.tuple #[])∧Kept No w w':=by
  have c3:w.cell? ⟨g,3,none⟩=some (.int .i64 c):=by rw [cell_of_row w g 3 _ 190 (0,0) h];rfl
  have hg:g < w.heap.size:=(Array.getElem?_eq_some_iff.1 h).1
  have hc':(c != 0)=true:=by simpa using hc
  clear h hc
  go_enter_defers Tryz.func132,Tryz.ntmps132
  go_wp2
  have:Kept No w (w.alloc (Obj.cells #[Value.pointer (some ⟨g,0,none⟩)] 137)):=(Kept.refl _ _).alloc _
  simpa [bodyPostD,Leaves,settle,results,Tryz.results132] using this
def nr (zs:List Int):Except Int (Nat × Nat):=
  match vr zs with
  | .error c=>.error c
  | .ok (u,k)=>if 9223372036854775807 < u then .error 11 else .ok (u,k)
def NrPost (w:World) (g:Nat) (la:Option Addr) (zs:List Int) (at_:Nat) (V:Except Int (Nat × Nat)) (e:Ending) (w':World):Prop:=
  match V with
  | .error c=>e=Thrown c∧Rdr w' g∧Kept (Only g) w w'
  | .ok (u,k)=>e=.returned (.int .i64 (u:Int))∧∃ b' off' lc',At la b'∧Rd w' g (some ⟨b',off',none⟩) lc' (zs.drop k) (at_+k)∧Kept (Only g) w w'
set_option maxRecDepth 1000000 in
set_option maxHeartbeats 1000000 in
theorem num_any (g:Nat) (la:Option Addr) (lc:Nat) (zs:List Int) (at_:Nat) (w:World) (h:Rd w g la lc zs at_) :
    Calls Tryz.prog 141 #[.pointer (some ⟨g,0,none⟩)] w (NrPost w g la zs at_ (nr zs)):=by
  have HR:Hid (Rd w g la lc zs at_):=h
  clear h
  obtain ⟨N,hN⟩:∃ N,N=nr zs:=⟨_,rfl⟩
  rw [← hN]
  cases hv:vr zs with
  | error c=>
    have HE:Hid (N=.error c):=by rw [Hid,hN,nr,hv]
    clear hN
    go_enter Tryz.func141,Tryz.ntmps141
    go_wp2_with fail
    refine (rvar_any g la lc zs at_ w HR.out).mono ?_
    rw [hv]
    rintro e w1 ⟨rfl,rfl⟩
    go_wp2
    exact ⟨rfl,by rw [HE.out];exact ⟨rfl,HR.out.rdr,Kept.refl _ _⟩⟩
  | ok x=>
    obtain ⟨u,k⟩:=x
    by_cases hu:9223372036854775807 < u
    · have HE:Hid (N=.error 11):=by rw [Hid,hN,nr,hv];simp [hu]
      have hu':(9223372036854775807:Int) < (u:Int):=by omega
      clear hN hu
      go_enter Tryz.func141,Tryz.ntmps141
      go_wp2_with fail
      refine (rvar_any g la lc zs at_ w HR.out).mono ?_
      rw [hv]
      rintro e w1 ⟨rfl,b',off',lc',-,hr,hk⟩
      have HF:Hid (Rdr w1 g∧Kept (Only g) w w1):=⟨hr.rdr,hk⟩
      clear hr hk hv
      go_wp2
      exact ⟨rfl,by rw [HE.out];exact ⟨rfl,HF.out⟩⟩
    · have HE:Hid (N=.ok (u,k)):=by rw [Hid,hN,nr,hv];simp [hu]
      have hu':¬ (9223372036854775807:Int) < (u:Int):=by omega
      clear hN hu
      go_enter Tryz.func141,Tryz.ntmps141
      go_wp2_with fail
      refine (rvar_any g la lc zs at_ w HR.out).mono ?_
      rw [hv]
      rintro e w1 ⟨rfl,hr⟩
      have HF:Hid _:=hr
      clear hr hv
      go_wp2
      go_ret
      show NrPost _ _ _ _ _ _ _ _
      rw [HE.out]
      exact ⟨rfl,HF.out⟩
def cr (zs:List Int):Except Int (Nat × Nat):=
  match nr zs with
  | .error c=>.error c
  | .ok (n,k)=>if zs.length - k < n then .error 10 else .ok (n,k)
def CrPost (w:World) (g:Nat) (la:Option Addr) (zs:List Int) (at_:Nat) (V:Except Int (Nat × Nat)) (e:Ending) (w':World):Prop:=
  match V with
  | .error c=>e=Thrown c∧Rdr w' g∧Kept (Only g) w w'
  | .ok (n,k)=>∃ b off lc,e=.returned (.slice (some ⟨b,off,none⟩) n lc)∧Sl w' (some ⟨b,off,none⟩) n lc ((zs.drop k).take n)∧∃ b' off' lc',At la b'∧Rd w' g (some ⟨b',off',none⟩) lc' (zs.drop (k+n)) (at_+(k+n))∧Kept (Only g) w w'
set_option maxRecDepth 1000000 in
set_option maxHeartbeats 1000000 in
theorem counted_any (g:Nat) (la:Option Addr) (lc:Nat) (zs:List Int) (at_:Nat) (w:World) (h:Rd w g la lc zs at_) :
    Calls Tryz.prog 134 #[.pointer (some ⟨g,0,none⟩)] w (CrPost w g la zs at_ (cr zs)):=by
  have HR:Hid (Rd w g la lc zs at_):=h
  clear h
  obtain ⟨N,hN⟩:∃ N,N=cr zs:=⟨_,rfl⟩
  rw [← hN]
  cases hv:nr zs with
  | error c=>
    have HE:Hid (N=.error c):=by rw [Hid,hN,cr,hv]
    clear hN
    go_enter Tryz.func134,Tryz.ntmps134
    go_wp2_with fail
    refine (num_any g la lc zs at_ w HR.out).mono ?_
    rw [hv]
    rintro e w1 ⟨rfl,hr,hk⟩
    have HF:Hid (Rdr w1 g∧Kept (Only g) w w1):=⟨hr,hk⟩
    clear hr hk hv
    go_wp2
    exact ⟨rfl,by rw [HE.out];exact ⟨rfl,HF.out⟩⟩
  | ok x=>
    obtain ⟨n,k⟩:=x
    by_cases hc:zs.length - k < n
    · have HE:Hid (N=.error 10):=by rw [Hid,hN,cr,hv];simp [hc]
      clear hN
      go_enter Tryz.func134,Tryz.ntmps134
      go_wp2_with fail
      refine (num_any g la lc zs at_ w HR.out).mono ?_
      rw [hv]
      rintro e w1 ⟨rfl,b',off',lc',-,hr,hk⟩
      have c0:w1.cell? ⟨g,0,none⟩=some (.slice (some ⟨b',off',none⟩) (zs.drop k).length lc'):=by rw [cell_of_row w1 g 0 _ 190 (0,0) hr.cell];rfl
      have q1:((zs.drop k).length:Int) < (n:Int):=by rw [List.length_drop];omega
      have HF:Hid (Rdr w1 g∧Kept (Only g) w w1):=⟨hr.rdr,hk⟩
      clear hr hk hv hc
      generalize (zs.drop k).length=L at c0 q1
      go_wp2
      exact ⟨rfl,by rw [HE.out];exact ⟨rfl,HF.out⟩⟩
    · have HE:Hid (N=.ok (n,k)):=by rw [Hid,hN,cr,hv];simp [hc]
      clear hN
      go_enter Tryz.func134,Tryz.ntmps134
      go_wp2_with fail
      refine (num_any g la lc zs at_ w HR.out).mono ?_
      rw [hv]
      rintro e w1 ⟨rfl,b',off',lc',ha,hr,hk⟩
      have HA:Hid (At la b'):=ha
      have HR1:Hid (Rd w1 g (some ⟨b',off',none⟩) lc' (zs.drop k) (at_+k)):=hr
      have HK1:Hid (Kept (Only g) w w1):=hk
      have HN:Hid (n≤(zs.drop k).length):=by show _≤_;rw [List.length_drop];omega
      have c0:w1.cell? ⟨g,0,none⟩=some (.slice (some ⟨b',off',none⟩) (zs.drop k).length lc'):=by rw [cell_of_row w1 g 0 _ 190 (0,0) hr.cell];rfl
      have q1:¬ ((zs.drop k).length:Int) < (n:Int):=by rw [List.length_drop];omega
      clear hr hk hv hc ha
      generalize (zs.drop k).length=L at c0 q1
      go_wp2_with fail
      refine (take_any g b' off' lc' (zs.drop k) (at_+k) n w1 HR1.out HN.out).mono ?_
      rintro e w2 ⟨rfl,b2,off2,lc2,ha2,hr2,hk2⟩
      have HF:Hid (CrPost w g la zs at_ N (.returned (.slice (some ⟨b',off',none⟩) n lc')) w2):=by
        rw [HE.out]
        refine ⟨b',off',lc',rfl,?_,b2,off2,lc2,?_,?_,HK1.out.then hk2⟩
        · have hs:=HR1.out.sl
          have hN':=HN.out
          have hcap:=hs.le
          refine ⟨by rw [List.length_take];omega,(hs.bytes.take n).kept2 hk2 (fun h0 i hi e=>HR1.out.ne (by rw [List.length_take] at h0;omega) hi e),hs.u8.take n,by omega,hs.cm,by have:=hs.bd;omega,fun e=>by cases e⟩
        · obtain ⟨ad,e,rfl⟩:=ha2;cases e;exact HA.out
        · rw [← List.drop_drop,← Nat.add_assoc];exact hr2
      clear hr2 hk2 ha2
      go_wp2
      go_ret
      exact HF.out
set_option maxRecDepth 1000000 in
set_option maxHeartbeats 400000 in
theorem More_ok (g:Nat) (la:Option Addr) (lc:Nat) (zs:List Int) (at_:Nat) (w:World) (h:Rd w g la lc zs at_) :
    Calls Tryz.prog 175 #[.pointer (some ⟨g,0,none⟩)] w fun e w'=>e=.returned (.bool (decide (0 < zs.length)))∧w'=w:=by
  have c0:w.cell? ⟨g,0,none⟩=some (.slice la zs.length lc):=by rw [cell_of_row w g 0 _ 190 (0,0) h.cell];rfl
  clear h
  go_enter Tryz.func175,Tryz.ntmps175
  go_wp2
  go_ret
  exact ⟨ret_bool (by rw [Bool.eq_iff_iff]),rfl⟩
set_option maxRecDepth 1000000 in
set_option maxHeartbeats 400000 in
theorem Err_any (g:Nat) (v0 v1:Value) (p c:Int) (w:World) (h:w.heap[g]?=some (.cells #[v0,v1,.int .i64 p,.int .i64 c] 190 (0,0))) :
    Calls Tryz.prog 131 #[.pointer (some ⟨g,0,none⟩)] w fun e w'=>e=.returned (.tuple #[.int .i64 p,.int .i64 c])∧∃ n,w'=w.drewN n:=by
  have c2:w.cell? ⟨g,2,none⟩=some (.int .i64 p):=by rw [cell_of_row w g 2 _ 190 (0,0) h];rfl
  have c3:w.cell? ⟨g,3,none⟩=some (.int .i64 c):=by rw [cell_of_row w g 3 _ 190 (0,0) h];rfl
  clear h
  go_enter Tryz.func131,Tryz.ntmps131
  go_wp2
  go_quiet (fail)
  go_wp2
  go_ret2
  exact ⟨rfl,_,rfl⟩
theorem Rd.kept {S:Nat→Prop} {w w':World} {g:Nat} {la:Option Addr} {lc:Nat} {zs:List Int} {at_:Nat} (h:Rd w g la lc zs at_) (hk:Kept S w w') (hg:¬ S g) (hS:0 < zs.length→∀ k,At la k→¬ S k):Rd w' g la lc zs at_:=
  ⟨(hk.block g h.lt hg).trans h.cell,h.sl.kept2 hk hS,h.bd⟩
theorem Sl.ne {w:World} {a:Option Addr} {m c:Nat} {zs:List Int} (h:Sl w a m c zs) (h0:0 < zs.length) {k:Nat} (hk:At a k) {N:Nat} {v:Value} {t:TypeId} {fr:Nat × Nat} (hN:w.heap[N]?=some (.cells #[v] t fr)) (hv:∀ z,v≠.int .u8 z):k≠N:=by
  rintro rfl
  obtain ⟨b,off,rfl,hc⟩:=h.bytes 0 h0
  obtain ⟨ad,e,e2⟩:=hk
  cases e
  simp only at e2
  subst e2
  rw [cell_of_row w b (off+0) _ t fr hN] at hc
  match off,hc with
  | 0,hc=>simp at hc;exact hv _ hc
  | n+1,hc=>simp at hc
def Two (g N:Nat):Nat→Prop:=fun k=>k=g∨k=N
theorem Rd.laid {W w1:World} {g N:Nat} {la:Option Addr} {lc:Nat} {zs:List Int} {at_:Nat} {v v':Value} {t:TypeId} (h:Rd w1 g la lc zs at_) (hk:Kept (Only g) W w1) (hN:w1.heap[N]?=some (.cells #[v] t (0,0))) (hne:N≠g) (hv:∀ z,v≠.int .u8 z) :
    Rd (w1.setCell ⟨N,0,none⟩ v') g la lc zs at_∧(w1.setCell ⟨N,0,none⟩ v').heap[N]?=some (.cells #[v'] t (0,0))∧Kept (Two g N) W (w1.setCell ⟨N,0,none⟩ v'):=by
  have hK:Kept (Only N) w1 (w1.setCell ⟨N,0,none⟩ v'):=(Kept.refl (Only N) w1).setCell (p:=⟨N,0,none⟩) (fun _=>(rfl:N=N)) _
  refine ⟨h.kept hK (fun e=>hne (e:g=N).symm) (fun h0 k hk e=>h.sl.ne h0 hk hN hv e),?_,?_⟩
  · rw [heap_setCell_same w1 N 0 _ t v' hN];rfl
  · exact (hk.mono (fun i _ e=>.inl e)).setCell (p:=⟨N,0,none⟩) (fun _=>.inr rfl) _
def Laid (g N:Nat) (t:TypeId) (la:Option Addr) (zs:List Int) (at_ k:Nat) (v:Value) (W w':World):Prop:=
  w'.heap[N]?=some (.cells #[v] t (0,0))∧(∃ b' off' lc',At la b'∧Rd w' g (some ⟨b',off',none⟩) lc' (zs.drop k) (at_+k))∧Kept (Two g N) W w'
set_option maxRecDepth 1000000 in
set_option maxHeartbeats 1000000 in
theorem num1_any (A N g:Nat) (la:Option Addr) (lc:Nat) (zs:List Int) (at_:Nat) (W:World) (h:Rd W g la lc zs at_) (hA:W.cell? ⟨A,0,none⟩=some (.pointer (some ⟨g,0,none⟩))) (hN:W.heap[N]?=some (.cells #[.int .i64 0] 3 (0,0))) (hne:N≠g) :
    Calls Tryz.prog 140 #[.pointer (some ⟨A,0,none⟩),.pointer (some ⟨N,0,none⟩)] W (Throws g (fun W w'=>∃ u k,nr zs=.ok (u,k)∧Laid g N 3 la zs at_ k (.int .i64 (u:Int)) W w') (fun c=>nr zs=.error c) W):=by
  have HR:Hid (Rd W g la lc zs at_):=h
  have HN:Hid (W.heap[N]?=some (.cells #[.int .i64 0] 3 (0,0))):=hN
  clear h hN
  cases hv:nr zs with
  | error c=>
    go_enter Tryz.func140,Tryz.ntmps140
    go_wp2_with fail
    refine (num_any g la lc zs at_ W HR.out).mono ?_
    rw [hv]
    rintro e w1 ⟨rfl,hr,hk⟩
    have HF:Hid (Rdr w1 g∧Kept (Only g) W w1):=⟨hr,hk⟩
    clear hr hk hv
    go_wp2
    exact ⟨rfl,.inr ⟨c,rfl,rfl,HF.out⟩⟩
  | ok x=>
    obtain ⟨u,k⟩:=x
    go_enter Tryz.func140,Tryz.ntmps140
    go_wp2_with fail
    refine (num_any g la lc zs at_ W HR.out).mono ?_
    rw [hv]
    rintro e w1 ⟨rfl,b',off',lc',ha,hr,hk⟩
    have HN1:Hid (w1.heap[N]?=some (.cells #[.int .i64 0] 3 (0,0))):=(hk.block N (Array.getElem?_eq_some_iff.1 HN.out).1 (fun e=>hne e)).trans HN.out
    have cN:w1.cell? ⟨N,0,none⟩=some (.int .i64 0):=by rw [cell_of_row w1 N 0 _ 3 (0,0) HN1.out];rfl
    have fN:=frozen_of_row w1 N 0 _ 3 HN1.out
    have HL:Hid _:=Rd.laid (v':=.int .i64 (u:Int)) hr hk HN1.out hne (fun z e=>by cases e)
    have HA:Hid (At la b'):=ha
    clear hr hk hv ha
    go_wp2
    go_end0
    exact .inl ⟨rfl,u,k,rfl,HL.out.2.1,⟨b',off',lc',HA.out,HL.out.1⟩,HL.out.2.2⟩
theorem run53 (caps:Array Value) (W:World):(callFunc 140 caps).run Tryz.prog W=.ok (.enter 140 caps) W:=by kernel_rfl
end Go.Proofs.YtgdnofacgfjaeabGreat.Wi
