import Derived.Test.YtgdnofacgfjaeaaGreatWiVr
import Derived.Test.YtgdnofacgfjaeaaGreatOd
import Derived.Test.YtgdnofacgfjaeaaGreatWiYa
import Derived.Test.YtgdnofacgfjaeaaGreatPa
import Derived.Test.YtgdnofacgfjaeaaGreatFi
namespace Go.Proofs.YtgdnofacgfjaeaaGreat.Wi
open Go.RowKit
set_option linter.unusedVariables false
structure Sq (w:World) (a:Option Addr) (m cap:Nat) (zs:List Int):Prop where
  len:zs.length=m
  bytes:Bytes w a zs
  bd:m≤140737488351232
  nil:a=none→cap=0
theorem Sq.kept {S:Nat→Prop} {w w':World} {a:Option Addr} {m cap:Nat} {zs:List Int} (h:Sq w a m cap zs) (hk:Kept S w w') (hS:0 < m→∀ k,At a k→¬ S k):Sq w' a m cap zs:=⟨h.len,fun i hi=>by obtain ⟨b,off,rfl,hc⟩:=h.bytes i hi;exact ⟨b,off,rfl,hk.cell hc (hS (by have:=h.len;omega) b ⟨_,rfl,rfl⟩)⟩,h.bd,h.nil⟩
theorem Sq.no {w w':World} {a:Option Addr} {m cap:Nat} {zs:List Int} (h:Sq w a m cap zs) (hk:Kept No w w'):Sq w' a m cap zs:=h.kept hk (fun _ _ _ e=>e)
structure ItOq (w:World) (x:Item):Prop where
  sl:Sq w x.a x.m x.c x.zs
  lo:-9223372036854775808≤x.n
  hi:x.n≤9223372036854775807
theorem ItOq.no {w w':World} {x:Item} (h:ItOq w x) (hk:Kept No w w'):ItOq w' x:=⟨h.sl.no hk,h.lo,h.hi⟩
theorem putOf_lenq {w:World} {x:Item} (h:ItOq w x):(putOf x).length≤10+x.m:=by
  have h1:=h.lo;have h2:=h.hi;have h3:=h.sl.len;have h4:=h.sl.bd
  unfold putOf
  split
  · have:=vint_len10 x.n.toNat (by omega);omega
  · split
    · have:=vint_len10 (zz x.n) (zz_64 _ h1 h2);omega
    · have:=vint_len10 x.zs.length (by omega);rw [List.length_append];omega
set_option maxRecDepth 1000000 in
set_option maxHeartbeats 1000000 in
theorem rput_q (x:Item) (w:World) (h:ItOq w x) (hneg:x.k=1→0≤x.n) :
    Calls Tryz.prog 218 #[.agg #[.int .i64 x.k,.int .i64 x.n,.slice x.a x.m x.c]] w fun e w'=>∃ a' n' c',e=.returned (.slice a' n' c')∧n'=(putOf x).length∧OwnS w' w.heap.size a' c' (putOf x)∧Kept No w w':=by
  obtain ⟨k,n,a,m,c,zs⟩:=x
  obtain ⟨hs,h0,h1⟩:=h
  simp only at hs h0 h1 hneg ⊢
  have HS:Hid (Sq w a m c zs):=hs
  have hbd:=hs.bd
  clear hs
  by_cases e1:k=1
  · obtain ⟨u,rfl⟩:=Int.eq_ofNat_of_zero_le (hneg e1)
    have HP:Hid (putOf ⟨k,(u:Int),a,m,c,zs⟩=vint u):=by unfold Hid putOf;simp [e1]
    have e1':(k==1)=true:=by simpa using e1
    generalize putOf ⟨k,(u:Int),a,m,c,zs⟩=P at HP ⊢
    clear e1 hneg
    go_enter Tryz.func218,Tryz.ntmps218
    go_wp2_with fail
    refine (rvarint_any u _ (by unfold W64;omega)).mono ?_
    rintro e w1 ⟨a1,n1,c1,rfl,hn1,hO1,hK1⟩
    have HF:Hid (n1=P.length∧OwnS w1 w.heap.size a1 c1 P∧Kept No w w1):=⟨by rw [HP.out];exact hn1,by rw [HP.out];exact hO1.lower (by simp),((Kept.refl _ _).alloc _).then hK1⟩
    clear hn1 hO1 hK1
    go_wp2
    go_ret
    exact ⟨a1,n1,c1,rfl,HF.out⟩
  have e1':(k==1)=false:=by simpa using e1
  by_cases e2:k=2
  · have HP:Hid (putOf ⟨k,n,a,m,c,zs⟩=vint (zz n)):=by unfold Hid putOf;simp [e2]
    have e2':(k==2)=true:=by simpa using e2
    generalize putOf ⟨k,n,a,m,c,zs⟩=P at HP ⊢
    clear e1 e2 hneg
    go_enter Tryz.func218,Tryz.ntmps218
    go_wp2_with fail
    refine (rzigzag_any n _ h0 h1).mono ?_
    rintro e w1 ⟨rfl,rfl⟩
    go_wp2_with fail
    refine (rvarint_any (zz n) _ (zz_64 n h0 h1)).mono ?_
    rintro e w1 ⟨a1,n1,c1,rfl,hn1,hO1,hK1⟩
    have HF:Hid (n1=P.length∧OwnS w1 w.heap.size a1 c1 P∧Kept No w w1):=⟨by rw [HP.out];exact hn1,by rw [HP.out];exact hO1.lower (by simp),((Kept.refl _ _).alloc _).then hK1⟩
    clear hn1 hO1 hK1
    go_wp2
    go_ret
    exact ⟨a1,n1,c1,rfl,HF.out⟩
  · have HP:Hid (putOf ⟨k,n,a,m,c,zs⟩=vint m++zs):=by unfold Hid putOf;simp [e1,e2,HS.out.len]
    have e2':(k==2)=false:=by simpa using e2
    generalize putOf ⟨k,n,a,m,c,zs⟩=P at HP ⊢
    clear e1 e2 hneg
    go_enter Tryz.func218,Tryz.ntmps218
    go_wp2_with fail
    refine (rvarint_any m _ (by unfold W64;omega)).mono ?_
    rintro e w1 ⟨a1,n1,c1,rfl,hn1,hO1,hK1⟩
    have HO1:Hid (OwnS w1 w.heap.size a1 c1 (vint m)):=hO1.lower (by simp)
    have HK1:Hid (Kept No w w1):=((Kept.refl _ _).alloc _).then hK1
    have HN1:Hid (n1=(vint m).length):=hn1
    have hl:n1≤10:=by rw [hn1];exact vint_len10 m (by omega)
    have hcl:w1.cell? ⟨w.heap.size,2,none⟩=some (.slice a m c):=hK1.cell (by simp) (fun e=>e)
    clear hn1 hO1 hK1
    go_wp2_with (at_builtin;go_must (refine wp_appB _ Tryz.underlying35 Tryz.info5 rfl _ _ rfl w.heap.size _ _ _ (vint m) rfl HN1.out.symm HO1.out _ _ _ zs rfl HS.out.len (HS.out.no HK1.out).bytes HS.out.nil (by omega) HK1.out.size ?_;intro a2 c2 w2 HO2 HK2 HM2))
    go_ret
    exact ⟨a2,_,c2,rfl,by rw [HP.out,HN1.out,List.length_append,HS.out.len],by rw [HP.out];exact HO2.out,HK1.out.fresh HK2.out (fun i e=>HO1.out.base e)⟩
theorem putIt_lenq {w:World} {x:Item} (h:ItOq w x) (st:Option (List Int)):stLen (putIt st x)≤stLen st+(10+x.m):=by
  cases st with
  | none=>rw [putIt_none];exact Nat.zero_le _
  | some zs=>
    by_cases h1:x.k=1∧x.n < 0
    · rw [putIt_neg _ h1.1 h1.2];exact Nat.zero_le _
    · rw [putIt_some zs (fun e=>by by_cases h2:x.n < 0;exact absurd ⟨e,h2⟩ h1;omega)]
      have:=putOf_lenq h
      simp only[stLen,List.length_append];omega
theorem allOf_lenq {w:World} (xs:List Item) (h:∀ x∈xs,ItOq w x):stLen (allOf xs)≤tot xs:=by
  suffices H:∀ (xs:List Item) (st:Option (List Int)),(∀ x∈xs,ItOq w x)→stLen (xs.foldl putIt st)≤stLen st+tot xs by
    have:=H xs (some []) h;simpa [stLen,allOf] using this
  intro xs
  induction xs with
  | nil=>intro st _;simp [tot]
  | cons x r ih=>
    intro st h
    have h1:=ih (putIt st x) (fun y hy=>h y (List.mem_cons_of_mem _ hy))
    have h2:=putIt_lenq (h x (List.mem_cons_self ..)) st
    rw [List.foldl_cons]
    have:tot (x :: r)=(10+x.m)+tot r:=by simp [tot]
    omega
set_option maxRecDepth 1000000 in
set_option maxHeartbeats 2000000 in
theorem rDone_q (a:Option Addr) (n c:Nat) (xs:List Item) (w:World) (hn:xs.length=n) (hb:n≤140737488355328) (hx:Its w a xs) (hok:∀ x∈xs,ItOq w x) (ht:tot xs≤140737488355328) :
    Calls Tryz.prog 180 #[.slice a n c] w fun e w'=>∃ a' n' c',e=.returned (.tuple #[.slice a' n' c',.int .i64 (doneOf (allOf xs)).2])∧n'=(doneOf (allOf xs)).1.length∧OwnS w' w.heap.size a' c' (doneOf (allOf xs)).1∧Kept No w w':=by
  have HX:Hid (Its w a xs):=hx
  have HO:Hid (∀ x∈xs,ItOq w x):=hok
  have HT:Hid (tot xs≤140737488355328):=ht
  have HN:Hid (xs.length=n):=hn
  obtain ⟨D,hD⟩:∃ D,D=doneOf (allOf xs):=⟨_,rfl⟩
  rw [← hD]
  have HD:Hid (D=doneOf (allOf xs)):=hD
  clear hx hok ht hn hD
  go_enter Tryz.func180,Tryz.ntmps180
  go_wp2
  go_loopw [4,5] (fun o i wr=>∃ k:Nat,∃ a' n' c',k≤n∧i=.int .i64 (k:Int)∧o=.slice a' n' c'∧n'≤140737488355328∧Hid (∃ zs',n'=zs'.length∧OwnS wr w.heap.size a' c' zs'∧allOf (xs.take k)=some zs')∧Hid (Kept No w wr)) (fun _ i _=>n - (intOf i).toNat)
  case atStart=>exact ⟨0,none,0,0,Nat.zero_le _,rfl,rfl,by omega,⟨[],rfl,OwnS.nil _ _,rfl⟩,Kept.refl _ _⟩
  case round=>
    obtain ⟨k,a1,n1,c1,hk,rfl,rfl,hn1,HR,HK⟩:=hrel
    obtain ⟨zs1,hz1,ho1,he1⟩:=HR.out
    have HN1:Hid (n1=zs1.length):=hz1
    have HO1:Hid (OwnS wr w.heap.size a1 c1 zs1):=ho1
    have HE1:Hid (allOf (xs.take k)=some zs1):=he1
    clear hz1 ho1 he1 HR
    by_cases hlt:k < n
    · obtain ⟨x,hxk⟩:∃ x,xs[k]?=some x:=⟨xs[k]'(by rw [HN.out];exact hlt),by rw [List.getElem?_eq_getElem]⟩
      have HI:Hid (ItOq w x):=HO.out x (List.mem_of_getElem? hxk)
      obtain ⟨b,off,rfl,hc0,hc1,hc2⟩:=(HX.out.no HK.out) k x hxk
      have HXK:Hid (xs[k]?=some x):=hxk
      have HL:Hid (stLen (putIt (some zs1) x)≤140737488355328):=by
        have h1:=allOf_lenq (xs.take (k+1)) (fun y hy=>HO.out y (List.mem_of_mem_take hy))
        rw [allOf_snoc xs k x hxk,HE1.out] at h1
        have:=tot_take xs (k+1);have:=HT.out;show _≤_;omega
      clear hxk
      by_cases hneg:x.k=1∧x.n < 0
      · have q1:(x.k==1)=true:=by simpa using hneg.1
        have q2:x.n < 0:=hneg.2
        have HF:Hid (D=([],1)):=by
          show D=_
          rw [HD.out,allOf_none (k+1) (by rw [allOf_snoc xs k x HXK.out];exact putIt_neg _ hneg.1 hneg.2)];rfl
        clear hneg
        go_wp2
        go_ret2
        exact ⟨none,0,0,by rw [HF.out];rfl,by rw [HF.out];rfl,by rw [HF.out];exact OwnS.nil _ _,HK.out⟩
      · have HP:Hid (x.k=1→0≤x.n):=fun e=>by by_cases h2:x.n < 0;exact absurd ⟨e,h2⟩ hneg;omega
        have HS:Hid (allOf (xs.take (k+1))=some (zs1++putOf x)):=by rw [Hid,allOf_snoc xs k x HXK.out,HE1.out,putIt_some _ HP.out]
        have HL2:Hid (zs1.length+(putOf x).length≤140737488355328):=by have:=HL.out;rw [putIt_some _ HP.out] at this;simp only[stLen,List.length_append] at this;exact this
        by_cases q0:x.k=1
        · have q1:(x.k==1)=true:=by simpa using q0
          have q2:¬ x.n < 0:=by have:=HP.out q0;omega
          clear q0 hneg
          go_wp2_with fail
          refine (rput_q x wr (HI.out.no HK.out) HP.out).mono ?_
          rintro e w2 ⟨a2,n2,c2,rfl,hn2,hO2,hK2⟩
          have HN2:Hid (n2=(putOf x).length):=hn2
          have HB2:Hid (OwnS w2 wr.heap.size a2 c2 (putOf x)):=hO2
          have HO2:Hid (OwnS w2 w.heap.size a1 c1 zs1):=HO1.out.no hK2
          have HK2:Hid (Kept No w w2):=HK.out.then hK2
          have hl:n1+n2≤140737488355328:=by rw [HN1.out,HN2.out];exact HL2.out
          clear hn2 hO2 hK2 hc0 hc1 hc2
          go_wp2_with (at_builtin;go_must (refine wp_appB _ Tryz.underlying35 Tryz.info5 rfl _ _ rfl w.heap.size _ _ _ zs1 rfl HN1.out.symm HO2.out _ _ _ (putOf x) rfl HN2.out.symm HB2.out.bytes HB2.out.nilcap hl HK2.out.size ?_;intro a3 c3 w3 HO3 HK3' HM3))
          have HF:Hid (∃ zs',n1+n2=zs'.length∧OwnS w3 w.heap.size a3 c3 zs'∧allOf (xs.take (k+1))=some zs'):=⟨_,by rw [HN1.out,HN2.out,List.length_append],HO3.out,HS.out⟩
          have HK3:Hid (Kept No w w3):=HK2.out.fresh HK3'.out (fun i e=>HO2.out.base e)
          go_roundw
          case rel=>exact ⟨k+1,a3,n1+n2,c3,by omega,by go_num,rfl,hl,HF,HK3⟩
          case measure=>simp [intOf];omega
        · have q1:(x.k==1)=false:=by simpa using q0
          clear q0 hneg
          go_wp2_with fail
          refine (rput_q x wr (HI.out.no HK.out) HP.out).mono ?_
          rintro e w2 ⟨a2,n2,c2,rfl,hn2,hO2,hK2⟩
          have HN2:Hid (n2=(putOf x).length):=hn2
          have HB2:Hid (OwnS w2 wr.heap.size a2 c2 (putOf x)):=hO2
          have HO2:Hid (OwnS w2 w.heap.size a1 c1 zs1):=HO1.out.no hK2
          have HK2:Hid (Kept No w w2):=HK.out.then hK2
          have hl:n1+n2≤140737488355328:=by rw [HN1.out,HN2.out];exact HL2.out
          clear hn2 hO2 hK2 hc0 hc1 hc2
          go_wp2_with (at_builtin;go_must (refine wp_appB _ Tryz.underlying35 Tryz.info5 rfl _ _ rfl w.heap.size _ _ _ zs1 rfl HN1.out.symm HO2.out _ _ _ (putOf x) rfl HN2.out.symm HB2.out.bytes HB2.out.nilcap hl HK2.out.size ?_;intro a3 c3 w3 HO3 HK3' HM3))
          have HF:Hid (∃ zs',n1+n2=zs'.length∧OwnS w3 w.heap.size a3 c3 zs'∧allOf (xs.take (k+1))=some zs'):=⟨_,by rw [HN1.out,HN2.out,List.length_append],HO3.out,HS.out⟩
          have HK3:Hid (Kept No w w3):=HK2.out.fresh HK3'.out (fun i e=>HO2.out.base e)
          go_roundw
          case rel=>exact ⟨k+1,a3,n1+n2,c3,by omega,by go_num,rfl,hl,HF,HK3⟩
          case measure=>simp [intOf];omega
    · go_wp2
      go_ret2
      have HF:Hid (D=(zs1,0)):=by
        have:=HE1.out
        rw [List.take_of_length_le (by rw [HN.out];omega)] at this
        show D=_
        rw [HD.out,this];rfl
      exact ⟨a1,n1,c1,by rw [HF.out];rfl,by rw [HF.out];exact HN1.out,by rw [HF.out];exact HO1.out,HK.out⟩
end Go.Proofs.YtgdnofacgfjaeaaGreat.Wi
namespace Go.Proofs.YtgdnofacgfjaeaaGreat.Md
open Go.RowKit
set_option linter.unusedVariables false
set_option linter.unusedSimpArgs false
def Low (base:Nat) (s:Sl):Prop:=0 < s.l→∀ k,At s.a k→k < base
theorem RowsAt.nil' {n:Nat} {w:World} {a:Option Addr} {xs:List (List Value)} (h:xs.length=0):RowsAt n w a xs:=by
  rw [List.eq_nil_of_length_eq_zero h];exact RowsAt.nil _ _ _
theorem RdB.keptL {S:Nat→Prop} {w w':World} {s:Sl} {xs:List Int} (h:RdB w s xs) (hk:Kept S w w') (hS:0 < s.l→∀ k,At s.a k→¬ S k):RdB w' s xs:=
  ⟨fun i hi=>by obtain ⟨b,off,e,hc⟩:=h.row i hi;exact ⟨b,off,e,hk.cell hc (hS (by have:=h.len;omega) b ⟨_,e,rfl⟩)⟩,h.len,h.cap⟩
theorem RdE.keptL {S:Nat→Prop} {w w':World} {s:Sl} {xs:List En} (h:RdE w s xs) (hk:Kept S w w') (hS:0 < s.l→∀ k,At s.a k→¬ S k):RdE w' s xs:=by
  by_cases h0:0 < s.l
  · exact ⟨RowsAt.kept h.row hk (hS h0),h.len,h.cap⟩
  · exact ⟨RowsAt.nil' (by rw [List.length_map,h.len];omega),h.len,h.cap⟩
theorem RdL.keptL {S:Nat→Prop} {w w':World} {s:Sl} {xs:List La} (h:RdL w s xs) (hk:Kept S w w') (hS:0 < s.l→∀ k,At s.a k→¬ S k):RdL w' s xs:=by
  by_cases h0:0 < s.l
  · exact ⟨RowsAt.kept h.row hk (hS h0),h.len,h.cap⟩
  · exact ⟨RowsAt.nil' (by rw [List.length_map,h.len];omega),h.len,h.cap⟩
theorem RdC.keptL {S:Nat→Prop} {w w':World} {s:Sl} {xs:List Cm} (h:RdC w s xs) (hk:Kept S w w') (hS:0 < s.l→∀ k,At s.a k→¬ S k):RdC w' s xs:=by
  by_cases h0:0 < s.l
  · exact ⟨RowsAt.kept h.row hk (hS h0),h.len,h.cap⟩
  · exact ⟨RowsAt.nil' (by rw [List.length_map,h.len];omega),h.len,h.cap⟩
inductive It
  | n (i:Int)
  | b (zs:List Int)
def itLen:It→Nat
  | .n _=>10
  | .b zs=>10+zs.length
def itsLen (L:List It):Nat:=(L.map itLen).sum
def itOk:It→Prop
  | .n i=>0≤i∧i≤1099511627776
  | .b zs=>zs.length≤4096∧Wi.U8 zs
theorem itsLen_app (A B:List It):itsLen (A++B)=itsLen A+itsLen B:=by simp [itsLen]
theorem pre_len {A T:List It} (h:A <+: T):itsLen A≤itsLen T:=by
  obtain ⟨R,rfl⟩:=h
  rw [itsLen_app];omega
theorem pre_mem {A:List It} {x:It} {T:List It} (h:A++[x] <+: T):x∈T:=by
  obtain ⟨R,rfl⟩:=h;simp
structure Sink where
  g:Nat
  base:Nat
  bad:TypeId→Prop
  T:List It
  ok:∀ x∈T,itOk x
  len:itsLen T≤131072
  St:World→Option Addr→List It→Prop
  no:∀ {w w':World} {a:Option Addr} {L:List It},St w a L→Kept No w w'→St w' a L
  set:∀ {w:World} {a:Option Addr} {L:List It} {k:Nat} {t:TypeId} {cs:Array Value},St w a L→Box w k t cs→¬ bad t→base≤k→∀ cs',St (w.setRow k cs') a L
  bs:∀ {w:World} {a:Option Addr} {L:List It},St w a L→base≤w.heap.size
  apart:∀ {w:World} {a:Option Addr} {L:List It} {k:Nat} {t:TypeId} {cs:Array Value},St w a L→Box w k t cs→¬ bad t→¬ (k=g∨At a k)
def Sink.Wr (K:Sink) (a:Option Addr):Nat→Prop:=fun k=>k=K.g∨At a k
def Sink.Put (K:Sink) (w:World) (a:Option Addr) (L:List It) (e:Ending) (w':World):Prop:=
  e=.returned (.tuple #[])∧∃ a',K.St w' a' L∧Kept (K.Wr a) w w'∧∀ k,At a' k→At a k∨w.heap.size≤k
structure Kf (K:Sink) (w0 w:World) (a:Option Addr) (L:List It) (l:List (Nat × TypeId × Array Value)):Prop where
  kept:Kept (K.Wr a) w0 w
  bs:K.base≤w0.heap.size
  st:∃ a',K.St w a' L∧∀ k,At a' k→At a k∨w0.heap.size≤k
  box:∀ (i:Nat) g T cs,l[i]?=some (g,T,cs)→Box w g T cs
  low:∀ (i:Nat) g T cs,l[i]?=some (g,T,cs)→w0.heap.size≤g
  inj:∀ (i j:Nat) g T cs T' cs',l[i]?=some (g,T,cs)→l[j]?=some (g,T',cs')→i=j
  typ:∀ (i:Nat) g T cs,l[i]?=some (g,T,cs)→¬ K.bad T
theorem Kf.start {K:Sink} {w:World} {a:Option Addr} {L:List It} (h:K.St w a L):Kf K w w a (L++[]) []:=
  ⟨Kept.refl _ _,K.bs h,⟨a,by rw [List.append_nil];exact h,fun k hk=>.inl hk⟩,by simp,by simp,by simp,by simp⟩
theorem Kf.no {K:Sink} {w0 w w':World} {a:Option Addr} {L:List It} {l:List (Nat × TypeId × Array Value)} (h:Kf K w0 w a L l) (hk:Kept No w w'):Kf K w0 w' a L l:=by
  obtain ⟨a',h1,h2⟩:=h.st
  exact ⟨h.kept.thenNo hk,h.bs,⟨a',K.no h1 hk,h2⟩,fun i g T cs hi=>(h.box i g T cs hi).kept hk (fun e=>e),h.low,h.inj,h.typ⟩
theorem Kf.alloc {K:Sink} {w0 w:World} {a:Option Addr} {L:List It} {l:List (Nat × TypeId × Array Value)} (h:Kf K w0 w a L l) (T:TypeId) (cs:Array Value) (ht:¬ K.bad T):Kf K w0 (w.alloc (.cells cs T)) a L (l++[(w.heap.size,T,cs)]):=by
  have hn:=h.no ((Kept.refl No w).alloc (.cells cs T))
  have key:∀ (i:Nat) g T' cs',(l++[(w.heap.size,T,cs)])[i]?=some (g,T',cs')→l[i]?=some (g,T',cs')∨(i=l.length∧g=w.heap.size∧T'=T∧cs'=cs):=by
    intro i g T' cs' hi
    rw [List.getElem?_append] at hi
    split at hi
    · exact .inl hi
    · have hlt:=(List.getElem?_eq_some_iff.1 hi).1
      have:i - l.length=0:=by simp at hlt;omega
      rw [this] at hi
      simp at hi
      exact .inr ⟨by omega,hi.1.symm,hi.2.1.symm,hi.2.2.symm⟩
  refine ⟨hn.kept,hn.bs,hn.st,?_,?_,?_,?_⟩
  · intro i g T' cs' hi
    rcases key i g T' cs' hi with h1 | ⟨_,rfl,rfl,rfl⟩
    · exact hn.box i g T' cs' h1
    · exact Box.new _ _ _
  · intro i g T' cs' hi
    rcases key i g T' cs' hi with h1 | ⟨_,rfl,_⟩
    · exact h.low i g T' cs' h1
    · exact h.kept.size
  · intro i j g T1 c1 T2 c2 hi hj
    rcases key i g T1 c1 hi with h1 | ⟨e1,e2,_⟩ <;> rcases key j g T2 c2 hj with h2 | ⟨e3,e4,_⟩
    · exact h.inj i j g T1 c1 T2 c2 h1 h2
    · have:=(h.box i g T1 c1 h1).lt;omega
    · have:=(h.box j g T2 c2 h2).lt;omega
    · omega
  · intro i g T' cs' hi
    rcases key i g T' cs' hi with h1 | ⟨_,_,rfl,_⟩
    · exact h.typ i g T' cs' h1
    · exact ht
theorem Kf.front {K:Sink} {w0 w:World} {a:Option Addr} {L:List It} {l m:List (Nat × TypeId × Array Value)} (h:Kf K w0 w a L (l++m)):Kf K w0 w a L l:=
  ⟨h.kept,h.bs,h.st,fun i g T cs hi=>h.box i g T cs (List.getElem?_append_left (List.getElem?_eq_some_iff.1 hi).1 ▸ hi),fun i g T cs hi=>h.low i g T cs (List.getElem?_append_left (List.getElem?_eq_some_iff.1 hi).1 ▸ hi),
    fun i j g T cs T' cs' hi hj=>h.inj i j g T cs T' cs' (List.getElem?_append_left (List.getElem?_eq_some_iff.1 hi).1 ▸ hi) (List.getElem?_append_left (List.getElem?_eq_some_iff.1 hj).1 ▸ hj),fun i g T cs hi=>h.typ i g T cs (List.getElem?_append_left (List.getElem?_eq_some_iff.1 hi).1 ▸ hi)⟩
theorem Kf.put {K:Sink} {w0 w:World} {a:Option Addr} {L:List It} {l:List (Nat × TypeId × Array Value)} (h:Kf K w0 w a L l):K.Put w0 a L (.returned (.tuple #[])) w:=by
  obtain ⟨a',h1,h2⟩:=h.st
  exact ⟨rfl,a',h1,h.kept,h2⟩
theorem Kf.call {K:Sink} {w0 w:World} {a:Option Addr} {L M:List It} {l:List (Nat × TypeId × Array Value)} (h:Kf K w0 w a L l) {f:FuncId} {args:Array Value} (hc:∀ a,K.St w a L→Calls Tryz.prog f args w (K.Put w a M)) :
    Calls Tryz.prog f args w (fun e w'=>e=.returned (.tuple #[])∧Kf K w0 w' a M l):=by
  obtain ⟨a',h1,h2⟩:=h.st
  refine (hc a' h1).mono ?_
  rintro e w' ⟨rfl,a2,h3,h4,h5⟩
  refine ⟨rfl,h.kept.trans h4 (fun _ e=>e) (fun k hk e=>?_),h.bs,⟨a2,h3,fun k hk=>?_⟩,fun i g T cs hi=>?_,h.low,h.inj,h.typ⟩
  · rcases e with e | e
    · exact .inl e
    · rcases h2 k e with e | e
      · exact .inr e
      · omega
  · rcases h5 k hk with e | e
    · exact h2 k e
    · exact .inr (Nat.le_trans h.kept.size e)
  · exact (h.box i g T cs hi).kept h4 (K.apart h1 (h.box i g T cs hi) (h.typ i g T cs hi))
theorem pfx {L M P X T:List It} (HP:L++M <+: T) (h:P++X <+: M):(L++P)++X <+: T:=by
  obtain ⟨R,rfl⟩:=h
  obtain ⟨R2,rfl⟩:=HP
  exact ⟨R++R2,by simp⟩
section
variable {ops:Array Oper} {rest:List Oper} {o:Oper} {a:Act} {w:World} {Q:Exit→Act→World→Prop} {K:Sink} {w0:World} {a0:Option Addr} {L:List It} {l:List (Nat × TypeId × Array Value)}
theorem kB {t:TypeId} (cs:Array Value) (HF:Hid (Kf K w0 w a0 L l)) (ht:¬ K.bad t) (h:∀ g w',Hid (Kf K w0 w' a0 L (l++[(g,t,cs)]))→WL ops Q rest (a.put o.dst (.pointer (some ⟨g,0,none⟩))) w') {x:Operand}
    (ho:o.op=.box t x:=by rfl) (hx:a.eval x=.agg cs:=by kernel_rfl) (hw:Region.wanted o (yielded ops a.tmps)=true:=by kernel_rfl):WL ops Q (o :: rest) a w:=
  wp_runW _ _ (exec_box t x ho cs hx) hw (h _ _ (HF.out.alloc t cs ht))
theorem kD (v:Value) (HF:Hid (Kf K w0 w a0 L l)) (i k:Nat) {t:TypeId} {d:TypeDesc} (hu:Tryz.prog.underlying t=some d) {g:Nat} {Tb:TypeId} {cs:Array Value} (hi:l[i]?=some (g,Tb,cs)) (h:WL ops Q rest (a.put o.dst v) w) {x:Operand}
    (ho:o.op=.load t x:=by rfl) (hx:a.eval x=.pointer (some ⟨g,k,none⟩):=by kernel_rfl) (hc:cs[k]?=some v:=by kernel_rfl) (hd:(match d with | .struct _ | .array _ _=>true | _=>false)=false:=by kernel_rfl)
    (hw:Region.wanted o (yielded ops a.tmps)=true:=by kernel_rfl):WL ops Q (o :: rest) a w:=
  tW v (exec_load t x ho ⟨g,k,none⟩ hx v (load_one (((HF.out.box i g Tb cs hi).cell k).trans hc) hu hd)) h hw
theorem kP (sub:List Value) (HF:Hid (Kf K w0 w a0 L l)) (i k:Nat) {t:TypeId} (hu:Tryz.prog.underlying t=some (.struct (Tryz.prog.fieldsOf t))) (hs:(Tryz.prog.info? t).map (·.size)=some sub.length) {g:Nat} {Tb:TypeId} (cs:List Value) (hi:l[i]?=some (g,Tb,cs.toArray)) (h:WL ops Q rest (a.put o.dst (.agg sub.toArray)) w) {x:Operand}
    (ho:o.op=.load t x:=by rfl) (hx:a.eval x=.pointer (some ⟨g,k,none⟩):=by kernel_rfl) (hc:(cs.drop k).take sub.length=sub:=by kernel_rfl)
    (hw:Region.wanted o (yielded ops a.tmps)=true:=by kernel_rfl):WL ops Q (o :: rest) a w:=
  tW _ (exec_load t x ho ⟨g,k,none⟩ hx _ (run_load_part (cs:=cs) (sub:=sub) (HF.out.box i g Tb _ hi) (part_of hc) hu rfl hs)) h hw
theorem kC {P:List It} (M:List It) {f:FuncId} {args:Array Value} (HF:Hid (Kf K w0 w a0 (L++P) l)) (hc:∀ a,K.St w a (L++P)→Calls Tryz.prog f args w (K.Put w a ((L++P)++M)))
    (h:∀ w',Hid (Kf K w0 w' a0 (L++(P++M)) l)→WL ops Q rest (a.put o.dst (.tuple #[])) w')
    (hrun:(execOp a.eval o).run Tryz.prog w=.ok (.enter f args) w:=by kernel_rfl) (hw:Region.wanted o (yielded ops a.tmps)=true:=by kernel_rfl):WL ops Q (o :: rest) a w:=
  wp_callW f args hrun _ (HF.out.call hc) hw (by rintro e w' ⟨rfl,hk⟩;exact ⟨_,rfl,h w' (by rw [← List.append_assoc];exact hk)⟩)
end
def putT (st:Option (List Int)):It→Option (List Int)
  | .n i=>Wi.putNum st i
  | .b zs=>Wi.putBytes st zs
def putTs (L:List It):Option (List Int):=L.foldl putT (some [])
section
variable {base g:Nat} {T:List It} {ok:∀ x∈T,itOk x} {len:itsLen T≤131072}
end
section
variable {base g:Nat} {T:List It} {ok:∀ x∈T,itOk x} {len:itsLen T≤131072}
end
section
variable {ops:Array Oper} {a:Act} {w:World} {Q:Exit→Act→World→Prop} {md:Region.Mode} {K:Sink} {w0:World} {a0:Option Addr} {L:List It} {l:List (Nat × TypeId × Array Value)} {fuel:Nat} {listed:Array Bool}
theorem exL {o:Oper} {t:TypeId} {ad:Addr} {v:Value} (hrun:(loadVar t ad).run Tryz.prog w=.ok v w) (hl:ldA o a.eval=some (t,.pointer (some ad))):(execOp a.eval o).run Tryz.prog w=.ok (.value v) w:=by
  unfold ldA at hl
  split at hl
  · rename_i t' x hx
    obtain ⟨rfl,h2⟩:=Prod.mk.inj (Option.some.inj hl)
    exact exec_load _ x hx ad h2 v hrun
  · cases hl
end
section
variable {ops:Array Oper} {rest:List Oper} {o:Oper} {a:Act} {w:World} {Q:Exit→Act→World→Prop} {K:Sink} {w0:World} {a0:Option Addr} {L:List It} {l:List (Nat × TypeId × Array Value)}
theorem kA {t:TypeId} (cs:Array Value) (hz:(Tryz.prog.info? t).bind (·.zero)=some (.agg cs)) (HF:Hid (Kf K w0 w a0 L l)) (ht:¬ K.bad t) (h:∀ g w',Hid (Kf K w0 w' a0 L (l++[(g,t,cs)]))→WL ops Q rest (a.put o.dst (.pointer (some ⟨g,0,none⟩))) w')
    (ho:o.op=.alloc t:=by rfl) (hw:Region.wanted o (yielded ops a.tmps)=true:=by kernel_rfl):WL ops Q (o :: rest) a w:=
  wp_runW _ _ (exec_alloc t ho cs hz) hw (h _ _ (HF.out.alloc t cs ht))
end
theorem Kf.set {K:Sink} {w0 w:World} {a:Option Addr} {L:List It} {l:List (Nat × TypeId × Array Value)} (h:Kf K w0 w a L l) (i:Nat) {g:Nat} {T:TypeId} {cs:Array Value} (hi:l[i]?=some (g,T,cs)) (cs':Array Value):Kf K w0 (w.setRow g cs') a L (l.set i (g,T,cs')):=by
  have hlt:=(List.getElem?_eq_some_iff.1 hi).1
  have key:∀ (j:Nat) g1 T1 cs1,(l.set i (g,T,cs'))[j]?=some (g1,T1,cs1)→(j=i∧g1=g∧T1=T∧cs1=cs')∨(j≠i∧l[j]?=some (g1,T1,cs1)):=by
    intro j g1 T1 cs1 hj
    rw [List.getElem?_set] at hj
    by_cases e:i=j
    · subst e
      simp [hlt] at hj
      exact .inl ⟨rfl,hj.1.symm,hj.2.1.symm,hj.2.2.symm⟩
    · simp [e] at hj
      exact .inr ⟨fun h=>e h.symm,hj⟩
  have hk:Kept (Only g) w (w.setRow g cs'):=Kept.setRow _ _ _
  obtain ⟨a',h1,h2⟩:=h.st
  refine ⟨h.kept.trans hk (fun _ e=>e) (fun k hk2 e=>?_),h.bs,⟨a',K.set h1 (h.box i g T cs hi) (h.typ i g T cs hi) (Nat.le_trans h.bs (h.low i g T cs hi)) cs',h2⟩,?_,?_,?_,?_⟩
  · have:k=g:=e
    have:=h.low i g T cs hi
    omega
  · intro j g1 T1 cs1 hj
    rcases key j g1 T1 cs1 hj with ⟨rfl,rfl,rfl,rfl⟩ | ⟨hne,hj2⟩
    · exact (h.box _ _ _ _ hi).setRow _
    · refine (h.box j g1 T1 cs1 hj2).rowNe (fun e=>hne ?_) _
      subst e
      exact h.inj j i _ _ _ _ _ hj2 hi
  · intro j g1 T1 cs1 hj
    rcases key j g1 T1 cs1 hj with ⟨rfl,rfl,rfl,rfl⟩ | ⟨hne,hj⟩
    · exact h.low _ _ _ _ hi
    · exact h.low j g1 T1 cs1 hj
  · intro j k g1 T1 cs1 T2 cs2 hj hk
    rcases key j g1 T1 cs1 hj with ⟨rfl,rfl,rfl,rfl⟩ | ⟨hne,hj2⟩ <;> rcases key k g1 T2 cs2 hk with ⟨rfl,h1,h2,h3⟩ | ⟨hne',hk2⟩
    · rfl
    · exact h.inj _ _ _ _ _ _ _ hi hk2
    · subst h1;exact h.inj _ _ _ _ _ _ _ hj2 hi
    · exact h.inj _ _ _ _ _ _ _ hj2 hk2
  · intro j g1 T1 cs1 hj
    rcases key j g1 T1 cs1 hj with ⟨rfl,rfl,rfl,rfl⟩ | ⟨hne,hj⟩
    · exact h.typ _ _ _ _ hi
    · exact h.typ j g1 T1 cs1 hj
section
variable {ops:Array Oper} {rest:List Oper} {o:Oper} {a:Act} {w:World} {Q:Exit→Act→World→Prop} {K:Sink} {w0:World} {a0:Option Addr} {L:List It} {l:List (Nat × TypeId × Array Value)}
theorem kW (new:List Value) (vs:List Value) (HF:Hid (Kf K w0 w a0 L l)) (i k:Nat) {t:TypeId} {v:Value} (hv:v.cells=vs.toArray) (hs:(Tryz.prog.info? t).map (·.size)=some vs.length) (h1:∀ x∈vs,x.oneCell'=true) {g:Nat} {Tb:TypeId} (cur:List Value) (hi:l[i]?=some (g,Tb,cur.toArray))
    (h:∀ w',Hid (Kf K w0 w' a0 L (l.set i (g,Tb,new.toArray)))→WL ops Q rest (a.put o.dst undef) w') {x y:Operand}
    (ho:o.op=.store t x y:=by rfl) (hx:a.eval x=.pointer (some ⟨g,k,none⟩):=by kernel_rfl) (hy:a.eval y=v:=by kernel_rfl) (hl:k+vs.length≤cur.length:=by exact Nat.le_of_ble_eq_true (by kernel_rfl)) (hn:putL cur k vs=new:=by kernel_rfl)
    (hw:Region.wanted o (yielded ops a.tmps)=true:=by kernel_rfl):WL ops Q (o :: rest) a w:=
  wp_storeW t x y ho ⟨g,k,none⟩ v hx hy _ (run_store_to (HF.out.box i g Tb _ hi) hv hs hl h1 hn) hw (h _ (HF.out.set i hi _))
end
section
variable {base g:Nat} {T:List It} {ok:∀ x∈T,itOk x} {len:itsLen T≤131072}
end
def cmdIts (x:Cm):List It:=bif x.k==0 then [It.n x.k] else [It.n x.k,It.n x.cl,It.n x.op,It.b (Wi.numsOf x.nm),It.n x.f0,It.n x.f1,It.n x.g0,It.n x.g1,It.n x.sz]
def entIts (x:En):List It:=[It.b (Wi.numsOf x.nm),It.n x.f0,It.n x.f1,It.n x.sz]
def lasIts (x:La):List It:=[It.n x.cl,It.n x.op,It.n x.ins,It.n x.er,It.n x.f0,It.n x.f1,It.n x.sz]
def fl (f:Nat→List It) (i:Nat):List It:=((List.range i).map f).flatten
theorem fl0 (f:Nat→List It):fl f 0=[]:=rfl
theorem fl_succ (f:Nat→List It) (i:Nat):fl f (i+1)=fl f i++f i:=by simp [fl,List.range_succ]
theorem fl_pre (f:Nat→List It) {i n:Nat} (h:i < n):fl f i++f i <+: fl f n:=by
  rw [← fl_succ];obtain ⟨k,rfl⟩:∃ k,n=(i+1)+k:=⟨n - (i+1),by omega⟩;clear h
  induction k with
  | zero=>exact List.prefix_rfl
  | succ k ih=>rw [show i+1+(k+1)=(i+1+k)+1 by omega,fl_succ f (i+1+k)];exact ih.trans (List.prefix_append _ _)
theorem pl {A B C:List It} (h:A <+: B):A <+: B++C:=h.trans (List.prefix_append B C)
theorem pin {L P0 F1 F Fn M T:List It} (HP:L++M <+: T) (h:F1++F <+: Fn) (hm:P0++Fn <+: M):(L++(P0++F1))++F <+: T:=by
  obtain ⟨R,rfl⟩:=h;obtain ⟨R2,rfl⟩:=hm;obtain ⟨R3,rfl⟩:=HP;exact ⟨R++(R2++R3),by simp⟩
def bktIts (x:Bv) (es:List En) (ls:List La):List It:=((([It.n x.up,It.n ((x.e.l:Nat):Int)]++fl (fun j=>entIts (eAt es j)) x.e.l)++[It.n ((x.l.l:Nat):Int)])++fl (fun j=>lasIts (lAt ls j)) x.l.l)
def fldIts (m:Mg) (bs:List Int) (es:List En) (ls:List La) (cs:List Cm) (f:Int):List It:=
  bif f==0 then [It.n m.st.n,It.n m.st.c] else bif f==1 then [It.n m.hd.n,It.n m.hd.c] else bif f==2 then [It.b bs] else bif f==3 then cmdIts m.c else bif f==4 then bktIts m.bk es ls else
  bif f==5 then ([It.n ((m.cm.l:Nat):Int)]++fl (fun j=>cmdIts (cAt cs j)) m.cm.l) else bif f==6 then [It.n (bif m.mo then 1 else 0)] else []
def hdIts (m:Mg):List It:=[It.n m.k,It.n (bif m.fr.cl then 1 else 0),It.n m.fr.id,It.n (bif m.too.cl then 1 else 0),It.n m.too.id,It.n m.op,It.n m.rd,It.n m.ky.k,It.n m.ky.a,It.n m.ky.b,It.n m.ky.c]
def msgIts (m:Mg) (bs:List Int) (es:List En) (ls:List La) (cs:List Cm):List It:=hdIts m++fl (fun j=>fldIts m bs es ls cs ((fieldsK m.k)[j]?.getD 0)) (fieldsK m.k).length
theorem at_v {s:Sl} {b off:Nat} (h:s.v=.slice (some ⟨b,off,none⟩) s.l s.k):At s.a b:=by
  unfold Sl.v at h;simp only[Value.slice.injEq] at h;exact ⟨_,h.1,rfl⟩
structure FldO (w:World) (zs:List Int) (e:Ending) (w':World):Prop where
  out:(zs=[]∧e=.returned (.slice none 0 0)∧Kept No w w')∨(zs≠[]∧∃ g,e=.returned (.slice (some ⟨g,0,none⟩) zs.length zs.length)∧Hid (Fq No w w' [(g,164,(i64L zs).toArray)]))
theorem Kf.join {K:Sink} {w0 w w':World} {a:Option Addr} {L:List It} {l m:List (Nat × TypeId × Array Value)} (h:Kf K w0 w a L l) (k:Fq No w w' m) (ht:∀ (i:Nat) g T cs,m[i]?=some (g,T,cs)→¬ K.bad T):Kf K w0 w' a L (l++m):=by
  have hl:=h.no k.kept;refine ⟨hl.kept,hl.bs,hl.st,?_,?_,?_,?_⟩
  · intro i g T cs hi
    rw [List.getElem?_append] at hi
    split at hi
    · exact hl.box i g T cs hi
    · exact k.box _ g T cs hi
  · intro i g T cs hi
    rw [List.getElem?_append] at hi
    split at hi
    · exact h.low i g T cs hi
    · rcases k.low _ g T cs hi with h1 | h1
      · exact Nat.le_trans h.kept.size h1
      · exact h1.elim
  · intro i j g T1 c1 T2 c2 hi hj
    rw [List.getElem?_append] at hi hj
    split at hi <;> split at hj
    · exact h.inj i j g T1 c1 T2 c2 hi hj
    · have h1:=(h.box i g T1 c1 hi).lt
      rcases k.low _ g T2 c2 hj with h2 | h2
      · omega
      · exact h2.elim
    · have h1:=(h.box j g T2 c2 hj).lt
      rcases k.low _ g T1 c1 hi with h2 | h2
      · omega
      · exact h2.elim
    · have:=k.inj _ _ g T1 c1 T2 c2 hi hj
      omega
  · intro i g T cs hi
    rw [List.getElem?_append] at hi
    split at hi
    · exact h.typ i g T cs hi
    · exact ht _ g T cs hi
section
variable {ops:Array Oper} {rest:List Oper} {o:Oper} {a:Act} {w:World} {Q:Exit→Act→World→Prop} {K:Sink} {w0:World} {a0:Option Addr} {L:List It} {l:List (Nat × TypeId × Array Value)}
end
section
variable {base g:Nat} {T:List It} {ok:∀ x∈T,itOk x} {len:itsLen T≤131072}
end
set_option maxRecDepth 100000 in
set_option maxHeartbeats 4000000 in
theorem p_fieldsB (k:Int) (w:World):Calls Tryz.prog 89 #[.int .i64 k] w (FldO w (fieldsK k)):=by
  refine hidC fun C HC=>?_;have HF:Hid (Fq No w w []):=Fq.start _ _;go_enter Tryz.func89,Tryz.ntmps89;go_upto_region 0 with fail;refine Sg<|tK (.slice none 0 0)<|Nl ?_;simp only[pS];go_upto_region 1 with fail;refine Sg<|tK (.int .i64 k)<|Nl ?_;simp only[pS];go_upto_region 2 with fail;refine Sg<|?_;cases q1:(k==2);rotate_left
  ·refine bN (eI q1)<|tU<|Nl ?_;simp only[pS];go_upto_region 4 with fail;refine Sg<|bS ([0,2]:List Int) HF fun g23 w24 HF=>tK (.slice (some ⟨g23,0,none⟩) 2 2)<|Nl ?_;simp only[pS];have hz:fieldsK k=[0,2]:=by
     unfold fieldsK;have e0:=eq_of_beq q1
     simp [*]
   go_wp2;rw [HC.out,hz];exact ⟨.inr ⟨by simp,_,rfl,HF⟩⟩
  refine bN (eI q1)<|tF<|Nl ?_;simp only[pS];go_upto_region 3 with fail;refine Sg<|?_;cases q2:(k==11);rotate_left
  ·refine bN (eI q2)<|tU<|Nl ?_;simp only[pS];go_upto_region 4 with fail;refine Sg<|bS ([0,2]:List Int) HF fun g21 w22 HF=>tK (.slice (some ⟨g21,0,none⟩) 2 2)<|Nl ?_;simp only[pS];have hz:fieldsK k=[0,2]:=by
     unfold fieldsK;have e0:=ne_of_beq_false q1;have e1:=eq_of_beq q2
     simp [*]
   go_wp2;rw [HC.out,hz];exact ⟨.inr ⟨by simp,_,rfl,HF⟩⟩
  refine bN (eI q2)<|tF<|Nl ?_;simp only[pS];go_upto_region 5 with fail;refine Sg<|?_;cases q3:(k==3);rotate_left
  ·refine bN (eI q3)<|tU<|Nl ?_;simp only[pS];go_upto_region 9 with fail;refine Sg<|bS ([0]:List Int) HF fun g19 w20 HF=>tK (.slice (some ⟨g19,0,none⟩) 1 1)<|Nl ?_;simp only[pS];have hz:fieldsK k=[0]:=by
     unfold fieldsK;have e0:=ne_of_beq_false q1;have e1:=ne_of_beq_false q2;have e2:=eq_of_beq q3
     simp [*]
   go_wp2;rw [HC.out,hz];exact ⟨.inr ⟨by simp,_,rfl,HF⟩⟩
  refine bN (eI q3)<|tF<|Nl ?_;simp only[pS];go_upto_region 6 with fail;refine Sg<|?_;cases q4:(k==14);rotate_left
  ·refine bN (eI q4)<|tU<|Nl ?_;simp only[pS];go_upto_region 9 with fail;refine Sg<|bS ([0]:List Int) HF fun g17 w18 HF=>tK (.slice (some ⟨g17,0,none⟩) 1 1)<|Nl ?_;simp only[pS];have hz:fieldsK k=[0]:=by
     unfold fieldsK;have e0:=ne_of_beq_false q1;have e1:=ne_of_beq_false q2;have e2:=ne_of_beq_false q3;have e3:=eq_of_beq q4
     simp [*]
   go_wp2;rw [HC.out,hz];exact ⟨.inr ⟨by simp,_,rfl,HF⟩⟩
  refine bN (eI q4)<|tF<|Nl ?_;simp only[pS];go_upto_region 7 with fail;refine Sg<|?_;cases q5:(k==15);rotate_left
  ·refine bN (eI q5)<|tU<|Nl ?_;simp only[pS];go_upto_region 9 with fail;refine Sg<|bS ([0]:List Int) HF fun g15 w16 HF=>tK (.slice (some ⟨g15,0,none⟩) 1 1)<|Nl ?_;simp only[pS];have hz:fieldsK k=[0]:=by
     unfold fieldsK;have e0:=ne_of_beq_false q1;have e1:=ne_of_beq_false q2;have e2:=ne_of_beq_false q3;have e3:=ne_of_beq_false q4;have e4:=eq_of_beq q5
     simp [*]
   go_wp2;rw [HC.out,hz];exact ⟨.inr ⟨by simp,_,rfl,HF⟩⟩
  refine bN (eI q5)<|tF<|Nl ?_;simp only[pS];go_upto_region 8 with fail;refine Sg<|?_;cases q6:(k==21);rotate_left
  ·refine bN (eI q6)<|tU<|Nl ?_;simp only[pS];go_upto_region 9 with fail;refine Sg<|bS ([0]:List Int) HF fun g13 w14 HF=>tK (.slice (some ⟨g13,0,none⟩) 1 1)<|Nl ?_;simp only[pS];have hz:fieldsK k=[0]:=by
     unfold fieldsK;have e0:=ne_of_beq_false q1;have e1:=ne_of_beq_false q2;have e2:=ne_of_beq_false q3;have e3:=ne_of_beq_false q4;have e4:=ne_of_beq_false q5;have e5:=eq_of_beq q6
     simp [*]
   go_wp2;rw [HC.out,hz];exact ⟨.inr ⟨by simp,_,rfl,HF⟩⟩
  refine bN (eI q6)<|tF<|Nl ?_;simp only[pS];go_upto_region 10 with fail;refine Sg<|?_;cases q7:(k==4);rotate_left
  ·refine bN (eI q7)<|tU<|Nl ?_;simp only[pS];go_upto_region 11 with fail;refine Sg<|bS ([0,3]:List Int) HF fun g11 w12 HF=>tK (.slice (some ⟨g11,0,none⟩) 2 2)<|Nl ?_;simp only[pS];have hz:fieldsK k=[0,3]:=by
     unfold fieldsK;have e0:=ne_of_beq_false q1;have e1:=ne_of_beq_false q2;have e2:=ne_of_beq_false q3;have e3:=ne_of_beq_false q4;have e4:=ne_of_beq_false q5;have e5:=ne_of_beq_false q6;have e6:=eq_of_beq q7
     simp [*]
   go_wp2;rw [HC.out,hz];exact ⟨.inr ⟨by simp,_,rfl,HF⟩⟩
  refine bN (eI q7)<|tF<|Nl ?_;simp only[pS];go_upto_region 12 with fail;refine Sg<|?_;cases q8:(k==5);rotate_left
  ·refine bN (eI q8)<|tU<|Nl ?_;simp only[pS];go_upto_region 14 with fail;refine Sg<|bS ([3]:List Int) HF fun g9 w10 HF=>tK (.slice (some ⟨g9,0,none⟩) 1 1)<|Nl ?_;simp only[pS];have hz:fieldsK k=[3]:=by
     unfold fieldsK;have e0:=ne_of_beq_false q1;have e1:=ne_of_beq_false q2;have e2:=ne_of_beq_false q3;have e3:=ne_of_beq_false q4;have e4:=ne_of_beq_false q5;have e5:=ne_of_beq_false q6;have e6:=ne_of_beq_false q7;have e7:=eq_of_beq q8
     simp [*]
   go_wp2;rw [HC.out,hz];exact ⟨.inr ⟨by simp,_,rfl,HF⟩⟩
  refine bN (eI q8)<|tF<|Nl ?_;simp only[pS];go_upto_region 13 with fail;refine Sg<|?_;cases q9:(k==16);rotate_left
  ·refine bN (eI q9)<|tU<|Nl ?_;simp only[pS];go_upto_region 14 with fail;refine Sg<|bS ([3]:List Int) HF fun g7 w8 HF=>tK (.slice (some ⟨g7,0,none⟩) 1 1)<|Nl ?_;simp only[pS];have hz:fieldsK k=[3]:=by
     unfold fieldsK;have e0:=ne_of_beq_false q1;have e1:=ne_of_beq_false q2;have e2:=ne_of_beq_false q3;have e3:=ne_of_beq_false q4;have e4:=ne_of_beq_false q5;have e5:=ne_of_beq_false q6;have e6:=ne_of_beq_false q7;have e7:=ne_of_beq_false q8;have e8:=eq_of_beq q9
     simp [*]
   go_wp2;rw [HC.out,hz];exact ⟨.inr ⟨by simp,_,rfl,HF⟩⟩
  refine bN (eI q9)<|tF<|Nl ?_;simp only[pS];go_upto_region 15 with fail;refine Sg<|?_;cases q10:(k==13);rotate_left
  ·refine bN (eI q10)<|tU<|Nl ?_;simp only[pS];go_upto_region 16 with fail;refine Sg<|bS ([0,1,3]:List Int) HF fun g5 w6 HF=>tK (.slice (some ⟨g5,0,none⟩) 3 3)<|Nl ?_;simp only[pS];have hz:fieldsK k=[0,1,3]:=by
     unfold fieldsK;have e0:=ne_of_beq_false q1;have e1:=ne_of_beq_false q2;have e2:=ne_of_beq_false q3;have e3:=ne_of_beq_false q4;have e4:=ne_of_beq_false q5;have e5:=ne_of_beq_false q6;have e6:=ne_of_beq_false q7;have e7:=ne_of_beq_false q8;have e8:=ne_of_beq_false q9;have e9:=eq_of_beq q10
     simp [*]
   go_wp2;rw [HC.out,hz];exact ⟨.inr ⟨by simp,_,rfl,HF⟩⟩
  refine bN (eI q10)<|tF<|Nl ?_;simp only[pS];go_upto_region 17 with fail;refine Sg<|?_;cases q11:(k==17);rotate_left
  ·refine bN (eI q11)<|tU<|Nl ?_;simp only[pS];go_upto_region 18 with fail;refine Sg<|bS ([4]:List Int) HF fun g3 w4 HF=>tK (.slice (some ⟨g3,0,none⟩) 1 1)<|Nl ?_;simp only[pS];have hz:fieldsK k=[4]:=by
     unfold fieldsK;have e0:=ne_of_beq_false q1;have e1:=ne_of_beq_false q2;have e2:=ne_of_beq_false q3;have e3:=ne_of_beq_false q4;have e4:=ne_of_beq_false q5;have e5:=ne_of_beq_false q6;have e6:=ne_of_beq_false q7;have e7:=ne_of_beq_false q8;have e8:=ne_of_beq_false q9;have e9:=ne_of_beq_false q10;have e10:=eq_of_beq q11
     simp [*]
   go_wp2;rw [HC.out,hz];exact ⟨.inr ⟨by simp,_,rfl,HF⟩⟩
  refine bN (eI q11)<|tF<|Nl ?_;simp only[pS];go_upto_region 19 with fail;refine Sg<|?_;cases q12:(k==22)
  ·refine bN (eI q12)<|tF<|Nl ?_;simp only[pS];go_upto_region 21 with fail;refine Sg<|tK (.slice none 0 0)<|Nl ?_;simp only[pS];have hz:fieldsK k=[]:=by
     unfold fieldsK;have e0:=ne_of_beq_false q1;have e1:=ne_of_beq_false q2;have e2:=ne_of_beq_false q3;have e3:=ne_of_beq_false q4;have e4:=ne_of_beq_false q5;have e5:=ne_of_beq_false q6;have e6:=ne_of_beq_false q7;have e7:=ne_of_beq_false q8;have e8:=ne_of_beq_false q9;have e9:=ne_of_beq_false q10;have e10:=ne_of_beq_false q11;have e11:=ne_of_beq_false q12
     simp [*]
   go_wp2;rw [HC.out,hz];exact ⟨.inl ⟨rfl,rfl,HF.out.kept⟩⟩
  refine bN (eI q12)<|tU<|Nl ?_;simp only[pS];go_upto_region 20 with fail;refine Sg<|bS ([0,2,4,5,6]:List Int) HF fun g1 w2 HF=>tK (.slice (some ⟨g1,0,none⟩) 5 5)<|Nl ?_;simp only[pS];have hz:fieldsK k=[0,2,4,5,6]:=by
    unfold fieldsK;have e0:=ne_of_beq_false q1;have e1:=ne_of_beq_false q2;have e2:=ne_of_beq_false q3;have e3:=ne_of_beq_false q4;have e4:=ne_of_beq_false q5;have e5:=ne_of_beq_false q6;have e6:=ne_of_beq_false q7;have e7:=ne_of_beq_false q8;have e8:=ne_of_beq_false q9;have e9:=ne_of_beq_false q10;have e10:=ne_of_beq_false q11;have e11:=eq_of_beq q12
    simp [*]
  go_wp2;rw [HC.out,hz];exact ⟨.inr ⟨by simp,_,rfl,HF⟩⟩
theorem i64_at {w:World} {g:Nat} {t:TypeId} {zs:List Int} (hb:Box w g t (i64L zs).toArray) (i:Nat) (hi:i < zs.length):w.cell? ⟨g,0+i*1,none⟩=some (.int .i64 (zs[i]?.getD 0)):=by
  rw [hb.cell,Nat.zero_add,Nat.mul_one,List.getElem?_toArray,i64L,List.getElem?_map,List.getElem?_eq_getElem hi];rfl
section
variable {base g:Nat} {T:List It} {ok:∀ x∈T,itOk x} {len:itsLen T≤131072}
end
theorem at_uniq {a:Option Addr} {k b:Nat} (h:At a k) (h2:At a b):k=b:=by
  obtain ⟨x,e,rfl⟩:=h
  obtain ⟨y,e2,rfl⟩:=h2
  rw [e] at e2;cases e2;rfl
theorem low_B {w:World} {s:Sl} {bs:List Int} (h:RdB w s bs):Low w.heap.size s:=fun h0 k hk=>by
  obtain ⟨b,off,hsl,hc⟩:=h.at h0
  rw [at_uniq hk (at_v hsl)];exact World.block_lt_of_cell? w _ hc
theorem low_E {w:World} {s:Sl} {xs:List En} (h:RdE w s xs):Low w.heap.size s:=fun h0 k hk=>by
  obtain ⟨b,off,hsl,hc⟩:=h.at' h0
  rw [at_uniq hk (at_v hsl)];exact World.block_lt_of_cell? w _ (hc 0 _ rfl)
theorem low_L {w:World} {s:Sl} {xs:List La} (h:RdL w s xs):Low w.heap.size s:=fun h0 k hk=>by
  obtain ⟨b,off,hsl,hc⟩:=h.at' h0
  rw [at_uniq hk (at_v hsl)];exact World.block_lt_of_cell? w _ (hc 0 _ rfl)
theorem low_C {w:World} {s:Sl} {xs:List Cm} (h:RdC w s xs):Low w.heap.size s:=fun h0 k hk=>by
  obtain ⟨b,off,hsl,hc⟩:=h.at' h0
  rw [at_uniq hk (at_v hsl)];exact World.block_lt_of_cell? w _ (hc 0 _ rfl)
def okL (L:List It):Prop:=∀ x∈L,itOk x
theorem okL_nil:okL []:=fun x h=>by simp at h
theorem okL_cons {x:It} {L:List It} (h:itOk x) (hL:okL L):okL (x :: L):=fun y hy=>by
  rcases List.mem_cons.1 hy with rfl | h2
  · exact h
  · exact hL y h2
theorem okL_app {A B:List It} (h:okL A) (hB:okL B):okL (A++B):=fun y hy=>by
  rcases List.mem_append.1 hy with h2 | h2
  · exact h y h2
  · exact hB y h2
theorem len_cons (x:It) (L:List It):itsLen (x :: L)=itLen x+itsLen L:=by simp [itsLen]
theorem len_nil:itsLen []=0:=rfl
theorem len_n (i:Int):itLen (.n i)=10:=rfl
theorem len_b (zs:List Int):itLen (.b zs)=10+zs.length:=rfl
theorem ok_name {nm:ByteArray} (h:nm.size≤255):itOk (.b (Wi.numsOf nm)):=⟨by rw [Wi.numsOf_len];omega,Wi.numsOf_u8 nm⟩
theorem fl_ok {f:Nat→List It} {n M:Nat} (h:∀ i,i < n→okL (f i)∧itsLen (f i)≤M):okL (fl f n)∧itsLen (fl f n)≤n * M:=by
  induction n with
  | zero=>exact ⟨okL_nil,by simp [fl0,len_nil]⟩
  | succ n ih=>
    obtain ⟨h1,h2⟩:=ih (fun i hi=>h i (by omega))
    obtain ⟨h3,h4⟩:=h n (by omega)
    rw [fl_succ]
    refine ⟨okL_app h1 h3,?_⟩
    rw [itsLen_app,Nat.succ_mul];omega
theorem wn_t {n lo hi:Int} (h:wn n lo hi=true):lo≤n∧n≤hi:=wn_iff.1 h
theorem oneS_t {s:Sp} (h:oneS s=true):(1≤s.n∧s.n≤1099511627776)∧1≤s.c∧s.c≤255:=by
  unfold oneS at h;rw [Bool.and_eq_true] at h;exact ⟨wn_t h.1,wn_t h.2⟩
theorem eqS_t {s:Sp} (h:eqS s spZ=true):s.n=0∧s.c=0:=by have:=eqS_iff.1 h;subst this;exact ⟨rfl,rfl⟩
theorem frmS_t {s:Sp} (h:frmS s=true):(1≤s.n∧s.n≤1048577)∧s.c=0:=by
  unfold frmS at h;rw [Bool.and_eq_true] at h;exact ⟨wn_t h.1,eq_of_beq h.2⟩
theorem filB_t {f:Fi} (h:filB f=true):(1≤f.c∧f.c≤255)∧1≤f.o∧f.o≤1099511627776:=by
  unfold filB at h;rw [Bool.and_eq_true] at h;exact ⟨wn_t h.1,wn_t h.2⟩
theorem eqFi_t {f:Fi} (h:eqFi f fiZ=true):f.c=0∧f.o=0:=by
  unfold eqFi at h;rw [Bool.and_eq_true] at h;exact ⟨eq_of_beq h.1,eq_of_beq h.2⟩
theorem szB_t {B n:Int} (hB:0≤B∧B≤4096) (h:szB B n=true):0≤n∧n≤4294967296:=by
  have:=wn_t h;omega
theorem nameR_t2 {nm:ByteArray} (h:nameR nm=true):nm.size≤255:=by
  simp only[nameR,Bool.and_eq_true,Bool.not_eq_true',Bool.or_eq_false_iff,decide_eq_false_iff_not] at h
  omega
structure OkC (x:Cm):Prop where
  k:0≤x.k∧x.k≤7
  cl:0≤x.cl∧x.cl≤255
  op:0≤x.op∧x.op≤1099511627776
  nm:x.nm.size≤255
  f0:0≤x.f0∧x.f0≤255
  f1:0≤x.f1∧x.f1≤1099511627776
  g0:0≤x.g0∧x.g0≤255
  g1:0≤x.g1∧x.g1≤1099511627776
  sz:0≤x.sz∧x.sz≤4294967296
theorem cmdL_ok {B:Int} {x:Cm} (hB:0≤B∧B≤4096) (h:cmdP B x=true):OkC x:=by
  rw [cmd_eq] at h
  unfold cmdR at h
  cases e1:wn x.k 1 7
  · simp only[e1,bsq] at h;cases h
  cases e2:wn x.cl 1 255
  · simp only[e1,e2,bsq] at h;cases h
  cases e3:wn x.op 1 1099511627776
  · simp only[e1,e2,e3,bsq] at h;cases h
  simp only[e1,e2,e3,bsq] at h
  have hk:=wn_t e1
  have hc:=wn_t e2
  have ho:=wn_t e3
  have hn:x.nm.size≤255:=by
    cases e4:(x.k==4)
    · cases e5:nameR x.nm
      · simp only[e4,e5,bsq] at h;cases h
      · exact nameR_t2 e5
    · cases e5:eqN x.nm ⟨#[]⟩
      · simp only[e4,e5,bsq] at h;cases h
      · have:=eqN_iff.1 e5;rw [this];decide
  rcases Bool.eq_false_or_eq_true ((x.k==4&&!eqN x.nm ⟨#[]⟩)||(!(x.k==4)&&!nameR x.nm)) with e6 | e6
  · rw [e6] at h;cases h
  rw [e6] at h
  cases e7:decide (x.k < 5)
  · rw [e7] at h
    simp only[bsq] at h
    rcases Bool.eq_false_or_eq_true ((x.k==7&&!filB ⟨x.g0,x.g1⟩)||(!(x.k==7)&&!eqFi ⟨x.g0,x.g1⟩ fiZ)) with e8 | e8
    · rw [e8] at h;cases h
    rw [e8] at h
    simp only[bsq] at h
    rw [Bool.and_eq_true] at h
    have h1:=filB_t h.1
    have h2:=szB_t hB h.2
    have h3:(0≤x.g0∧x.g0≤255)∧0≤x.g1∧x.g1≤1099511627776:=by
      cases e9:(x.k==7)
      · cases e10:eqFi ⟨x.g0,x.g1⟩ fiZ
        · simp only[e9,e10,bsq] at e8;cases e8
        · have:=eqFi_t e10;simp only at this;omega
      · cases e10:filB ⟨x.g0,x.g1⟩
        · simp only[e9,e10,bsq] at e8;cases e8
        · have:=filB_t e10;simp only at this;omega
    simp only at h1
    exact ⟨by omega,by omega,by omega,hn,by omega,by omega,h3.1,h3.2,h2⟩
  · rw [e7] at h
    simp only[bsq] at h
    rw [Bool.and_eq_true,Bool.and_eq_true] at h
    have h1:=eqFi_t h.1
    have h2:=eqFi_t h.2.1
    have h3:=eq_of_beq h.2.2
    simp only at h1 h2
    exact ⟨by omega,by omega,by omega,hn,by omega,by omega,by omega,by omega,by omega⟩
theorem cmd_z {x:Cm} (h:eqC x cZ=true):OkC x:=by
  have:=eqC_iff.1 h
  subst this
  exact ⟨by decide,by decide,by decide,by decide,by decide,by decide,by decide,by decide,by decide⟩
theorem cmdIts_ok {x:Cm} (h:OkC x):okL (cmdIts x)∧itsLen (cmdIts x)≤345:=by
  have b:=h.nm
  unfold cmdIts
  cases x.k==0
  · refine ⟨okL_cons ⟨h.k.1,by have:=h.k.2;omega⟩ (okL_cons ⟨h.cl.1,by have:=h.cl.2;omega⟩ (okL_cons ⟨h.op.1,h.op.2⟩ (okL_cons (ok_name h.nm) (okL_cons ⟨h.f0.1,by have:=h.f0.2;omega⟩ (okL_cons ⟨h.f1.1,h.f1.2⟩ (okL_cons ⟨h.g0.1,by have:=h.g0.2;omega⟩ (okL_cons ⟨h.g1.1,h.g1.2⟩ (okL_cons ⟨h.sz.1,by have:=h.sz.2;omega⟩ okL_nil)))))))),?_⟩
    simp only[cond_false,len_cons,len_nil,len_n,len_b,Wi.numsOf_len]
    omega
  · refine ⟨okL_cons ⟨h.k.1,by have:=h.k.2;omega⟩ okL_nil,?_⟩
    simp only[cond_true,len_cons,len_nil,len_n]
    omega
theorem entIts_ok {B:Int} {es:List En} {i:Nat} (hB:0≤B∧B≤4096) (h:entP B es i=true):okL (entIts (eAt es i))∧itsLen (entIts (eAt es i))≤295:=by
  unfold entP at h
  rw [Bool.and_eq_true,Bool.and_eq_true,Bool.and_eq_true] at h
  have h1:=nameR_t2 (by rw [← name_eq];exact h.2.1)
  have h2:=filB_t h.2.2.1
  have h3:=szB_t hB h.2.2.2
  simp only at h2
  unfold entIts
  refine ⟨okL_cons (ok_name h1) (okL_cons ⟨by omega,by omega⟩ (okL_cons ⟨by omega,by omega⟩ (okL_cons ⟨by omega,by omega⟩ okL_nil))),?_⟩
  simp only[len_cons,len_nil,len_n,len_b,Wi.numsOf_len]
  omega
theorem ansP_t {B:Int} {l:La} (hB:0≤B∧B≤4096) (h:ansP B l=true):(0≤l.er∧l.er≤104)∧(0≤l.f0∧l.f0≤255)∧(0≤l.f1∧l.f1≤1099511627776)∧0≤l.sz∧l.sz≤4294967296:=by
  unfold ansP at h
  cases e1:(l.er==0||(l.er==101||l.er==104))
  · rw [e1] at h
    simp only[bsq] at h
    cases e2:(l.er==102||l.er==103)
    · rw [e2] at h;cases h
    · rw [e2] at h
      simp only[bsq] at h
      rw [Bool.and_eq_true] at h
      have h1:=eqFi_t h.1
      have h2:=eq_of_beq h.2
      simp only[Bool.or_eq_true,beq_iff_eq] at e2
      simp only at h1
      omega
  · rw [e1] at h
    simp only[bsq] at h
    rw [Bool.and_eq_true] at h
    have h1:=filB_t h.1
    have h2:=szB_t hB h.2
    simp only[Bool.or_eq_true,beq_iff_eq] at e1
    simp only at h1
    omega
theorem lasIts_ok {B up:Int} {ls:List La} {i:Nat} (hB:0≤B∧B≤4096) (hu:up≤1048576) (h:lasP B up ls i=true):okL (lasIts (lAt ls i))∧itsLen (lasIts (lAt ls i))≤70:=by
  unfold lasP at h
  rw [Bool.and_eq_true,Bool.and_eq_true,Bool.and_eq_true,Bool.and_eq_true] at h
  have h1:=wn_t h.2.1
  have h2:=wn_t h.2.2.1
  have h3:=wn_t h.2.2.2.1
  have h4:=ansP_t hB h.2.2.2.2
  unfold lasIts
  refine ⟨okL_cons ⟨by omega,by omega⟩ (okL_cons ⟨by omega,by omega⟩ (okL_cons ⟨by omega,by omega⟩ (okL_cons ⟨by omega,by omega⟩ (okL_cons ⟨by omega,by omega⟩ (okL_cons ⟨by omega,by omega⟩ (okL_cons ⟨by omega,by omega⟩ okL_nil)))))),?_⟩
  simp only[len_cons,len_nil,len_n]
  omega
theorem las_cnt {B up:Int} {ls:List La} (h:∀ i,i < ls.length→lasP B up ls i=true):ls.length≤255:=by
  have key:∀ i,i < ls.length→(i:Int)+1≤(lAt ls i).cl:=by
    intro i
    induction i with
    | zero=>
      intro hi
      have h1:=h 0 hi
      unfold lasP at h1
      rw [Bool.and_eq_true,Bool.and_eq_true] at h1
      have:=wn_t h1.2.1
      omega
    | succ i ih=>
      intro hi
      have h1:=h (i+1) hi
      unfold lasP at h1
      rw [Bool.and_eq_true,Bool.and_eq_true] at h1
      have h2:=ih (by omega)
      have h3:¬ (lAt ls (i+1)).cl≤lastC ls (i+1):=by simpa using h1.1
      have h4:lastC ls (i+1)=(lAt ls i).cl:=rfl
      omega
  by_cases h0:ls.length=0
  · omega
  · have h1:=key (ls.length - 1) (by omega)
    have h2:=h (ls.length - 1) (by omega)
    unfold lasP at h2
    rw [Bool.and_eq_true,Bool.and_eq_true] at h2
    have:=wn_t h2.2.1
    omega
theorem rng_all {n:Nat} {p:Nat→Bool} (h:(List.range n).all p=true):∀ i,i < n→p i=true:=fun i hi=>List.all_eq_true.1 h i (List.mem_range.2 hi)
theorem bktIts_ok {B rm:Int} {x:Bv} {es:List En} {ls:List La} (hB:0≤B∧B≤4096) (hr:rm≤256) (he:es.length=x.e.l) (hl:ls.length=x.l.l) (h:bktP B rm x es ls=true):okL (bktIts x es ls)∧itsLen (bktIts x es ls)≤93500:=by
  unfold bktP at h
  have key:∃ a b:Nat,x.e.l=a∧x.l.l=b∧a≤256∧b≤255∧0≤x.up∧x.up≤1048576∧(∀ i,i < x.e.l→entP B es i=true)∧∀ i,i < x.l.l→lasP B x.up ls i=true:=by
    cases e1:(x.up==0)
    · rw [e1] at h
      simp only[bsq] at h
      rw [Bool.and_eq_true,Bool.and_eq_true] at h
      have hu:=wn_t h.1
      have h2:=h.2.1
      unfold entsP at h2
      rw [Bool.and_eq_true] at h2
      have h3:¬ rm < ((es.length:Nat):Int):=by simpa using h2.1
      have h4:=rng_all h.2.2
      have h5:=las_cnt h4
      exact ⟨x.e.l,x.l.l,rfl,rfl,by omega,by omega,by omega,by omega,fun i hi=>rng_all h2.2 i (by omega),fun i hi=>h4 i (by omega)⟩
    · rw [e1] at h
      simp only[bsq] at h
      unfold empK at h
      rw [Bool.and_eq_true,Bool.and_eq_true] at h
      have h1:=eq_of_beq h.1
      have h2:=eq_of_beq h.2.1
      have h3:=eq_of_beq h.2.2
      exact ⟨x.e.l,x.l.l,rfl,rfl,by omega,by omega,by omega,by omega,fun i hi=>by omega,fun i hi=>by omega⟩
  obtain ⟨a,b,ha,hb,h1,h2,h3,h4,h5,h6⟩:=key
  obtain ⟨k1,k2⟩:=fl_ok (f:=fun j=>entIts (eAt es j)) (n:=x.e.l) (M:=295) (fun i hi=>entIts_ok hB (h5 i hi))
  obtain ⟨k3,k4⟩:=fl_ok (f:=fun j=>lasIts (lAt ls j)) (n:=x.l.l) (M:=70) (fun i hi=>lasIts_ok hB h4 (h6 i hi))
  unfold bktIts
  refine ⟨okL_app (okL_app (okL_app (okL_cons ⟨h3,by omega⟩ (okL_cons ⟨by omega,by omega⟩ okL_nil)) k1) (okL_cons ⟨by omega,by omega⟩ okL_nil)) k3,?_⟩
  rw [itsLen_app,itsLen_app,itsLen_app]
  simp only[len_cons,len_nil,len_n]
  rw [ha] at k2 ⊢
  rw [hb] at k4 ⊢
  omega
theorem rowP_ok {B f:Int} {x:Sl} {cs:List Cm} (hB:0≤B∧B≤4096) (hl:cs.length=x.l) (h:rowsP B f x cs=true):okL (fl (fun j=>cmdIts (cAt cs j)) x.l)∧itsLen (fl (fun j=>cmdIts (cAt cs j)) x.l)≤22080∧x.l≤64:=by
  unfold rowsP at h
  cases e1:(decide (64 < ((x.l:Nat):Int))||decide (1048577 < f+((x.l:Nat):Int)))
  · rw [e1] at h
    simp only[bsq] at h
    rw [Bool.or_eq_false_iff] at e1
    have h1:¬ 64 < ((x.l:Nat):Int):=by simpa using e1.1
    have h2:=rng_all h
    obtain ⟨k1,k2⟩:=fl_ok (f:=fun j=>cmdIts (cAt cs j)) (n:=x.l) (M:=345) (fun i hi=>by
      have h3:=h2 i (by omega)
      rw [Bool.or_eq_true] at h3
      rcases h3 with h3 | h3
      · exact cmdIts_ok (cmd_z h3)
      · exact cmdIts_ok (cmdL_ok hB h3))
    exact ⟨k1,by omega,by omega⟩
  · rw [e1] at h;cases h
end Go.Proofs.YtgdnofacgfjaeaaGreat.Md
