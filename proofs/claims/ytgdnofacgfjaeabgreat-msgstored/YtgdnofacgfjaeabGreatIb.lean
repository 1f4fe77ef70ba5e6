import Derived.Test.YtgdnofacgfjaeabGreatWiZx
import Derived.Test.YtgdnofacgfjaeabGreatWiCe
import Derived.Test.YtgdnofacgfjaeabGreatHf
import Derived.Test.YtgdnofacgfjaeabGreatHb
namespace Go.Proofs.YtgdnofacgfjaeabGreat.Wi
open Go.RowKit
set_option linter.unusedVariables false
set_option maxRecDepth 100000 in
set_option maxHeartbeats 1000000 in
theorem RdM.stamp {w0 W:World} {r g lb:Nat} {odd:Bool} {st:RS} (h:RdM w0 W r g lb odd st) :
    Calls Tryz.prog 82 #[.pointer (some ⟨r,0,none⟩)] W fun e w'=>e=.returned (.agg #[.int .i64 (nV st),.int .i64 (nV (nS st))])∧RdM w0 w' r g lb odd (aS st)∧w'.cell? ⟨r,0,none⟩=some (.pointer (some ⟨g,0,none⟩)):=by
  have HR:Hid (RdM w0 W r g lb odd st):=h
  have q0:=h.c0
  have hn:=World.new_ne W ⟨r,0,none⟩ q0
  clear h
  go_enter Tryz.func82,Tryz.ntmps82
  go_upto_region 1 with fail
  obtain ⟨w1,hw1⟩:∃ w1,w1=W.alloc (.cells #[.int .i64 0,.int .i64 0] 35):=⟨_,rfl⟩
  rw [← hw1]
  have hk1:Kept No W w1:=by rw [hw1];exact (Kept.refl No W).alloc _
  have HB1:Hid (Box w1 W.heap.size 35 #[.int .i64 0,.int .i64 0]):=by rw [hw1];exact Box.new _ _ _
  have HR1:Hid (RdM w0 w1 r g lb odd st):=HR.out.no hk1
  have q1:=HR1.out.c0
  have HN:Hid (W.heap.size≠r∧W.heap.size≠g∧W.heap.size≠lb∧w0.heap.size≤W.heap.size):=⟨by have:=HR.out.ltr;omega,by have:=HR.out.ltg;omega,by have:=HR.out.ltl;omega,HR.out.kept.size⟩
  have HA:Hid (RdM w1 w1 r g lb odd st):=HR1.out.anew
  have HKs:Hid (Kept (fun k=>k=r∨k=g) w0 w1):=HR1.out.kept
  have n1:W.heap.size≠r:=HN.out.1
  have n2:r≠W.heap.size:=fun e=>n1 e.symm
  clear hk1 hw1 q0 HR HR1 hn
  go_region_held3 (fun w'=>w'.cell? ⟨r,0,none⟩=some (.pointer (some ⟨g,0,none⟩))) (go_keep) (first
    | (go_at_call 102;refine (HR2.out.num).mono ?_;rintro e w3 ⟨rfl,hr3,q3⟩;have HR3:Hid (RdM w1 w3 r g lb odd (nS (nS st))):=hr3;have HB3:Hid (Box w3 W.heap.size 35 #[.int .i64 0,.int .i64 0]):=hr3.other HB1.out HN.out.1 HN.out.2.1;have b0:=HB3.out.cell 0;have b1:=HB3.out.cell 1;have f0:=HB3.out.frozen 0;have f1:=HB3.out.frozen 1;clear hr3)
    | (go_at_call 102;refine ((HA.out.no ((Kept.refl No _).drew)).num).mono ?_;rintro e w2 ⟨rfl,hr2,q2⟩;have HR2:Hid (RdM w1 w2 r g lb odd (nS st)):=hr2;clear hr2))
  have HF:Hid (Box ((w3.setCell ⟨W.heap.size,0,none⟩ (.int .i64 (nV st))).setCell ⟨W.heap.size,1,none⟩ (.int .i64 (nV (nS st)))) W.heap.size 35 #[.int .i64 (nV st),.int .i64 (nV (nS st))]):=(HB3.out.set 0 _).set 1 _
  have HRF:Hid (RdM w0 ((w3.setCell ⟨W.heap.size,0,none⟩ (.int .i64 (nV st))).setCell ⟨W.heap.size,1,none⟩ (.int .i64 (nV (nS st)))) r g lb odd (aS st)):=by
    have hk:∀ (X:World) (i:Nat) (v:Value),Kept (Only W.heap.size) X (X.setCell ⟨W.heap.size,i,none⟩ v):=fun X i v=>(Kept.refl (Only W.heap.size) X).setCell (p:=⟨W.heap.size,i,none⟩) (fun _=>rfl) _
    exact (HR3.out.since HKs.out).apart ((hk w3 0 _).then (hk _ 1 _)) (fun e=>n2 e) (fun e=>HN.out.2.1 e.symm) (fun e=>HN.out.2.2.1 e.symm) (fun i hi e=>by have h1:=HN.out.2.2.2;have h2:i=W.heap.size:=e;omega)
  obtain ⟨w4,hw4⟩:∃ w4,w4=(w3.setCell ⟨W.heap.size,0,none⟩ (.int .i64 (nV st))).setCell ⟨W.heap.size,1,none⟩ (.int .i64 (nV (nS st))):=⟨_,rfl⟩
  rw [← hw4] at HF HRF ⊢
  clear hw4
  have c0:=HF.out.cell 0
  have c1:=HF.out.cell 1
  simp at c0 c1
  go_wp2
  refine bodyPost_ret (results_cell_row (by rfl) _ w4 W.heap.size 35 #[.int .i64 (nV st),.int .i64 (nV (nS st))] (0,0) _ (by rfl) HF.out Tryz.underlying35 rfl (by kernel_rfl)) rfl ?_
  exact ⟨rfl,HRF.out,HRF.out.c0⟩
set_option maxRecDepth 100000 in
set_option maxHeartbeats 1000000 in
theorem RdM.file {w0 W:World} {r g lb:Nat} {odd:Bool} {st:RS} (h:RdM w0 W r g lb odd st) :
    Calls Tryz.prog 101 #[.pointer (some ⟨r,0,none⟩)] W fun e w'=>e=.returned (.agg #[.int .i64 (nV st),.int .i64 (nV (nS st))])∧RdM w0 w' r g lb odd (aS st)∧w'.cell? ⟨r,0,none⟩=some (.pointer (some ⟨g,0,none⟩)):=by
  have HR:Hid (RdM w0 W r g lb odd st):=h
  have q0:=h.c0
  have hn:=World.new_ne W ⟨r,0,none⟩ q0
  clear h
  go_enter Tryz.func101,Tryz.ntmps101
  go_upto_region 1 with fail
  obtain ⟨w1,hw1⟩:∃ w1,w1=W.alloc (.cells #[.int .i64 0,.int .i64 0] 43):=⟨_,rfl⟩
  rw [← hw1]
  have hk1:Kept No W w1:=by rw [hw1];exact (Kept.refl No W).alloc _
  have HB1:Hid (Box w1 W.heap.size 43 #[.int .i64 0,.int .i64 0]):=by rw [hw1];exact Box.new _ _ _
  have HR1:Hid (RdM w0 w1 r g lb odd st):=HR.out.no hk1
  have q1:=HR1.out.c0
  have HN:Hid (W.heap.size≠r∧W.heap.size≠g∧W.heap.size≠lb∧w0.heap.size≤W.heap.size):=⟨by have:=HR.out.ltr;omega,by have:=HR.out.ltg;omega,by have:=HR.out.ltl;omega,HR.out.kept.size⟩
  have HA:Hid (RdM w1 w1 r g lb odd st):=HR1.out.anew
  have HKs:Hid (Kept (fun k=>k=r∨k=g) w0 w1):=HR1.out.kept
  have n1:W.heap.size≠r:=HN.out.1
  have n2:r≠W.heap.size:=fun e=>n1 e.symm
  clear hk1 hw1 q0 HR HR1 hn
  go_region_held3 (fun w'=>w'.cell? ⟨r,0,none⟩=some (.pointer (some ⟨g,0,none⟩))) (go_keep) (first
    | (go_at_call 102;refine (HR2.out.num).mono ?_;rintro e w3 ⟨rfl,hr3,q3⟩;have HR3:Hid (RdM w1 w3 r g lb odd (nS (nS st))):=hr3;have HB3:Hid (Box w3 W.heap.size 43 #[.int .i64 0,.int .i64 0]):=hr3.other HB1.out HN.out.1 HN.out.2.1;have b0:=HB3.out.cell 0;have b1:=HB3.out.cell 1;have f0:=HB3.out.frozen 0;have f1:=HB3.out.frozen 1;clear hr3)
    | (go_at_call 102;refine ((HA.out.no ((Kept.refl No _).drew)).num).mono ?_;rintro e w2 ⟨rfl,hr2,q2⟩;have HR2:Hid (RdM w1 w2 r g lb odd (nS st)):=hr2;clear hr2))
  have HF:Hid (Box ((w3.setCell ⟨W.heap.size,0,none⟩ (.int .i64 (nV st))).setCell ⟨W.heap.size,1,none⟩ (.int .i64 (nV (nS st)))) W.heap.size 43 #[.int .i64 (nV st),.int .i64 (nV (nS st))]):=(HB3.out.set 0 _).set 1 _
  have HRF:Hid (RdM w0 ((w3.setCell ⟨W.heap.size,0,none⟩ (.int .i64 (nV st))).setCell ⟨W.heap.size,1,none⟩ (.int .i64 (nV (nS st)))) r g lb odd (aS st)):=by
    have hk:∀ (X:World) (i:Nat) (v:Value),Kept (Only W.heap.size) X (X.setCell ⟨W.heap.size,i,none⟩ v):=fun X i v=>(Kept.refl (Only W.heap.size) X).setCell (p:=⟨W.heap.size,i,none⟩) (fun _=>rfl) _
    exact (HR3.out.since HKs.out).apart ((hk w3 0 _).then (hk _ 1 _)) (fun e=>n2 e) (fun e=>HN.out.2.1 e.symm) (fun e=>HN.out.2.2.1 e.symm) (fun i hi e=>by have h1:=HN.out.2.2.2;have h2:i=W.heap.size:=e;omega)
  obtain ⟨w4,hw4⟩:∃ w4,w4=(w3.setCell ⟨W.heap.size,0,none⟩ (.int .i64 (nV st))).setCell ⟨W.heap.size,1,none⟩ (.int .i64 (nV (nS st))):=⟨_,rfl⟩
  rw [← hw4] at HF HRF ⊢
  clear hw4
  have c0:=HF.out.cell 0
  have c1:=HF.out.cell 1
  simp at c0 c1
  go_wp2
  refine bodyPost_ret (results_cell_row (by rfl) _ w4 W.heap.size 43 #[.int .i64 (nV st),.int .i64 (nV (nS st))] (0,0) _ (by rfl) HF.out Tryz.underlying43 rfl (by kernel_rfl)) rfl ?_
  exact ⟨rfl,HRF.out,HRF.out.c0⟩
structure Sq (w:World) (a:Option Addr) (m cap:Nat) (zs:List Int):Prop where
  len:zs.length=m
  bytes:Bytes w a zs
  bd:m≤140737488351232
  nil:a=none→cap=0
theorem Sq.kept {S:Nat→Prop} {w w':World} {a:Option Addr} {m cap:Nat} {zs:List Int} (h:Sq w a m cap zs) (hk:Kept S w w') (hS:0 < m→∀ k,At a k→¬ S k):Sq w' a m cap zs:=⟨h.len,fun i hi=>by obtain ⟨b,off,rfl,hc⟩:=h.bytes i hi;exact ⟨b,off,rfl,hk.cell hc (hS (by have:=h.len;omega) b ⟨_,rfl,rfl⟩)⟩,h.bd,h.nil⟩
theorem Sq.no {w w':World} {a:Option Addr} {m cap:Nat} {zs:List Int} (h:Sq w a m cap zs) (hk:Kept No w w'):Sq w' a m cap zs:=h.kept hk (fun _ _ _ e=>e)
structure ItOq (w:World) (x:Item):Prop where
  sl:Sq w x.a x.m x.c x.zs
  lo:-9223372036854775808≤x.n
  hi:x.n≤9223372036854775807
theorem ItOq.no {w w':World} {x:Item} (h:ItOq w x) (hk:Kept No w w'):ItOq w' x:=⟨h.sl.no hk,h.lo,h.hi⟩
set_option maxRecDepth 1000000 in
set_option maxHeartbeats 400000 in
theorem bytes_allq (base g:Nat) (a:Option Addr) (c:Nat) (st:Option (List Int)) (xa:Option Addr) (xn xc:Nat) (ys:List Int) (w:World) (h:Ws w base g a c st) (hxn:ys.length=xn) (hy:Bytes w xa ys) (hxc:xa=none→xc=0)
    (hd:0 < xn→∀ k,At xa k→¬ WrAt g a k) (hx:xn≤140737488355328) (hlen:stLen st+10+xn≤140737488355328) (hbase:base≤w.heap.size) :
    Calls Tryz.prog 77 #[.pointer (some ⟨g,0,none⟩),.slice xa xn xc] w (Puts w base g a (putBytes st ys)):=by
  have HW:Hid (Ws w base g a c st):=h
  have HY:Hid (Bytes w xa ys):=hy
  have HC:Hid (xa=none→xc=0):=hxc
  have HL:Hid (ys.length=xn):=hxn
  have HD:Hid (0 < xn→∀ k,At xa k→¬ WrAt g a k):=hd
  clear h hy hxc hxn hd
  go_enter Tryz.func77,Tryz.ntmps77
  go_wp2_with fail
  refine (num_all base g a c st (xn:Int) w HW.out (by omega) (by omega) hbase).mono ?_
  rintro e w1 ⟨rfl,a1,c1,hw1,hk1,hm1⟩
  have HW1:Hid (Ws w1 base g a1 c1 (st.map (·++vint xn))):=by
    have e:putNum st (xn:Int)=st.map (·++vint xn):=by unfold putNum;rw [if_neg (by omega)];simp
    rw [e] at hw1;exact hw1
  have HK1:Hid (Kept (WrAt g a) w w1):=hk1
  have HM1:Hid (Moved w a a1):=hm1
  have HY1:Hid (Bytes w1 xa ys):=fun i hi=>by obtain ⟨b,off,e,hc⟩:=HY.out i hi;exact ⟨b,off,e,hk1.cell hc (HD.out (by have:=HL.out;omega) b ⟨_,e,rfl⟩)⟩
  have HS:Hid (stLen (st.map (·++vint xn))≤stLen st+10):=Nat.le_trans (stLen_map st (vint xn)) (by have:=vint_len10 xn (by omega);omega)
  clear hw1 hk1 hm1 HY HW
  go_wp2_with fail
  refine (join_all base g a1 c1 (st.map (·++vint xn)) xa xn xc ys w1 HW1.out HL.out HY1.out HC.out (by have:=HS.out;omega) (by have:=HK1.out.size;omega)).mono ?_
  rintro e w2 ⟨rfl,a2,c2,hw2,hk2,hm2⟩
  have HF:Hid (∃ a' c',Ws w2 base g a' c' (putBytes st ys)∧Kept (WrAt g a) w w2∧Moved w a a'):=
    ⟨a2,c2,by
      have e:putBytes st ys=(st.map (·++vint xn)).map (·++ys):=by unfold putBytes;rw [HL.out];cases st <;> simp
      rw [e];exact hw2,HK1.out.moved hk2 HM1.out,HM1.out.trans hm2 HK1.out.size⟩
  clear hw2 hk2 hm2
  go_wp2
  go_end0
  exact ⟨rfl,HF.out⟩
end Go.Proofs.YtgdnofacgfjaeabGreat.Wi
namespace Go.Proofs.YtgdnofacgfjaeabGreat.Md
open Go.RowKit
set_option linter.unusedVariables false
set_option linter.unusedSimpArgs false
def Low (base:Nat) (s:Sl):Prop:=0 < s.l→∀ k,At s.a k→k < base
theorem RowsAt.nil' {n:Nat} {w:World} {a:Option Addr} {xs:List (List Value)} (h:xs.length=0):RowsAt n w a xs:=by
  rw [List.eq_nil_of_length_eq_zero h];exact RowsAt.nil _ _ _
theorem RdB.keptL {S:Nat→Prop} {w w':World} {s:Sl} {xs:List Int} (h:RdB w s xs) (hk:Kept S w w') (hS:0 < s.l→∀ k,At s.a k→¬ S k):RdB w' s xs:=
  ⟨fun i hi=>by obtain ⟨b,off,e,hc⟩:=h.row i hi;exact ⟨b,off,e,hk.cell hc (hS (by have:=h.len;omega) b ⟨_,e,rfl⟩)⟩,h.len,h.cap⟩
theorem RdE.keptL {S:Nat→Prop} {w w':World} {s:Sl} {xs:List En} (h:RdE w s xs) (hk:Kept S w w') (hS:0 < s.l→∀ k,At s.a k→¬ S k):RdE w' s xs:=by
  by_cases h0:0 < s.l
  · exact ⟨RowsAt.kept h.row hk (hS h0),h.len,h.cap⟩
  · exact ⟨RowsAt.nil' (by rw [List.length_map,h.len];omega),h.len,h.cap⟩
theorem RdL.keptL {S:Nat→Prop} {w w':World} {s:Sl} {xs:List La} (h:RdL w s xs) (hk:Kept S w w') (hS:0 < s.l→∀ k,At s.a k→¬ S k):RdL w' s xs:=by
  by_cases h0:0 < s.l
  · exact ⟨RowsAt.kept h.row hk (hS h0),h.len,h.cap⟩
  · exact ⟨RowsAt.nil' (by rw [List.length_map,h.len];omega),h.len,h.cap⟩
theorem RdC.keptL {S:Nat→Prop} {w w':World} {s:Sl} {xs:List Cm} (h:RdC w s xs) (hk:Kept S w w') (hS:0 < s.l→∀ k,At s.a k→¬ S k):RdC w' s xs:=by
  by_cases h0:0 < s.l
  · exact ⟨RowsAt.kept h.row hk (hS h0),h.len,h.cap⟩
  · exact ⟨RowsAt.nil' (by rw [List.length_map,h.len];omega),h.len,h.cap⟩
inductive It
  | n (i:Int)
  | b (zs:List Int)
def itLen:It→Nat
  | .n _=>10
  | .b zs=>10+zs.length
def itsLen (L:List It):Nat:=(L.map itLen).sum
def itOk:It→Prop
  | .n i=>0≤i∧i≤1099511627776
  | .b zs=>zs.length≤4096∧Wi.U8 zs
theorem itsLen_app (A B:List It):itsLen (A++B)=itsLen A+itsLen B:=by simp [itsLen]
theorem pre_len {A T:List It} (h:A <+: T):itsLen A≤itsLen T:=by
  obtain ⟨R,rfl⟩:=h
  rw [itsLen_app];omega
theorem pre_mem {A:List It} {x:It} {T:List It} (h:A++[x] <+: T):x∈T:=by
  obtain ⟨R,rfl⟩:=h;simp
structure Sink where
  g:Nat
  base:Nat
  bad:TypeId→Prop
  T:List It
  ok:∀ x∈T,itOk x
  len:itsLen T≤131072
  St:World→Option Addr→List It→Prop
  no:∀ {w w':World} {a:Option Addr} {L:List It},St w a L→Kept No w w'→St w' a L
  set:∀ {w:World} {a:Option Addr} {L:List It} {k:Nat} {t:TypeId} {cs:Array Value},St w a L→Box w k t cs→¬ bad t→base≤k→∀ cs',St (w.setRow k cs') a L
  bs:∀ {w:World} {a:Option Addr} {L:List It},St w a L→base≤w.heap.size
  apart:∀ {w:World} {a:Option Addr} {L:List It} {k:Nat} {t:TypeId} {cs:Array Value},St w a L→Box w k t cs→¬ bad t→¬ (k=g∨At a k)
def Sink.Wr (K:Sink) (a:Option Addr):Nat→Prop:=fun k=>k=K.g∨At a k
def Sink.Put (K:Sink) (w:World) (a:Option Addr) (L:List It) (e:Ending) (w':World):Prop:=
  e=.returned (.tuple #[])∧∃ a',K.St w' a' L∧Kept (K.Wr a) w w'∧∀ k,At a' k→At a k∨w.heap.size≤k
structure Kf (K:Sink) (w0 w:World) (a:Option Addr) (L:List It) (l:List (Nat × TypeId × Array Value)):Prop where
  kept:Kept (K.Wr a) w0 w
  bs:K.base≤w0.heap.size
  st:∃ a',K.St w a' L∧∀ k,At a' k→At a k∨w0.heap.size≤k
  box:∀ (i:Nat) g T cs,l[i]?=some (g,T,cs)→Box w g T cs
  low:∀ (i:Nat) g T cs,l[i]?=some (g,T,cs)→w0.heap.size≤g
  inj:∀ (i j:Nat) g T cs T' cs',l[i]?=some (g,T,cs)→l[j]?=some (g,T',cs')→i=j
  typ:∀ (i:Nat) g T cs,l[i]?=some (g,T,cs)→¬ K.bad T
theorem Kf.start {K:Sink} {w:World} {a:Option Addr} {L:List It} (h:K.St w a L):Kf K w w a (L++[]) []:=
  ⟨Kept.refl _ _,K.bs h,⟨a,by rw [List.append_nil];exact h,fun k hk=>.inl hk⟩,by simp,by simp,by simp,by simp⟩
theorem Kf.no {K:Sink} {w0 w w':World} {a:Option Addr} {L:List It} {l:List (Nat × TypeId × Array Value)} (h:Kf K w0 w a L l) (hk:Kept No w w'):Kf K w0 w' a L l:=by
  obtain ⟨a',h1,h2⟩:=h.st
  exact ⟨h.kept.thenNo hk,h.bs,⟨a',K.no h1 hk,h2⟩,fun i g T cs hi=>(h.box i g T cs hi).kept hk (fun e=>e),h.low,h.inj,h.typ⟩
theorem Kf.alloc {K:Sink} {w0 w:World} {a:Option Addr} {L:List It} {l:List (Nat × TypeId × Array Value)} (h:Kf K w0 w a L l) (T:TypeId) (cs:Array Value) (ht:¬ K.bad T):Kf K w0 (w.alloc (.cells cs T)) a L (l++[(w.heap.size,T,cs)]):=by
  have hn:=h.no ((Kept.refl No w).alloc (.cells cs T))
  have key:∀ (i:Nat) g T' cs',(l++[(w.heap.size,T,cs)])[i]?=some (g,T',cs')→l[i]?=some (g,T',cs')∨(i=l.length∧g=w.heap.size∧T'=T∧cs'=cs):=by
    intro i g T' cs' hi
    rw [List.getElem?_append] at hi
    split at hi
    · exact .inl hi
    · have hlt:=(List.getElem?_eq_some_iff.1 hi).1
      have:i - l.length=0:=by simp at hlt;omega
      rw [this] at hi
      simp at hi
      exact .inr ⟨by omega,hi.1.symm,hi.2.1.symm,hi.2.2.symm⟩
  refine ⟨hn.kept,hn.bs,hn.st,?_,?_,?_,?_⟩
  · intro i g T' cs' hi
    rcases key i g T' cs' hi with h1 | ⟨_,rfl,rfl,rfl⟩
    · exact hn.box i g T' cs' h1
    · exact Box.new _ _ _
  · intro i g T' cs' hi
    rcases key i g T' cs' hi with h1 | ⟨_,rfl,_⟩
    · exact h.low i g T' cs' h1
    · exact h.kept.size
  · intro i j g T1 c1 T2 c2 hi hj
    rcases key i g T1 c1 hi with h1 | ⟨e1,e2,_⟩ <;> rcases key j g T2 c2 hj with h2 | ⟨e3,e4,_⟩
    · exact h.inj i j g T1 c1 T2 c2 h1 h2
    · have:=(h.box i g T1 c1 h1).lt;omega
    · have:=(h.box j g T2 c2 h2).lt;omega
    · omega
  · intro i g T' cs' hi
    rcases key i g T' cs' hi with h1 | ⟨_,_,rfl,_⟩
    · exact h.typ i g T' cs' h1
    · exact ht
theorem Kf.front {K:Sink} {w0 w:World} {a:Option Addr} {L:List It} {l m:List (Nat × TypeId × Array Value)} (h:Kf K w0 w a L (l++m)):Kf K w0 w a L l:=
  ⟨h.kept,h.bs,h.st,fun i g T cs hi=>h.box i g T cs (List.getElem?_append_left (List.getElem?_eq_some_iff.1 hi).1 ▸ hi),fun i g T cs hi=>h.low i g T cs (List.getElem?_append_left (List.getElem?_eq_some_iff.1 hi).1 ▸ hi),
    fun i j g T cs T' cs' hi hj=>h.inj i j g T cs T' cs' (List.getElem?_append_left (List.getElem?_eq_some_iff.1 hi).1 ▸ hi) (List.getElem?_append_left (List.getElem?_eq_some_iff.1 hj).1 ▸ hj),fun i g T cs hi=>h.typ i g T cs (List.getElem?_append_left (List.getElem?_eq_some_iff.1 hi).1 ▸ hi)⟩
theorem Kf.put {K:Sink} {w0 w:World} {a:Option Addr} {L:List It} {l:List (Nat × TypeId × Array Value)} (h:Kf K w0 w a L l):K.Put w0 a L (.returned (.tuple #[])) w:=by
  obtain ⟨a',h1,h2⟩:=h.st
  exact ⟨rfl,a',h1,h.kept,h2⟩
theorem Kf.call {K:Sink} {w0 w:World} {a:Option Addr} {L M:List It} {l:List (Nat × TypeId × Array Value)} (h:Kf K w0 w a L l) {f:FuncId} {args:Array Value} (hc:∀ a,K.St w a L→Calls Tryz.prog f args w (K.Put w a M)) :
    Calls Tryz.prog f args w (fun e w'=>e=.returned (.tuple #[])∧Kf K w0 w' a M l):=by
  obtain ⟨a',h1,h2⟩:=h.st
  refine (hc a' h1).mono ?_
  rintro e w' ⟨rfl,a2,h3,h4,h5⟩
  refine ⟨rfl,h.kept.trans h4 (fun _ e=>e) (fun k hk e=>?_),h.bs,⟨a2,h3,fun k hk=>?_⟩,fun i g T cs hi=>?_,h.low,h.inj,h.typ⟩
  · rcases e with e | e
    · exact .inl e
    · rcases h2 k e with e | e
      · exact .inr e
      · omega
  · rcases h5 k hk with e | e
    · exact h2 k e
    · exact .inr (Nat.le_trans h.kept.size e)
  · exact (h.box i g T cs hi).kept h4 (K.apart h1 (h.box i g T cs hi) (h.typ i g T cs hi))
theorem pfx {L M P X T:List It} (HP:L++M <+: T) (h:P++X <+: M):(L++P)++X <+: T:=by
  obtain ⟨R,rfl⟩:=h
  obtain ⟨R2,rfl⟩:=HP
  exact ⟨R++R2,by simp⟩
section
variable {ops:Array Oper} {rest:List Oper} {o:Oper} {a:Act} {w:World} {Q:Exit→Act→World→Prop} {K:Sink} {w0:World} {a0:Option Addr} {L:List It} {l:List (Nat × TypeId × Array Value)}
theorem kB {t:TypeId} (cs:Array Value) (HF:Hid (Kf K w0 w a0 L l)) (ht:¬ K.bad t) (h:∀ g w',Hid (Kf K w0 w' a0 L (l++[(g,t,cs)]))→WL ops Q rest (a.put o.dst (.pointer (some ⟨g,0,none⟩))) w') {x:Operand}
    (ho:o.op=.box t x:=by rfl) (hx:a.eval x=.agg cs:=by kernel_rfl) (hw:Region.wanted o (yielded ops a.tmps)=true:=by kernel_rfl):WL ops Q (o :: rest) a w:=
  wp_runW _ _ (exec_box t x ho cs hx) hw (h _ _ (HF.out.alloc t cs ht))
theorem kD (v:Value) (HF:Hid (Kf K w0 w a0 L l)) (i k:Nat) {t:TypeId} {d:TypeDesc} (hu:Tryz.prog.underlying t=some d) {g:Nat} {Tb:TypeId} {cs:Array Value} (hi:l[i]?=some (g,Tb,cs)) (h:WL ops Q rest (a.put o.dst v) w) {x:Operand}
    (ho:o.op=.load t x:=by rfl) (hx:a.eval x=.pointer (some ⟨g,k,none⟩):=by kernel_rfl) (hc:cs[k]?=some v:=by kernel_rfl) (hd:(match d with | .struct _ | .array _ _=>true | _=>false)=false:=by kernel_rfl)
    (hw:Region.wanted o (yielded ops a.tmps)=true:=by kernel_rfl):WL ops Q (o :: rest) a w:=
  tW v (exec_load t x ho ⟨g,k,none⟩ hx v (load_one (((HF.out.box i g Tb cs hi).cell k).trans hc) hu hd)) h hw
theorem kP (sub:List Value) (HF:Hid (Kf K w0 w a0 L l)) (i k:Nat) {t:TypeId} (hu:Tryz.prog.underlying t=some (.struct (Tryz.prog.fieldsOf t))) (hs:(Tryz.prog.info? t).map (·.size)=some sub.length) {g:Nat} {Tb:TypeId} (cs:List Value) (hi:l[i]?=some (g,Tb,cs.toArray)) (h:WL ops Q rest (a.put o.dst (.agg sub.toArray)) w) {x:Operand}
    (ho:o.op=.load t x:=by rfl) (hx:a.eval x=.pointer (some ⟨g,k,none⟩):=by kernel_rfl) (hc:(cs.drop k).take sub.length=sub:=by kernel_rfl)
    (hw:Region.wanted o (yielded ops a.tmps)=true:=by kernel_rfl):WL ops Q (o :: rest) a w:=
  tW _ (exec_load t x ho ⟨g,k,none⟩ hx _ (run_load_part (cs:=cs) (sub:=sub) (HF.out.box i g Tb _ hi) (part_of hc) hu rfl hs)) h hw
theorem kC {P:List It} (M:List It) {f:FuncId} {args:Array Value} (HF:Hid (Kf K w0 w a0 (L++P) l)) (hc:∀ a,K.St w a (L++P)→Calls Tryz.prog f args w (K.Put w a ((L++P)++M)))
    (h:∀ w',Hid (Kf K w0 w' a0 (L++(P++M)) l)→WL ops Q rest (a.put o.dst (.tuple #[])) w')
    (hrun:(execOp a.eval o).run Tryz.prog w=.ok (.enter f args) w:=by kernel_rfl) (hw:Region.wanted o (yielded ops a.tmps)=true:=by kernel_rfl):WL ops Q (o :: rest) a w:=
  wp_callW f args hrun _ (HF.out.call hc) hw (by rintro e w' ⟨rfl,hk⟩;exact ⟨_,rfl,h w' (by rw [← List.append_assoc];exact hk)⟩)
theorem kI (zs:List Int) (HF:Hid (Kf K w0 w a0 L l)) (ht:¬ K.bad 3) (h:∀ g w',Hid (Kf K w0 w' a0 L (l++[(g,3,(i64L zs).toArray)]))→WL ops Q rest (a.put o.dst (.slice (some ⟨g,0,none⟩) zs.length zs.length)) w')
    (hrun:(execOp a.eval o).run Tryz.prog w=.ok (.value (.slice (some ⟨w.heap.size,0,none⟩) zs.length zs.length)) (w.alloc (.cells (i64L zs).toArray 3)):=by kernel_rfl) (hw:Region.wanted o (yielded ops a.tmps)=true:=by kernel_rfl):WL ops Q (o :: rest) a w:=
  wp_runW _ _ hrun hw (h _ _ (HF.out.alloc _ _ ht))
end
def putT (st:Option (List Int)):It→Option (List Int)
  | .n i=>Wi.putNum st i
  | .b zs=>Wi.putBytes st zs
def putTs (L:List It):Option (List Int):=L.foldl putT (some [])
theorem putTs_app (L:List It) (x:It):putTs (L++[x])=putT (putTs L) x:=by simp [putTs,List.foldl_append]
theorem putT_len (st:Option (List Int)) (x:It) (h:itOk x):Wi.stLen (putT st x)≤Wi.stLen st+itLen x:=by
  cases x with
  | n i=>exact Wi.putNum_len st (by have:=h.2;omega)
  | b zs=>
    cases st with
    | none=>exact Nat.zero_le _
    | some ys=>
      have h1:=h.1
      have:=Wi.vint_len10 zs.length (by omega)
      show ((ys++(Wi.vint zs.length++zs)).length)≤ys.length+(10+zs.length)
      rw [List.length_append,List.length_append];omega
theorem putTs_len (L:List It) (h:∀ x∈L,itOk x):Wi.stLen (putTs L)≤itsLen L:=by
  suffices H:∀ (L:List It) (st:Option (List Int)),(∀ x∈L,itOk x)→Wi.stLen (L.foldl putT st)≤Wi.stLen st+itsLen L by
    have:=H L (some []) h;simpa [Wi.stLen,putTs] using this
  intro L
  induction L with
  | nil=>intro st _;simp [itsLen]
  | cons x r ih=>
    intro st h
    have h1:=ih (putT st x) (fun y hy=>h y (List.mem_cons_of_mem _ hy))
    have h2:=putT_len st x (h x (List.mem_cons_self ..))
    rw [List.foldl_cons]
    have:itsLen (x :: r)=itLen x+itsLen r:=by simp [itsLen]
    omega
def pSink (base g:Nat) (T:List It) (ok:∀ x∈T,itOk x) (len:itsLen T≤131072):Sink where
  g:=g
  base:=base
  bad t:=t=128∨t=5
  T:=T
  ok:=ok
  len:=len
  St w a L:=∃ c,Wi.Ws w base g a c (putTs L)
  no:=fun ⟨c,h⟩ hk=>⟨c,h.no (wk hk)⟩
  set:=fun {w a L k t cs} ⟨c,h⟩ hb h1 _ cs'=>⟨c,Wi.Ws.kept (S:=Only k) h ⟨rfl,rfl,rfl,(Kept.setRow w k cs').size,(Kept.setRow w k cs').block⟩ (fun k2 hk e=>h.apart hb (fun e=>h1 (.inr e)) (fun e=>h1 (.inl e)) (by have:k2=k:=e;rw [← this];exact hk))⟩
  bs:=fun ⟨c,h⟩=>Nat.le_of_lt (Nat.lt_of_le_of_lt (h.base (.inl rfl)) (h.lt (.inl rfl)))
  apart:=fun ⟨c,h⟩ hb h1=>h.apart hb (fun e=>h1 (.inr e)) (fun e=>h1 (.inl e))
theorem pPut {base g:Nat} {T:List It} {ok:∀ x∈T,itOk x} {len:itsLen T≤131072} {w:World} {a:Option Addr} {L:List It} {f:FuncId} {args:Array Value} (h:Calls Tryz.prog f args w (Wi.Puts w base g a (putTs L))) :
    Calls Tryz.prog f args w ((pSink base g T ok len).Put w a L):=
  h.mono (by rintro e w' ⟨rfl,a',c',h1,h2,h3⟩;exact ⟨rfl,a',⟨c',h1⟩,⟨h2.os,h2.tape,h2.output,h2.size,fun k hk hS=>h2.block k hk hS⟩,h3⟩)
theorem p_room {base g:Nat} {T:List It} {ok:∀ x∈T,itOk x} {len:itsLen T≤131072} {L:List It} {x:It} (hp:L++[x] <+: T):Wi.stLen (putTs L)+itLen x≤131072:=by
  have h1:=pre_len hp
  rw [itsLen_app] at h1
  have h2:=putTs_len L (fun y hy=>ok y (by obtain ⟨R,rfl⟩:=hp;simp [hy]))
  have:itsLen [x]=itLen x:=by simp [itsLen]
  omega
section
variable {base g:Nat} {T:List It} {ok:∀ x∈T,itOk x} {len:itsLen T≤131072}
theorem p_num (i:Int) (w:World) (a:Option Addr) (L:List It) (h:(pSink base g T ok len).St w a L) (hp:L++[.n i] <+: T):Calls Tryz.prog 98 #[.pointer (some ⟨g,0,none⟩),.int .i64 i] w ((pSink base g T ok len).Put w a (L++[.n i])):=by
  obtain ⟨c,h⟩:=h
  have h1:=p_room (base:=base) (g:=g) (ok:=ok) (len:=len) hp
  have h2:itLen (.n i)=10:=rfl
  have h3:=(ok _ (pre_mem hp):itOk (.n i)).2
  refine pPut ?_
  rw [putTs_app]
  exact Wi.num_all base g a c (putTs L) i w h (by omega) (by omega) (Nat.le_of_lt (Nat.lt_of_le_of_lt (h.base (.inl rfl)) (h.lt (.inl rfl))))
theorem p_bytes (s:Sl) (bs:List Int) (w:World) (a:Option Addr) (L:List It) (h:(pSink base g T ok len).St w a L) (hp:L++[.b bs] <+: T) (hs:RdB w s bs) (hd:Low base s):Calls Tryz.prog 77 #[.pointer (some ⟨g,0,none⟩),s.v] w ((pSink base g T ok len).Put w a (L++[.b bs])):=by
  obtain ⟨c,h⟩:=h
  have h1:=p_room (base:=base) (g:=g) (ok:=ok) (len:=len) hp
  have h2:itLen (.b bs)=10+bs.length:=rfl
  refine pPut ?_
  rw [putTs_app]
  exact Wi.bytes_allq base g a c (putTs L) s.a s.l s.k bs w h hs.len hs.row hs.cap (fun h0 k hk e=>by have:=h.base e;have:=hd h0 k hk;omega) (by have:=hs.len;omega) (by have:=hs.len;omega) (Nat.le_of_lt (Nat.lt_of_le_of_lt (h.base (.inl rfl)) (h.lt (.inl rfl))))
theorem p_text (s:ByteArray) (w:World) (a:Option Addr) (L:List It) (h:(pSink base g T ok len).St w a L) (hp:L++[.b (Wi.numsOf s)] <+: T):Calls Tryz.prog 96 #[.pointer (some ⟨g,0,none⟩),.string s] w ((pSink base g T ok len).Put w a (L++[.b (Wi.numsOf s)])):=by
  obtain ⟨c,h⟩:=h
  have h1:=p_room (base:=base) (g:=g) (ok:=ok) (len:=len) hp
  have h2:itLen (.b (Wi.numsOf s))=10+s.size:=by show 10+(Wi.numsOf s).length=_;rw [Wi.numsOf_len]
  refine pPut ?_
  rw [putTs_app]
  exact Wi.text_all base g a c (putTs L) s w h (by omega) (by omega) (Nat.le_of_lt (Nat.lt_of_le_of_lt (h.base (.inl rfl)) (h.lt (.inl rfl))))
end
set_option maxRecDepth 100000
set_option maxHeartbeats 4000000
theorem i64I (ns:List Int):∀ st,Wi.numsS st ns=(ns.map It.n).foldl putT st:=by
  induction ns with
  | nil=>intro st;rfl
  | cons x r ih=>intro st;exact ih _
section
variable {base g:Nat} {T:List It} {ok:∀ x∈T,itOk x} {len:itsLen T≤131072}
theorem pT {t:TypeId} (h:¬ (t=128∨t=5):=by decide):¬ (pSink base g T ok len).bad t:=h
theorem p_nums (ns:List Int) (b:Nat) (w:World) (a:Option Addr) (L:List It) (h:(pSink base g T ok len).St w a L) (hp:L++ns.map It.n <+: T) (hb:Box w b 3 (i64L ns).toArray):Calls Tryz.prog 95 #[.pointer (some ⟨g,0,none⟩),.slice (some ⟨b,0,none⟩) ns.length ns.length] w ((pSink base g T ok len).Put w a (L++ns.map It.n)):=by
  obtain ⟨c,h⟩:=h;have h1:=pre_len hp;rw [itsLen_app] at h1;have h2:=putTs_len L (fun y hy=>ok y (by obtain ⟨R,rfl⟩:=hp;simp [hy]));have h3:itsLen (ns.map It.n)=10*ns.length:=by
    clear hp hb h1 h2
    induction ns with
    | nil=>rfl
    | cons x r ih=>simp only[List.map_cons,List.length_cons];rw [show itsLen (It.n x :: r.map It.n)=10+itsLen (r.map It.n) by simp [itsLen,itLen],ih];omega
  have h4:∀ x∈ns,x≤9223372036854775807:=fun x hx=>by
    have:=(ok (.n x) (by obtain ⟨R,rfl⟩:=hp;simp [hx]):itOk (.n x)).2;omega
  refine pPut ?_;rw [show putTs (L++ns.map It.n)=Wi.numsS (putTs L) ns by rw [i64I,putTs,List.foldl_append];rfl];exact Wi.nums_all base g a c (putTs L) b ns.length ns.length ns w h hb rfl h4 (by omega) (Nat.le_of_lt (Nat.lt_of_le_of_lt (h.base (.inl rfl)) (h.lt (.inl rfl))))
end
section
variable {ops:Array Oper} {a:Act} {w:World} {Q:Exit→Act→World→Prop} {md:Region.Mode} {K:Sink} {w0:World} {a0:Option Addr} {L:List It} {l:List (Nat × TypeId × Array Value)} {fuel:Nat} {listed:Array Bool}
theorem gK (i d:Nat) (v:Value) (h:wpAnyH Tryz.prog md ops Q (fun _=>True) fuel (listed.setIfInBounds i true) (a.put (some d) v) w) (hy:∀ w,(execOp a.eval (opA ops i)).run Tryz.prog w=.ok (.value v) w:=by intro _;kernel_rfl)
    (hi:ops[i]?=some (opA ops i):=by kernel_rfl) (hd:(opA ops i).dst=some d:=by kernel_rfl) (hs:Region.noSelect ops=true:=by kernel_rfl) (hf:Region.free md ops listed i=true:=by kernel_rfl) (hr:(Region.ready md ops listed).contains i=true:=by kernel_rfl)
    (hQ:∀ c a w,Q (.panic c) (a.put (some d) v) w→Q (.panic c) a w:=by exact fun _ _ _ h=>h) (hw:Region.wanted (opA ops i) (yielded ops a.tmps)=true:=by kernel_rfl):wpAnyH Tryz.prog md ops Q (fun _=>True) (fuel+1) listed a w:=
  any_take hi hs hf hr (by rw [hd];exact hQ) hw (fun w _=>hy w) trivial (by rw [hd];exact h)
theorem gX (i d:Nat) {v:Value} (hrun:(execOp a.eval (opA ops i)).run Tryz.prog w=.ok (.value v) w) (h:wpAnyH Tryz.prog md ops Q (fun _=>True) fuel (listed.setIfInBounds i true) (a.put (some d) v) w)
    (hi:ops[i]?=some (opA ops i)) (hd:(opA ops i).dst=some d) (hr:Region.ready md ops listed=[i]) (hw:Region.wanted (opA ops i) (yielded ops a.tmps)=true):wpAnyH Tryz.prog md ops Q (fun _=>True) (fuel+1) listed a w:=
  any_step hi hr hw hrun trivial (fun _=>by rw [hd];exact h)
theorem exL {o:Oper} {t:TypeId} {ad:Addr} {v:Value} (hrun:(loadVar t ad).run Tryz.prog w=.ok v w) (hl:ldA o a.eval=some (t,.pointer (some ad))):(execOp a.eval o).run Tryz.prog w=.ok (.value v) w:=by
  unfold ldA at hl
  split at hl
  · rename_i t' x hx
    obtain ⟨rfl,h2⟩:=Prod.mk.inj (Option.some.inj hl);exact exec_load _ x hx ad h2 v hrun
  · cases hl
theorem gD (i d:Nat) (v:Value) (HF:Hid (Kf K w0 w a0 L l)) (j k:Nat) {t:TypeId} {ds:TypeDesc} (hu:Tryz.prog.underlying t=some ds) {g:Nat} {Tb:TypeId} {cs:Array Value} (hj:l[j]?=some (g,Tb,cs)) (h:wpAnyH Tryz.prog md ops Q (fun _=>True) fuel (listed.setIfInBounds i true) (a.put (some d) v) w)
    (hl:ldA (opA ops i) a.eval=some (t,.pointer (some ⟨g,k,none⟩)):=by kernel_rfl) (hc:cs[k]?=some v:=by kernel_rfl) (hds:(match ds with | .struct _ | .array _ _=>true | _=>false)=false:=by kernel_rfl) (hi:ops[i]?=some (opA ops i):=by kernel_rfl) (hd:(opA ops i).dst=some d:=by kernel_rfl) (hr:Region.ready md ops listed=[i]:=by kernel_rfl) (hw:Region.wanted (opA ops i) (yielded ops a.tmps)=true:=by kernel_rfl):wpAnyH Tryz.prog md ops Q (fun _=>True) (fuel+1) listed a w:=
  gX i d (exL (load_one (((HF.out.box j g Tb cs hj).cell k).trans hc) hu hds) hl) h hi hd hr hw
theorem gC (i d:Nat) {P:List It} (M:List It) {f:FuncId} {args:Array Value} (HF:Hid (Kf K w0 w a0 (L++P) l)) (hc:∀ a,K.St w a (L++P)→Calls Tryz.prog f args w (K.Put w a ((L++P)++M)))
    (h:∀ w',Hid (Kf K w0 w' a0 (L++(P++M)) l)→wpAnyH Tryz.prog md ops Q (fun _=>True) fuel (listed.setIfInBounds i true) (a.put (some d) (.tuple #[])) w')
    (hi:ops[i]?=some (opA ops i):=by kernel_rfl) (hd:(opA ops i).dst=some d:=by kernel_rfl) (hr:Region.ready md ops listed=[i]:=by kernel_rfl) (hrun:(execOp a.eval (opA ops i)).run Tryz.prog w=.ok (.enter f args) w:=by kernel_rfl) (hw:Region.wanted (opA ops i) (yielded ops a.tmps)=true:=by kernel_rfl):wpAnyH Tryz.prog md ops Q (fun _=>True) (fuel+1) listed a w:=
  any_call hi hr hw f args hrun _ (HF.out.call hc) (by rintro e w' ⟨rfl,hk⟩;exact ⟨_,rfl,trivial,fun _=>by rw [hd];exact h w' (by rw [← List.append_assoc];exact hk)⟩)
end
section
variable {ops:Array Oper} {rest:List Oper} {o:Oper} {a:Act} {w:World} {Q:Exit→Act→World→Prop} {K:Sink} {w0:World} {a0:Option Addr} {L:List It} {l:List (Nat × TypeId × Array Value)}
theorem kA {t:TypeId} (cs:Array Value) (hz:(Tryz.prog.info? t).bind (·.zero)=some (.agg cs)) (HF:Hid (Kf K w0 w a0 L l)) (ht:¬ K.bad t) (h:∀ g w',Hid (Kf K w0 w' a0 L (l++[(g,t,cs)]))→WL ops Q rest (a.put o.dst (.pointer (some ⟨g,0,none⟩))) w')
    (ho:o.op=.alloc t:=by rfl) (hw:Region.wanted o (yielded ops a.tmps)=true:=by kernel_rfl):WL ops Q (o :: rest) a w:=
  wp_runW _ _ (exec_alloc t ho cs hz) hw (h _ _ (HF.out.alloc t cs ht))
end
theorem Kf.set {K:Sink} {w0 w:World} {a:Option Addr} {L:List It} {l:List (Nat × TypeId × Array Value)} (h:Kf K w0 w a L l) (i:Nat) {g:Nat} {T:TypeId} {cs:Array Value} (hi:l[i]?=some (g,T,cs)) (cs':Array Value):Kf K w0 (w.setRow g cs') a L (l.set i (g,T,cs')):=by
  have hlt:=(List.getElem?_eq_some_iff.1 hi).1;have key:∀ (j:Nat) g1 T1 cs1,(l.set i (g,T,cs'))[j]?=some (g1,T1,cs1)→(j=i∧g1=g∧T1=T∧cs1=cs')∨(j≠i∧l[j]?=some (g1,T1,cs1)):=by
    intro j g1 T1 cs1 hj;rw [List.getElem?_set] at hj
    by_cases e:i=j
    · subst e
      simp [hlt] at hj
      exact .inl ⟨rfl,hj.1.symm,hj.2.1.symm,hj.2.2.symm⟩
    · simp [e] at hj
      exact .inr ⟨fun h=>e h.symm,hj⟩
  have hk:Kept (Only g) w (w.setRow g cs'):=Kept.setRow _ _ _;obtain ⟨a',h1,h2⟩:=h.st;refine ⟨h.kept.trans hk (fun _ e=>e) (fun k hk2 e=>?_),h.bs,⟨a',K.set h1 (h.box i g T cs hi) (h.typ i g T cs hi) (Nat.le_trans h.bs (h.low i g T cs hi)) cs',h2⟩,?_,?_,?_,?_⟩
  · have:k=g:=e
    have:=h.low i g T cs hi;omega
  · intro j g1 T1 cs1 hj
    rcases key j g1 T1 cs1 hj with ⟨rfl,rfl,rfl,rfl⟩ | ⟨hne,hj2⟩
    · exact (h.box _ _ _ _ hi).setRow _
    · refine (h.box j g1 T1 cs1 hj2).rowNe (fun e=>hne ?_) _
      subst e;exact h.inj j i _ _ _ _ _ hj2 hi
  · intro j g1 T1 cs1 hj
    rcases key j g1 T1 cs1 hj with ⟨rfl,rfl,rfl,rfl⟩ | ⟨hne,hj⟩
    · exact h.low _ _ _ _ hi
    · exact h.low j g1 T1 cs1 hj
  · intro j k g1 T1 cs1 T2 cs2 hj hk
    rcases key j g1 T1 cs1 hj with ⟨rfl,rfl,rfl,rfl⟩ | ⟨hne,hj2⟩ <;> rcases key k g1 T2 cs2 hk with ⟨rfl,h1,h2,h3⟩ | ⟨hne',hk2⟩
    · rfl
    · exact h.inj _ _ _ _ _ _ _ hi hk2
    · subst h1;exact h.inj _ _ _ _ _ _ _ hj2 hi
    · exact h.inj _ _ _ _ _ _ _ hj2 hk2
  · intro j g1 T1 cs1 hj
    rcases key j g1 T1 cs1 hj with ⟨rfl,rfl,rfl,rfl⟩ | ⟨hne,hj⟩
    · exact h.typ _ _ _ _ hi
    · exact h.typ j g1 T1 cs1 hj
section
variable {ops:Array Oper} {rest:List Oper} {o:Oper} {a:Act} {w:World} {Q:Exit→Act→World→Prop} {K:Sink} {w0:World} {a0:Option Addr} {L:List It} {l:List (Nat × TypeId × Array Value)}
theorem kW (new:List Value) (vs:List Value) (HF:Hid (Kf K w0 w a0 L l)) (i k:Nat) {t:TypeId} {v:Value} (hv:v.cells=vs.toArray) (hs:(Tryz.prog.info? t).map (·.size)=some vs.length) (h1:∀ x∈vs,x.oneCell'=true) {g:Nat} {Tb:TypeId} (cur:List Value) (hi:l[i]?=some (g,Tb,cur.toArray))
    (h:∀ w',Hid (Kf K w0 w' a0 L (l.set i (g,Tb,new.toArray)))→WL ops Q rest (a.put o.dst undef) w') {x y:Operand}
    (ho:o.op=.store t x y:=by rfl) (hx:a.eval x=.pointer (some ⟨g,k,none⟩):=by kernel_rfl) (hy:a.eval y=v:=by kernel_rfl) (hl:k+vs.length≤cur.length:=by exact Nat.le_of_ble_eq_true (by kernel_rfl)) (hn:putL cur k vs=new:=by kernel_rfl)
    (hw:Region.wanted o (yielded ops a.tmps)=true:=by kernel_rfl):WL ops Q (o :: rest) a w:=
  wp_storeW t x y ho ⟨g,k,none⟩ v hx hy _ (run_store_to (HF.out.box i g Tb _ hi) hv hs hl h1 hn) hw (h _ (HF.out.set i hi _))
end
section
variable {base g:Nat} {T:List It} {ok:∀ x∈T,itOk x} {len:itsLen T≤131072}
theorem p_stamp (x:Sp) (w:World) (a:Option Addr) (L:List It) (h:(pSink base g T ok len).St w a L) (hp:L++[It.n x.n,It.n x.c] <+: T):Calls Tryz.prog 76 #[.pointer (some ⟨g,0,none⟩),.agg (Sp.cells x)] w ((pSink base g T ok len).Put w a (L++[It.n x.n,It.n x.c])):=by
  refine hidC fun C HC=>?_;have HP:Hid (L++[It.n x.n,It.n x.c] <+: T):=hp;have HF:Hid (Kf (pSink base g T ok len) w w a (L++[]) []):=Kf.start h;clear hp h;go_enter Tryz.func76,Tryz.ntmps76;go_upto_region 0 with fail;refine Sg<|kB (Sp.cells x) HF (pT (t:=35)) fun g1 w2 HF=>?_;(try simp only[pS]);refine Nl ?_;(try simp only[pS]);go_upto_region 1 with fail;refine Sg<|tK (pg g 0)<|tK (pg g1 0)<|kD (.int .i64 x.n) HF 0 0 U3 rfl<|tK (pg g1 1)<|kD (.int .i64 x.c) HF 0 1 U3 rfl<|kI ([x.n,x.c]) HF (pT (t:=3)) fun g3 w4 HF=>?_;simp only[pS];refine kC ([It.n x.n,It.n x.c]) HF (fun a0 h0=>p_nums [x.n,x.c] g3 _ a0 _ h0 (pfx HP ⟨_,rfl⟩) (HF.out.box 1 _ _ _ rfl)) fun w5 HF=>Nl ?_;(try simp only[pS]);go_wp2;rw [HC.out];have e:([It.n x.n,It.n x.c]:List It)=[It.n x.n,It.n x.c]:=rfl;rw [← e];go_end0;exact HF.out.put
theorem p_file (x:Fi) (w:World) (a:Option Addr) (L:List It) (h:(pSink base g T ok len).St w a L) (hp:L++[It.n x.c,It.n x.o] <+: T):Calls Tryz.prog 97 #[.pointer (some ⟨g,0,none⟩),.agg (Fi.cells x)] w ((pSink base g T ok len).Put w a (L++[It.n x.c,It.n x.o])):=by
  refine hidC fun C HC=>?_;have HP:Hid (L++[It.n x.c,It.n x.o] <+: T):=hp;have HF:Hid (Kf (pSink base g T ok len) w w a (L++[]) []):=Kf.start h;clear hp h;go_enter Tryz.func97,Tryz.ntmps97;go_upto_region 0 with fail;refine Sg<|kB (Fi.cells x) HF (pT (t:=43)) fun g1 w2 HF=>?_;(try simp only[pS]);refine Nl ?_;(try simp only[pS]);go_upto_region 1 with fail;refine Sg<|tK (pg g 0)<|tK (pg g1 0)<|kD (.int .i64 x.c) HF 0 0 U3 rfl<|tK (pg g1 1)<|kD (.int .i64 x.o) HF 0 1 U3 rfl<|kI ([x.c,x.o]) HF (pT (t:=3)) fun g3 w4 HF=>?_;simp only[pS];refine kC ([It.n x.c,It.n x.o]) HF (fun a0 h0=>p_nums [x.c,x.o] g3 _ a0 _ h0 (pfx HP ⟨_,rfl⟩) (HF.out.box 1 _ _ _ rfl)) fun w5 HF=>Nl ?_;(try simp only[pS]);go_wp2;rw [HC.out];have e:([It.n x.c,It.n x.o]:List It)=[It.n x.c,It.n x.o]:=rfl;rw [← e];go_end0;exact HF.out.put
theorem p_flag_true (w:World) (a:Option Addr) (L:List It) (h:(pSink base g T ok len).St w a L) (hp:L++[It.n 1] <+: T):Calls Tryz.prog 88 #[.pointer (some ⟨g,0,none⟩),.bool true] w ((pSink base g T ok len).Put w a (L++[It.n 1])):=by
  refine hidC fun C HC=>?_;have HP:Hid (L++[It.n 1] <+: T):=hp;have HF:Hid (Kf (pSink base g T ok len) w w a (L++[]) []):=Kf.start h;clear hp h;go_enter Tryz.func88,Tryz.ntmps88;go_upto_region 0 with fail;refine Sg<|tU<|Nl ?_;simp only[pS];go_upto_region 1 with fail;refine Sg<|tK (pg g 0)<|tK (pg g 0)<|tK (pg g 0)<|kC ([It.n 1]) HF (fun a0 h0=>p_num 1 _ a0 _ h0 (pfx HP ⟨_,rfl⟩)) fun w1 HF=>Nl ?_;simp only[pS];go_wp2;rw [HC.out];have e:([It.n 1]:List It)=[It.n 1]:=rfl;rw [← e];go_end0;exact HF.out.put
theorem p_flag_false (w:World) (a:Option Addr) (L:List It) (h:(pSink base g T ok len).St w a L) (hp:L++[It.n 0] <+: T):Calls Tryz.prog 88 #[.pointer (some ⟨g,0,none⟩),.bool false] w ((pSink base g T ok len).Put w a (L++[It.n 0])):=by
  refine hidC fun C HC=>?_;have HP:Hid (L++[It.n 0] <+: T):=hp;have HF:Hid (Kf (pSink base g T ok len) w w a (L++[]) []):=Kf.start h;clear hp h;go_enter Tryz.func88,Tryz.ntmps88;go_upto_region 0 with fail;refine Sg<|tF<|Nl ?_;simp only[pS];go_upto_region 2 with fail;refine Sg<|tK (pg g 0)<|tK (pg g 0)<|tK (pg g 0)<|kC ([It.n 0]) HF (fun a0 h0=>p_num 0 _ a0 _ h0 (pfx HP ⟨_,rfl⟩)) fun w1 HF=>Nl ?_;simp only[pS];go_wp2;rw [HC.out];have e:([It.n 0]:List It)=[It.n 0]:=rfl;rw [← e];go_end0;exact HF.out.put
theorem p_flag (b:Bool) (w:World) (a:Option Addr) (L:List It) (h:(pSink base g T ok len).St w a L) (hp:L++[It.n (bif b then 1 else 0)] <+: T):Calls Tryz.prog 88 #[.pointer (some ⟨g,0,none⟩),.bool b] w ((pSink base g T ok len).Put w a (L++[It.n (bif b then 1 else 0)])):=by
  cases b
  · exact p_flag_false w a L h hp
  · exact p_flag_true w a L h hp
end
end Go.Proofs.YtgdnofacgfjaeabGreat.Md
