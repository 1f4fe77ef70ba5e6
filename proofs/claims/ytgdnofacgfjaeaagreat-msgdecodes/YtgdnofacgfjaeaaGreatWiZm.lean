import Derived.Test.YtgdnofacgfjaeaaGreatWiVr
import Derived.Test.YtgdnofacgfjaeaaGreatOd
import Derived.Deep.RegionHeld3
namespace Go.Proofs.YtgdnofacgfjaeaaGreat.Wi
open Go.RowKit
set_option linter.unusedVariables false
def Rdr (w:World) (g:Nat):Prop:=∃ v0 v1 v2 v3,w.heap[g]?=some (.cells #[v0,v1,v2,v3] 231 (0,0))
theorem Rd.rdr {w:World} {g:Nat} {la:Option Addr} {lc:Nat} {zs:List Int} {at_:Nat} (h:Rd w g la lc zs at_):Rdr w g:=⟨_,_,_,_,h.cell⟩
def RdF (w:World) (g:Nat) (place:Nat) (code:Int):Prop:=w.heap[g]?=some (.cells #[.slice none 0 0,.int .i64 0,.int .i64 (place:Int),.int .i64 code] 231 (0,0))
def Caught (g at_:Nat) (OK:World→World→Prop) (BAD:Int→Prop) (w:World) (e:Ending) (w':World):Prop:=
  e=.returned (.tuple #[])∧((∃ W,Kept No w W∧OK W w')∨∃ c,BAD c∧RdF w' g at_ c∧Kept (Only g) w w')
def Throws (g:Nat) (OK:World→World→Prop) (BAD:Int→Prop) (w:World) (e:Ending) (w':World):Prop:=
  (e=.returned (.tuple #[])∧OK w w')∨∃ c,e=Thrown c∧BAD c∧Rdr w' g∧Kept (Only g) w w'
set_option maxRecDepth 1000000 in
set_option maxHeartbeats 1000000 in
theorem catch_any (F:Nat) (caps:Array Value) (hrun:∀ W,(callFunc F caps).run Tryz.prog W=.ok (.enter F caps) W) (g:Nat) (la:Option Addr) (lc:Nat) (zs:List Int) (at_:Nat) (OK:World→World→Prop) (BAD:Int→Prop) (w:World)
    (h:Rd w g la lc zs at_) (hcall:∀ W,Kept No w W→Calls Tryz.prog F caps W (Throws g OK BAD W)) :
    Calls Tryz.prog 202 #[.pointer (some ⟨g,0,none⟩),.func (Fn.func F) #[] caps] w (Caught g at_ OK BAD w):=by
  have hmf:∀ (fn:Fn) (first cap:Array Value) (w:World),(Instr.makeFunc fn first cap).run Tryz.prog w=.ok (.func fn first cap) w:=fun _ _ _ _=>rfl
  have c3:w.cell? ⟨g,3,none⟩=some (.int .i64 0):=by rw [cell_of_row w g 3 _ 231 (0,0) h.cell];rfl
  have c1:w.cell? ⟨g,1,none⟩=some (.int .i64 (at_:Int)):=by rw [cell_of_row w g 1 _ 231 (0,0) h.cell];rfl
  have hg:g < w.heap.size:=h.lt
  have HR:Hid (Rd w g la lc zs at_):=h
  have HC:Hid (∀ W,Kept No w W→Calls Tryz.prog F caps W (Throws g OK BAD W)):=hcall
  clear h hcall
  go_enter_defers Tryz.func202,Tryz.ntmps202
  go_wp2_with fail
  refine (HC.out _ (((Kept.refl No w).alloc _).alloc _)).mono ?_
  rintro e w1 (⟨rfl,hok⟩ | ⟨c,rfl,hbad,⟨v0,v1,v2,v3,hrd⟩,hk⟩)
  · have HF:Hid (∃ W,Kept No w W∧OK W w1):=⟨_,((Kept.refl No w).alloc _).alloc _,hok⟩
    clear hok
    go_wp2
    refine leaves_cons (f:=226) (args:=#[.pointer (some ⟨w.heap.size+1,0,none⟩),.pointer (some ⟨w.heap.size,0,none⟩)]) (by simp) (by simp [go_sem]) ?_
    refine (catch_idle _ _ _).mono ?_
    rintro e u' w'' ⟨rfl,rfl,rfl⟩
    have:Caught g at_ OK BAD w (.returned (.tuple #[])) w'':=⟨rfl,.inl HF.out⟩
    simpa [Leaves,settle,results,Tryz.results202] using this
  · have hp:w1.cell? ⟨w.heap.size+1,0,none⟩=some (.int .i64 (at_:Int)):=hk.cell (by simp) (fun e=>by have e':w.heap.size+1=g:=e;omega)
    have hq:w1.cell? ⟨w.heap.size,0,none⟩=some (.pointer (some ⟨g,0,none⟩)):=hk.cell (by simp) (fun e=>by have e':w.heap.size=g:=e;omega)
    have d0:w1.cell? ⟨g,0,none⟩=some v0:=by rw [cell_of_row w1 g 0 _ 231 (0,0) hrd];rfl
    have d1:w1.cell? ⟨g,1,none⟩=some v1:=by rw [cell_of_row w1 g 1 _ 231 (0,0) hrd];rfl
    have d2:w1.cell? ⟨g,2,none⟩=some v2:=by rw [cell_of_row w1 g 2 _ 231 (0,0) hrd];rfl
    have d3:w1.cell? ⟨g,3,none⟩=some v3:=by rw [cell_of_row w1 g 3 _ 231 (0,0) hrd];rfl
    refine leaves_cons (f:=226) (args:=#[.pointer (some ⟨w.heap.size+1,0,none⟩),.pointer (some ⟨w.heap.size,0,none⟩)]) (by simp) (by simp [go_sem]) ?_
    refine (catch_panicking (w.heap.size+1) w.heap.size g at_ c v0 v1 v2 v3 [] w1 hp hq d0 d1 d2 d3 (frozen_of_row w1 g 0 _ 231 hrd) (frozen_of_row w1 g 1 _ 231 hrd) (frozen_of_row w1 g 2 _ 231 hrd) (frozen_of_row w1 g 3 _ 231 hrd)).mono ?_
    rintro e u' w'' ⟨rfl,rfl,hw⟩
    have h1:=heap_setCell_same w1 g 0 _ 231 (.slice none 0 0) hrd
    have h2:=heap_setCell_same _ g 1 _ 231 (.int .i64 0) h1
    have h3:=heap_setCell_same _ g 2 _ 231 (.int .i64 (at_:Int)) h2
    have h4:=heap_setCell_same _ g 3 _ 231 (.int .i64 c) h3
    have hK:Kept (Only g) w w'':=by
      rw [hw]
      exact (((((((Kept.refl No w).alloc _).alloc _).of_no.then hk).setCell (p:=⟨g,0,none⟩) (fun _=>(rfl:g=g)) _).setCell (p:=⟨g,1,none⟩) (fun _=>(rfl:g=g)) _).setCell (p:=⟨g,2,none⟩) (fun _=>(rfl:g=g)) _).setCell (p:=⟨g,3,none⟩) (fun _=>(rfl:g=g)) _
    have hF:RdF w'' g at_ c:=by rw [hw];unfold RdF;rw [h4];rfl
    have:Caught g at_ OK BAD w (.returned (.tuple #[])) w'':=⟨rfl,.inr ⟨c,hbad,hF,hK⟩⟩
    simpa [Leaves,settle,results,Tryz.results202] using this
set_option maxRecDepth 1000000 in
set_option maxHeartbeats 1000000 in
theorem catch_bad (F:Value) (g p:Nat) (c:Int) (w:World) (h:RdF w g p c) (hc:c≠0) :
    Calls Tryz.prog 202 #[.pointer (some ⟨g,0,none⟩),F] w fun e w'=>e=.returned (.tuple #[])∧Kept No w w':=by
  have c3:w.cell? ⟨g,3,none⟩=some (.int .i64 c):=by rw [cell_of_row w g 3 _ 231 (0,0) h];rfl
  have hg:g < w.heap.size:=(Array.getElem?_eq_some_iff.1 h).1
  have hc':(c != 0)=true:=by simpa using hc
  clear h hc
  go_enter_defers Tryz.func202,Tryz.ntmps202
  go_wp2
  have:Kept No w (w.alloc (Obj.cells #[Value.pointer (some ⟨g,0,none⟩)] 203)):=(Kept.refl _ _).alloc _
  simpa [bodyPostD,Leaves,settle,results,Tryz.results202] using this
def nr (zs:List Int):Except Int (Nat × Nat):=
  match vr zs with
  | .error c=>.error c
  | .ok (u,k)=>if 9223372036854775807 < u then .error 11 else .ok (u,k)
def NrPost (w:World) (g:Nat) (la:Option Addr) (zs:List Int) (at_:Nat) (V:Except Int (Nat × Nat)) (e:Ending) (w':World):Prop:=
  match V with
  | .error c=>e=Thrown c∧Rdr w' g∧Kept (Only g) w w'
  | .ok (u,k)=>e=.returned (.int .i64 (u:Int))∧∃ b' off' lc',At la b'∧Rd w' g (some ⟨b',off',none⟩) lc' (zs.drop k) (at_+k)∧Kept (Only g) w w'
set_option maxRecDepth 1000000 in
set_option maxHeartbeats 1000000 in
theorem num_any (g:Nat) (la:Option Addr) (lc:Nat) (zs:List Int) (at_:Nat) (w:World) (h:Rd w g la lc zs at_) :
    Calls Tryz.prog 204 #[.pointer (some ⟨g,0,none⟩)] w (NrPost w g la zs at_ (nr zs)):=by
  have HR:Hid (Rd w g la lc zs at_):=h
  clear h
  obtain ⟨N,hN⟩:∃ N,N=nr zs:=⟨_,rfl⟩
  rw [← hN]
  cases hv:vr zs with
  | error c=>
    have HE:Hid (N=.error c):=by rw [Hid,hN,nr,hv]
    clear hN
    go_enter Tryz.func204,Tryz.ntmps204
    go_wp2_with fail
    refine (rvar_any g la lc zs at_ w HR.out).mono ?_
    rw [hv]
    rintro e w1 ⟨rfl,rfl⟩
    go_wp2
    exact ⟨rfl,by rw [HE.out];exact ⟨rfl,HR.out.rdr,Kept.refl _ _⟩⟩
  | ok x=>
    obtain ⟨u,k⟩:=x
    by_cases hu:9223372036854775807 < u
    · have HE:Hid (N=.error 11):=by rw [Hid,hN,nr,hv];simp [hu]
      have hu':(9223372036854775807:Int) < (u:Int):=by omega
      clear hN hu
      go_enter Tryz.func204,Tryz.ntmps204
      go_wp2_with fail
      refine (rvar_any g la lc zs at_ w HR.out).mono ?_
      rw [hv]
      rintro e w1 ⟨rfl,b',off',lc',-,hr,hk⟩
      have HF:Hid (Rdr w1 g∧Kept (Only g) w w1):=⟨hr.rdr,hk⟩
      clear hr hk hv
      go_wp2
      exact ⟨rfl,by rw [HE.out];exact ⟨rfl,HF.out⟩⟩
    · have HE:Hid (N=.ok (u,k)):=by rw [Hid,hN,nr,hv];simp [hu]
      have hu':¬ (9223372036854775807:Int) < (u:Int):=by omega
      clear hN hu
      go_enter Tryz.func204,Tryz.ntmps204
      go_wp2_with fail
      refine (rvar_any g la lc zs at_ w HR.out).mono ?_
      rw [hv]
      rintro e w1 ⟨rfl,hr⟩
      have HF:Hid _:=hr
      clear hr hv
      go_wp2
      go_ret
      show NrPost _ _ _ _ _ _ _ _
      rw [HE.out]
      exact ⟨rfl,HF.out⟩
def unzz (u:Nat):Int:=if u % 2=1 then -((u / 2:Nat):Int) - 1 else ((u / 2:Nat):Int)
def cr (zs:List Int):Except Int (Nat × Nat):=
  match nr zs with
  | .error c=>.error c
  | .ok (n,k)=>if zs.length - k < n then .error 10 else .ok (n,k)
def CrPost (w:World) (g:Nat) (la:Option Addr) (zs:List Int) (at_:Nat) (V:Except Int (Nat × Nat)) (e:Ending) (w':World):Prop:=
  match V with
  | .error c=>e=Thrown c∧Rdr w' g∧Kept (Only g) w w'
  | .ok (n,k)=>∃ b off lc,e=.returned (.slice (some ⟨b,off,none⟩) n lc)∧Sl w' (some ⟨b,off,none⟩) n lc ((zs.drop k).take n)∧∃ b' off' lc',At la b'∧Rd w' g (some ⟨b',off',none⟩) lc' (zs.drop (k+n)) (at_+(k+n))∧Kept (Only g) w w'
set_option maxRecDepth 1000000 in
set_option maxHeartbeats 1000000 in
theorem counted_any (g:Nat) (la:Option Addr) (lc:Nat) (zs:List Int) (at_:Nat) (w:World) (h:Rd w g la lc zs at_) :
    Calls Tryz.prog 220 #[.pointer (some ⟨g,0,none⟩)] w (CrPost w g la zs at_ (cr zs)):=by
  have HR:Hid (Rd w g la lc zs at_):=h
  clear h
  obtain ⟨N,hN⟩:∃ N,N=cr zs:=⟨_,rfl⟩
  rw [← hN]
  cases hv:nr zs with
  | error c=>
    have HE:Hid (N=.error c):=by rw [Hid,hN,cr,hv]
    clear hN
    go_enter Tryz.func220,Tryz.ntmps220
    go_wp2_with fail
    refine (num_any g la lc zs at_ w HR.out).mono ?_
    rw [hv]
    rintro e w1 ⟨rfl,hr,hk⟩
    have HF:Hid (Rdr w1 g∧Kept (Only g) w w1):=⟨hr,hk⟩
    clear hr hk hv
    go_wp2
    exact ⟨rfl,by rw [HE.out];exact ⟨rfl,HF.out⟩⟩
  | ok x=>
    obtain ⟨n,k⟩:=x
    by_cases hc:zs.length - k < n
    · have HE:Hid (N=.error 10):=by rw [Hid,hN,cr,hv];simp [hc]
      clear hN
      go_enter Tryz.func220,Tryz.ntmps220
      go_wp2_with fail
      refine (num_any g la lc zs at_ w HR.out).mono ?_
      rw [hv]
      rintro e w1 ⟨rfl,b',off',lc',-,hr,hk⟩
      have c0:w1.cell? ⟨g,0,none⟩=some (.slice (some ⟨b',off',none⟩) (zs.drop k).length lc'):=by rw [cell_of_row w1 g 0 _ 231 (0,0) hr.cell];rfl
      have q1:((zs.drop k).length:Int) < (n:Int):=by rw [List.length_drop];omega
      have HF:Hid (Rdr w1 g∧Kept (Only g) w w1):=⟨hr.rdr,hk⟩
      clear hr hk hv hc
      generalize (zs.drop k).length=L at c0 q1
      go_wp2
      exact ⟨rfl,by rw [HE.out];exact ⟨rfl,HF.out⟩⟩
    · have HE:Hid (N=.ok (n,k)):=by rw [Hid,hN,cr,hv];simp [hc]
      clear hN
      go_enter Tryz.func220,Tryz.ntmps220
      go_wp2_with fail
      refine (num_any g la lc zs at_ w HR.out).mono ?_
      rw [hv]
      rintro e w1 ⟨rfl,b',off',lc',ha,hr,hk⟩
      have HA:Hid (At la b'):=ha
      have HR1:Hid (Rd w1 g (some ⟨b',off',none⟩) lc' (zs.drop k) (at_+k)):=hr
      have HK1:Hid (Kept (Only g) w w1):=hk
      have HN:Hid (n≤(zs.drop k).length):=by show _≤_;rw [List.length_drop];omega
      have c0:w1.cell? ⟨g,0,none⟩=some (.slice (some ⟨b',off',none⟩) (zs.drop k).length lc'):=by rw [cell_of_row w1 g 0 _ 231 (0,0) hr.cell];rfl
      have q1:¬ ((zs.drop k).length:Int) < (n:Int):=by rw [List.length_drop];omega
      clear hr hk hv hc ha
      generalize (zs.drop k).length=L at c0 q1
      go_wp2_with fail
      refine (take_any g b' off' lc' (zs.drop k) (at_+k) n w1 HR1.out HN.out).mono ?_
      rintro e w2 ⟨rfl,b2,off2,lc2,ha2,hr2,hk2⟩
      have HF:Hid (CrPost w g la zs at_ N (.returned (.slice (some ⟨b',off',none⟩) n lc')) w2):=by
        rw [HE.out]
        refine ⟨b',off',lc',rfl,?_,b2,off2,lc2,?_,?_,HK1.out.then hk2⟩
        · have hs:=HR1.out.sl
          have hN':=HN.out
          have hcap:=hs.le
          refine ⟨by rw [List.length_take];omega,(hs.bytes.take n).kept2 hk2 (fun h0 i hi e=>HR1.out.ne (by rw [List.length_take] at h0;omega) hi e),hs.u8.take n,by omega,hs.cm,by have:=hs.bd;omega,fun e=>by cases e⟩
        · obtain ⟨ad,e,rfl⟩:=ha2;cases e;exact HA.out
        · rw [← List.drop_drop,← Nat.add_assoc];exact hr2
      clear hr2 hk2 ha2
      go_wp2
      go_ret
      exact HF.out
set_option maxRecDepth 1000000 in
set_option maxHeartbeats 400000 in
theorem More_ok (g:Nat) (la:Option Addr) (lc:Nat) (zs:List Int) (at_:Nat) (w:World) (h:Rd w g la lc zs at_) :
    Calls Tryz.prog 225 #[.pointer (some ⟨g,0,none⟩)] w fun e w'=>e=.returned (.bool (decide (0 < zs.length)))∧w'=w:=by
  have c0:w.cell? ⟨g,0,none⟩=some (.slice la zs.length lc):=by rw [cell_of_row w g 0 _ 231 (0,0) h.cell];rfl
  clear h
  go_enter Tryz.func225,Tryz.ntmps225
  go_wp2
  go_ret
  exact ⟨ret_bool (by rw [Bool.eq_iff_iff]),rfl⟩
set_option maxRecDepth 1000000 in
set_option maxHeartbeats 400000 in
theorem Err_any (g:Nat) (v0 v1:Value) (p c:Int) (w:World) (h:w.heap[g]?=some (.cells #[v0,v1,.int .i64 p,.int .i64 c] 231 (0,0))) :
    Calls Tryz.prog 201 #[.pointer (some ⟨g,0,none⟩)] w fun e w'=>e=.returned (.tuple #[.int .i64 p,.int .i64 c])∧∃ n,w'=w.drewN n:=by
  have c2:w.cell? ⟨g,2,none⟩=some (.int .i64 p):=by rw [cell_of_row w g 2 _ 231 (0,0) h];rfl
  have c3:w.cell? ⟨g,3,none⟩=some (.int .i64 c):=by rw [cell_of_row w g 3 _ 231 (0,0) h];rfl
  clear h
  go_enter Tryz.func201,Tryz.ntmps201
  go_wp2
  go_quiet (fail)
  go_wp2
  go_ret2
  exact ⟨rfl,_,rfl⟩
theorem Rd.kept {S:Nat→Prop} {w w':World} {g:Nat} {la:Option Addr} {lc:Nat} {zs:List Int} {at_:Nat} (h:Rd w g la lc zs at_) (hk:Kept S w w') (hg:¬ S g) (hS:0 < zs.length→∀ k,At la k→¬ S k):Rd w' g la lc zs at_:=
  ⟨(hk.block g h.lt hg).trans h.cell,h.sl.kept2 hk hS,h.bd⟩
theorem Sl.ne {w:World} {a:Option Addr} {m c:Nat} {zs:List Int} (h:Sl w a m c zs) (h0:0 < zs.length) {k:Nat} (hk:At a k) {N:Nat} {v:Value} {t:TypeId} {fr:Nat × Nat} (hN:w.heap[N]?=some (.cells #[v] t fr)) (hv:∀ z,v≠.int .u8 z):k≠N:=by
  rintro rfl
  obtain ⟨b,off,rfl,hc⟩:=h.bytes 0 h0
  obtain ⟨ad,e,e2⟩:=hk
  cases e
  simp only at e2
  subst e2
  rw [cell_of_row w b (off+0) _ t fr hN] at hc
  match off,hc with
  | 0,hc=>simp at hc;exact hv _ hc
  | n+1,hc=>simp at hc
def Two (g N:Nat):Nat→Prop:=fun k=>k=g∨k=N
theorem Rd.laid {W w1:World} {g N:Nat} {la:Option Addr} {lc:Nat} {zs:List Int} {at_:Nat} {v v':Value} {t:TypeId} (h:Rd w1 g la lc zs at_) (hk:Kept (Only g) W w1) (hN:w1.heap[N]?=some (.cells #[v] t (0,0))) (hne:N≠g) (hv:∀ z,v≠.int .u8 z) :
    Rd (w1.setCell ⟨N,0,none⟩ v') g la lc zs at_∧(w1.setCell ⟨N,0,none⟩ v').heap[N]?=some (.cells #[v'] t (0,0))∧Kept (Two g N) W (w1.setCell ⟨N,0,none⟩ v'):=by
  have hK:Kept (Only N) w1 (w1.setCell ⟨N,0,none⟩ v'):=(Kept.refl (Only N) w1).setCell (p:=⟨N,0,none⟩) (fun _=>(rfl:N=N)) _
  refine ⟨h.kept hK (fun e=>hne (e:g=N).symm) (fun h0 k hk e=>h.sl.ne h0 hk hN hv e),?_,?_⟩
  · rw [heap_setCell_same w1 N 0 _ t v' hN];rfl
  · exact (hk.mono (fun i _ e=>.inl e)).setCell (p:=⟨N,0,none⟩) (fun _=>.inr rfl) _
def Laid (g N:Nat) (t:TypeId) (la:Option Addr) (zs:List Int) (at_ k:Nat) (v:Value) (W w':World):Prop:=
  w'.heap[N]?=some (.cells #[v] t (0,0))∧(∃ b' off' lc',At la b'∧Rd w' g (some ⟨b',off',none⟩) lc' (zs.drop k) (at_+k))∧Kept (Two g N) W w'
set_option maxRecDepth 1000000 in
set_option maxHeartbeats 1000000 in
theorem num1_any (A N g:Nat) (la:Option Addr) (lc:Nat) (zs:List Int) (at_:Nat) (W:World) (h:Rd W g la lc zs at_) (hA:W.cell? ⟨A,0,none⟩=some (.pointer (some ⟨g,0,none⟩))) (hN:W.heap[N]?=some (.cells #[.int .i64 0] 3 (0,0))) (hne:N≠g) :
    Calls Tryz.prog 203 #[.pointer (some ⟨A,0,none⟩),.pointer (some ⟨N,0,none⟩)] W (Throws g (fun W w'=>∃ u k,nr zs=.ok (u,k)∧Laid g N 3 la zs at_ k (.int .i64 (u:Int)) W w') (fun c=>nr zs=.error c) W):=by
  have HR:Hid (Rd W g la lc zs at_):=h
  have HN:Hid (W.heap[N]?=some (.cells #[.int .i64 0] 3 (0,0))):=hN
  clear h hN
  cases hv:nr zs with
  | error c=>
    go_enter Tryz.func203,Tryz.ntmps203
    go_wp2_with fail
    refine (num_any g la lc zs at_ W HR.out).mono ?_
    rw [hv]
    rintro e w1 ⟨rfl,hr,hk⟩
    have HF:Hid (Rdr w1 g∧Kept (Only g) W w1):=⟨hr,hk⟩
    clear hr hk hv
    go_wp2
    exact ⟨rfl,.inr ⟨c,rfl,rfl,HF.out⟩⟩
  | ok x=>
    obtain ⟨u,k⟩:=x
    go_enter Tryz.func203,Tryz.ntmps203
    go_wp2_with fail
    refine (num_any g la lc zs at_ W HR.out).mono ?_
    rw [hv]
    rintro e w1 ⟨rfl,b',off',lc',ha,hr,hk⟩
    have HN1:Hid (w1.heap[N]?=some (.cells #[.int .i64 0] 3 (0,0))):=(hk.block N (Array.getElem?_eq_some_iff.1 HN.out).1 (fun e=>hne e)).trans HN.out
    have cN:w1.cell? ⟨N,0,none⟩=some (.int .i64 0):=by rw [cell_of_row w1 N 0 _ 3 (0,0) HN1.out];rfl
    have fN:=frozen_of_row w1 N 0 _ 3 HN1.out
    have HL:Hid _:=Rd.laid (v':=.int .i64 (u:Int)) hr hk HN1.out hne (fun z e=>by cases e)
    have HA:Hid (At la b'):=ha
    clear hr hk hv ha
    go_wp2
    go_end0
    exact .inl ⟨rfl,u,k,rfl,HL.out.2.1,⟨b',off',lc',HA.out,HL.out.1⟩,HL.out.2.2⟩
theorem run53 (caps:Array Value) (W:World):(callFunc 203 caps).run Tryz.prog W=.ok (.enter 203 caps) W:=by kernel_rfl
theorem vr_64 {zs:List Int} {u k:Nat} (h:vr zs=.ok (u,k)):W64 u∧1≤k∧k≤10∧k≤zs.length:=by
  suffices H:∀ f i,i+f=10→vrGo zs i f=.ok (u,k)→W64 u∧1≤k∧k≤10∧k≤zs.length from H 10 0 rfl h
  intro f
  induction f with
  | zero=>intro i _ h;simp [vrGo] at h
  | succ f ih=>
    intro i hi h
    rw [vrGo] at h
    split at h
    · cases h
    · split at h
      · split at h
        · cases h
        · rename_i h1 h2 h3
          simp only[Except.ok.injEq,Prod.mk.injEq] at h
          obtain ⟨rfl,rfl⟩:=h
          refine ⟨?_,by omega,by omega,by omega⟩
          unfold W64
          rw [acc]
          have ha:=acc_lt zs i
          by_cases h9:i=9
          · subst h9
            have:byt zs 9 % 128*128 ^ 9≤1*128 ^ 9:=Nat.mul_le_mul (by omega) (Nat.le_refl _)
            omega
          · have h8:128 ^ i≤128 ^ 8:=Nat.pow_le_pow_right (by decide) (by omega)
            have:byt zs i % 128*128 ^ i≤127*128 ^ 8:=Nat.mul_le_mul (by omega) h8
            omega
      · exact ih (i+1) (by omega) h
theorem nr_bd {zs:List Int} {u k:Nat} (h:nr zs=.ok (u,k)):u≤9223372036854775807∧1≤k∧k≤10∧k≤zs.length∧vr zs=.ok (u,k):=by
  unfold nr at h
  split at h
  · cases h
  · rename_i u' k' hv
    split at h
    · cases h
    · simp only[Except.ok.injEq,Prod.mk.injEq] at h
      obtain ⟨rfl,rfl⟩:=h
      have:=vr_64 hv
      exact ⟨by omega,this.2.1,this.2.2.1,this.2.2.2,hv⟩
theorem cr_bd {zs:List Int} {n k:Nat} (h:cr zs=.ok (n,k)):1≤k∧k≤10∧k+n≤zs.length∧nr zs=.ok (n,k):=by
  unfold cr at h
  split at h
  · cases h
  · rename_i u' k' hv
    split at h
    · cases h
    · simp only[Except.ok.injEq,Prod.mk.injEq] at h
      obtain ⟨rfl,rfl⟩:=h
      have:=nr_bd hv
      exact ⟨this.2.1,this.2.2.1,by omega,hv⟩
set_option maxRecDepth 1000000 in
set_option maxHeartbeats 1000000 in
theorem text1_any (A N g:Nat) (la:Option Addr) (lc:Nat) (zs:List Int) (at_:Nat) (W:World) (h:Rd W g la lc zs at_) (hA:W.cell? ⟨A,0,none⟩=some (.pointer (some ⟨g,0,none⟩))) (hN:W.heap[N]?=some (.cells #[.string ByteArray.empty] 9 (0,0))) (hne:N≠g) :
    Calls Tryz.prog 223 #[.pointer (some ⟨A,0,none⟩),.pointer (some ⟨N,0,none⟩)] W (Throws g (fun W w'=>∃ n k,cr zs=.ok (n,k)∧Laid g N 9 la zs at_ (k+n) (.string (strOf ((zs.drop k).take n))) W w') (fun c=>cr zs=.error c) W):=by
  have HR:Hid (Rd W g la lc zs at_):=h
  have HN:Hid (W.heap[N]?=some (.cells #[.string ByteArray.empty] 9 (0,0))):=hN
  clear h hN
  cases hv:cr zs with
  | error c=>
    go_enter Tryz.func223,Tryz.ntmps223
    go_wp2_with fail
    refine (counted_any g la lc zs at_ W HR.out).mono ?_
    rw [hv]
    rintro e w1 ⟨rfl,hr,hk⟩
    have HF:Hid (Rdr w1 g∧Kept (Only g) W w1):=⟨hr,hk⟩
    clear hr hk hv
    go_wp2
    exact ⟨rfl,.inr ⟨c,rfl,rfl,HF.out⟩⟩
  | ok x=>
    obtain ⟨n,k⟩:=x
    go_enter Tryz.func223,Tryz.ntmps223
    go_wp2_with fail
    refine (counted_any g la lc zs at_ W HR.out).mono ?_
    rw [hv]
    rintro e w1 ⟨b,off,lc1,rfl,hs,b',off',lc',ha,hr,hk⟩
    have HN1:Hid (w1.heap[N]?=some (.cells #[.string ByteArray.empty] 9 (0,0))):=(hk.block N (Array.getElem?_eq_some_iff.1 HN.out).1 (fun e=>hne e)).trans HN.out
    have cN:w1.cell? ⟨N,0,none⟩=some (.string ByteArray.empty):=by rw [cell_of_row w1 N 0 _ 9 (0,0) HN1.out];rfl
    have fN:=frozen_of_row w1 N 0 _ 9 HN1.out
    have hcv:=run_str (xc:=lc1) hs.bytes hs.u8 hs.len
    obtain ⟨S,hS⟩:∃ S,S=strOf ((zs.drop k).take n):=⟨_,rfl⟩
    rw [← hS] at hcv
    have HSe:Hid (S=strOf ((zs.drop k).take n)):=hS
    have HL:Hid _:=Rd.laid (v':=.string S) hr hk HN1.out hne (fun z e=>by cases e)
    have HA:Hid (At la b'):=ha
    clear hr hk hv ha hs hS
    go_wp2
    go_end0
    exact .inl ⟨rfl,n,k,rfl,by rw [← HSe.out];exact ⟨HL.out.2.1,⟨b',off',lc',HA.out,HL.out.1⟩,HL.out.2.2⟩⟩
set_option maxRecDepth 1000000 in
set_option maxHeartbeats 1000000 in
theorem bytes1_any (A N g:Nat) (la:Option Addr) (lc:Nat) (zs:List Int) (at_:Nat) (W:World) (h:Rd W g la lc zs at_) (hA:W.cell? ⟨A,0,none⟩=some (.pointer (some ⟨g,0,none⟩))) (hN:W.heap[N]?=some (.cells #[.slice none 0 0] 35 (0,0))) (hne:N≠g) :
    Calls Tryz.prog 219 #[.pointer (some ⟨A,0,none⟩),.pointer (some ⟨N,0,none⟩)] W (Throws g (fun W w'=>∃ n k,cr zs=.ok (n,k)∧∃ a' c',Laid g N 35 la zs at_ (k+n) (.slice a' n c') W w'∧OwnS w' W.heap.size a' c' ((zs.drop k).take n)) (fun c=>cr zs=.error c) W):=by
  have HR:Hid (Rd W g la lc zs at_):=h
  have HN:Hid (W.heap[N]?=some (.cells #[.slice none 0 0] 35 (0,0))):=hN
  clear h hN
  cases hv:cr zs with
  | error c=>
    go_enter Tryz.func219,Tryz.ntmps219
    go_wp2_with fail
    refine (counted_any g la lc zs at_ W HR.out).mono ?_
    rw [hv]
    rintro e w1 ⟨rfl,hr,hk⟩
    have HF:Hid (Rdr w1 g∧Kept (Only g) W w1):=⟨hr,hk⟩
    clear hr hk hv
    go_wp2
    exact ⟨rfl,.inr ⟨c,rfl,rfl,HF.out⟩⟩
  | ok x=>
    obtain ⟨n,k⟩:=x
    have hn:n≤140737488355328:=by have h1:=(cr_bd hv).2.2.1;have h2:=HR.out.bd;omega
    go_enter Tryz.func219,Tryz.ntmps219
    go_wp2_with fail
    refine (counted_any g la lc zs at_ W HR.out).mono ?_
    rw [hv]
    rintro e w1 ⟨b,off,lc1,rfl,hs,b',off',lc',ha,hr,hk⟩
    have HS:Hid (Sl w1 (some ⟨b,off,none⟩) n lc1 ((zs.drop k).take n)):=hs
    have HR1:Hid (Rd w1 g (some ⟨b',off',none⟩) lc' (zs.drop (k+n)) (at_+(k+n))):=hr
    have HK1:Hid (Kept (Only g) W w1):=hk
    have HA:Hid (At la b'):=ha
    clear hr hk hv ha hs
    go_wp2_with fail
    refine (clone_any _ _ _ ((zs.drop k).take n) w1 HS.out.len HS.out.bytes (fun e=>by cases e) hn).mono ?_
    rintro e w2 ⟨a2,c2,rfl,hO2,hK2,-⟩
    have HN2:Hid (w2.heap[N]?=some (.cells #[.slice none 0 0] 35 (0,0))):=(hK2.block N (by have h1:=(Array.getElem?_eq_some_iff.1 HN.out).1;have h2:=HK1.out.size;omega) (fun e=>e)).trans ((HK1.out.block N (Array.getElem?_eq_some_iff.1 HN.out).1 (fun e=>hne e)).trans HN.out)
    have cN:w2.cell? ⟨N,0,none⟩=some (.slice none 0 0):=by rw [cell_of_row w2 N 0 _ 35 (0,0) HN2.out];rfl
    have fN:=frozen_of_row w2 N 0 _ 35 HN2.out
    have HL:Hid _:=Rd.laid (v':=.slice a2 n c2) (HR1.out.no hK2) (HK1.out.then hK2.of_no) HN2.out hne (fun z e=>by cases e)
    have HO:Hid (OwnS (w2.setCell ⟨N,0,none⟩ (.slice a2 n c2)) W.heap.size a2 c2 ((zs.drop k).take n)):=
      (hO2.kept ((Kept.refl (Only N) w2).setCell (p:=⟨N,0,none⟩) (fun _=>(rfl:N=N)) _) (fun i hi e=>by have e':i=N:=e;have h1:=hO2.base hi;have h2:=(Array.getElem?_eq_some_iff.1 HN.out).1;have h3:=HK1.out.size;omega)).lower HK1.out.size
    clear hO2 hK2
    go_wp2
    go_end0
    exact .inl ⟨rfl,n,k,rfl,a2,c2,⟨HL.out.2.1,⟨b',off',lc',HA.out,HL.out.1⟩,HL.out.2.2⟩,HO.out⟩
set_option maxRecDepth 1000000 in
set_option maxHeartbeats 1000000 in
theorem end1_any (A g:Nat) (la:Option Addr) (lc:Nat) (zs:List Int) (at_:Nat) (W:World) (h:Rd W g la lc zs at_) (hA:W.cell? ⟨A,0,none⟩=some (.pointer (some ⟨g,0,none⟩))) :
    Calls Tryz.prog 224 #[.pointer (some ⟨A,0,none⟩)] W (Throws g (fun W w'=>zs=[]∧w'=W) (fun c=>c=11∧zs≠[]) W):=by
  have HR:Hid (Rd W g la lc zs at_):=h
  clear h
  by_cases h0:zs=[]
  · have HZ:Hid (zs=[]):=h0
    have hd:decide (0 < zs.length)=false:=by simp [h0]
    clear h0
    go_enter Tryz.func224,Tryz.ntmps224
    go_wp2_with fail
    refine (More_ok g la lc zs at_ W HR.out).mono ?_
    rw [hd]
    rintro e w1 ⟨rfl,rfl⟩
    go_wp2
    go_end0
    exact .inl ⟨rfl,HZ.out,rfl⟩
  · have HZ:Hid (zs≠[]):=h0
    have hd:decide (0 < zs.length)=true:=by simp;exact List.length_pos_iff.2 h0
    clear h0
    go_enter Tryz.func224,Tryz.ntmps224
    go_wp2_with fail
    refine (More_ok g la lc zs at_ W HR.out).mono ?_
    rw [hd]
    rintro e w1 ⟨rfl,rfl⟩
    go_wp2
    exact ⟨rfl,.inr ⟨11,rfl,⟨rfl,HZ.out⟩,HR.out.rdr,Kept.refl _ _⟩⟩
theorem run60 (caps:Array Value) (W:World):(callFunc 219 caps).run Tryz.prog W=.ok (.enter 219 caps) W:=by kernel_rfl
theorem run62 (caps:Array Value) (W:World):(callFunc 223 caps).run Tryz.prog W=.ok (.enter 223 caps) W:=by kernel_rfl
theorem run48 (caps:Array Value) (W:World):(callFunc 224 caps).run Tryz.prog W=.ok (.enter 224 caps) W:=by kernel_rfl
inductive RS where
  | ok (zs:List Int) (at_:Nat)
  | bad (p:Nat) (c:Int)
def Rs (w:World) (g lb:Nat):RS→Prop
  | .ok zs at_=>∃ la lc,Rd w g la lc zs at_∧∀ k,At la k→k=lb
  | .bad p c=>RdF w g p c∧c≠0
theorem Rs.lt {w:World} {g lb:Nat} {st:RS} (h:Rs w g lb st):g < w.heap.size:=by
  cases st with
  | ok zs at_=>obtain ⟨la,lc,hr,_⟩:=h;exact hr.lt
  | bad p c=>exact (Array.getElem?_eq_some_iff.1 h.1).1
theorem Rs.kept {S:Nat→Prop} {w w':World} {g lb:Nat} {st:RS} (h:Rs w g lb st) (hk:Kept S w w') (hg:¬ S g) (hl:¬ S lb):Rs w' g lb st:=by
  cases st with
  | ok zs at_=>obtain ⟨la,lc,hr,hb⟩:=h;exact ⟨la,lc,hr.kept hk hg (fun _ k hk e=>by rw [hb k hk] at e;exact hl e),hb⟩
  | bad p c=>exact ⟨(hk.block g (Array.getElem?_eq_some_iff.1 h.1).1 hg).trans h.1,h.2⟩
theorem Rs.no {w w':World} {g lb:Nat} {st:RS} (h:Rs w g lb st) (hk:Kept No w w'):Rs w' g lb st:=h.kept hk (fun e=>e) (fun e=>e)
def numS:RS→RS × Int
  | .ok zs at_=>match nr zs with
    | .error c=>(.bad at_ c,0)
    | .ok (u,k)=>(.ok (zs.drop k) (at_+k),(u:Int))
  | .bad p c=>(.bad p c,0)
def intS:RS→RS × Int
  | .ok zs at_=>match vr zs with
    | .error c=>(.bad at_ c,0)
    | .ok (u,k)=>(.ok (zs.drop k) (at_+k),unzz u)
  | .bad p c=>(.bad p c,0)
def bytesS:RS→RS × List Int
  | .ok zs at_=>match cr zs with
    | .error c=>(.bad at_ c,[])
    | .ok (n,k)=>(.ok (zs.drop (k+n)) (at_+(k+n)),(zs.drop k).take n)
  | .bad p c=>(.bad p c,[])
def endS:RS→RS
  | .ok zs at_=>if zs=[] then .ok zs at_ else .bad at_ 11
  | .bad p c=>.bad p c
def moreS:RS→Bool
  | .ok zs _=>decide (0 < zs.length)
  | .bad _ _=>false
def errS:RS→Int × Int
  | .ok _ _=>(0,0)
  | .bad p c=>(p,c)
theorem vr_code {zs:List Int} {c:Int} (h:vr zs=.error c):c=10∨c=11:=by
  suffices H:∀ f i,vrGo zs i f=.error c→c=10∨c=11 from H 10 0 h
  intro f
  induction f with
  | zero=>intro i h;simp [vrGo] at h;omega
  | succ f ih=>
    intro i h
    rw [vrGo] at h
    split at h
    · simp at h;omega
    · split at h
      · split at h
        · simp at h;omega
        · cases h
      · exact ih (i+1) h
theorem nr_code {zs:List Int} {c:Int} (h:nr zs=.error c):c=10∨c=11:=by
  unfold nr at h
  split at h
  · rename_i c' hv;simp at h;subst h;exact vr_code hv
  · split at h
    · simp at h;omega
    · cases h
theorem cr_code {zs:List Int} {c:Int} (h:cr zs=.error c):c=10∨c=11:=by
  unfold cr at h
  split at h
  · rename_i c' hv;simp at h;subst h;exact nr_code hv
  · split at h
    · simp at h;omega
    · cases h
theorem heap_new (w:World) (o:Obj):(w.alloc o).heap[w.heap.size]?=some o:=by
  show (w.heap.push o)[w.heap.size]?=some o
  simp
theorem heap_new1 (w:World) (o o':Obj):((w.alloc o).alloc o').heap[w.heap.size+1]?=some o':=by
  have:=heap_new (w.alloc o) o'
  rwa [World.heap_size_alloc1] at this
set_option maxRecDepth 1000000 in
set_option maxHeartbeats 2000000 in
theorem Num_all (g lb:Nat) (st:RS) (w:World) (h:Rs w g lb st) :
    Calls Tryz.prog 160 #[.pointer (some ⟨g,0,none⟩)] w fun e w'=>e=.returned (.int .i64 (numS st).2)∧Rs w' g lb (numS st).1∧Kept (Only g) w w':=by
  have hmf:∀ (fn:Fn) (first cap:Array Value) (w:World),(Instr.makeFunc fn first cap).run Tryz.prog w=.ok (.func fn first cap) w:=fun _ _ _ _=>rfl
  have hglt:=h.lt
  have HK0:Hid (Kept No w ((w.alloc (Obj.cells #[.pointer (some ⟨g,0,none⟩)] 203)).alloc (Obj.cells #[.int .i64 0] 3))):=((Kept.refl _ _).alloc _).alloc _
  have HN0:Hid (((w.alloc (Obj.cells #[.pointer (some ⟨g,0,none⟩)] 203)).alloc (Obj.cells #[.int .i64 0] 3)).heap[w.heap.size+1]?=some (.cells #[.int .i64 0] 3 (0,0))):=heap_new1 _ _ _
  have HA0:Hid (((w.alloc (Obj.cells #[.pointer (some ⟨g,0,none⟩)] 203)).alloc (Obj.cells #[.int .i64 0] 3)).cell? ⟨w.heap.size,0,none⟩=some (.pointer (some ⟨g,0,none⟩))):=by simp [Hid]
  cases st with
  | bad p c=>
    have HF:Hid (RdF w g p c):=h.1
    have HC:Hid (c≠0):=h.2
    clear h
    go_enter Tryz.func160,Tryz.ntmps160
    go_wp2_with fail
    refine (catch_bad _ g p c _ ((HK0.out.block g hglt (fun e=>e)).trans HF.out) HC.out).mono ?_
    rintro e w1 ⟨rfl,hk⟩
    have cN:w1.cell? ⟨w.heap.size+1,0,none⟩=some (.int .i64 0):=hk.cell (by simp) (fun e=>e)
    have HK1:Hid (Kept No w w1):=HK0.out.then hk
    clear hk
    go_wp2
    go_ret
    exact ⟨rfl,⟨(HK1.out.block g hglt (fun e=>e)).trans HF.out,HC.out⟩,HK1.out.of_no⟩
  | ok zs at_=>
    obtain ⟨la,lc,hr,hb⟩:=h
    have HR:Hid (Rd w g la lc zs at_):=hr
    have HB:Hid (∀ k,At la k→k=lb):=hb
    clear hr hb
    go_enter Tryz.func160,Tryz.ntmps160
    go_wp2_with fail
    refine (catch_any 203 _ (run53 _) g la lc zs at_ (fun W w'=>∃ u k,nr zs=.ok (u,k)∧Laid g (w.heap.size+1) 3 la zs at_ k (.int .i64 (u:Int)) W w') (fun c=>nr zs=.error c) _ (HR.out.no HK0.out) (fun W hk=>num1_any w.heap.size (w.heap.size+1) g la lc zs at_ W ((HR.out.no HK0.out).no hk) (hk.cell HA0.out (fun e=>e)) ((hk.block _ (Array.getElem?_eq_some_iff.1 HN0.out).1 (fun e=>e)).trans HN0.out) (by omega))).mono ?_
    rintro e w1 ⟨rfl,hcase⟩
    rcases hcase with ⟨W,hW,hok⟩ | ⟨c,hbad,hF,hk⟩
    · obtain ⟨u,k,hv,hlaid⟩:=hok
      have cN:w1.cell? ⟨w.heap.size+1,0,none⟩=some (.int .i64 (u:Int)):=by rw [cell_of_row w1 (w.heap.size+1) 0 _ 3 (0,0) hlaid.1];rfl
      have HK1:Hid (Kept (Only g) w w1):=(HK0.out.then hW).of_no.trans hlaid.2.2 (fun _ e=>e) (fun i hi e=>by
        rcases e with e | e
        · exact e
        · omega)
      have HP:Hid (Rs w1 g lb (numS (.ok zs at_)).1∧(numS (.ok zs at_)).2=(u:Int)):=by
        obtain ⟨b',off',lc',ha,hr⟩:=hlaid.2.1
        have e:numS (.ok zs at_)=(.ok (zs.drop k) (at_+k),(u:Int)):=by simp only[numS,hv]
        rw [e]
        exact ⟨⟨_,_,hr,fun i hi=>by obtain ⟨ad,e1,rfl⟩:=hi;cases e1;exact HB.out _ ha⟩,rfl⟩
      clear hW hlaid hv
      go_wp2
      go_ret
      exact ⟨ret_int HP.out.2.symm,HP.out.1,HK1.out⟩
    · have cN:w1.cell? ⟨w.heap.size+1,0,none⟩=some (.int .i64 0):=hk.cell (by simp) (fun e=>by have e':w.heap.size+1=g:=e;omega)
      have HK1:Hid (Kept (Only g) w w1):=HK0.out.of_no.then hk
      have HP:Hid (Rs w1 g lb (numS (.ok zs at_)).1∧numS (.ok zs at_)=(.bad at_ c,0)):=by
        have e:numS (.ok zs at_)=(.bad at_ c,0):=by simp only[numS,hbad]
        rw [e]
        exact ⟨⟨hF,by have:=nr_code hbad;omega⟩,rfl⟩
      clear hbad hF hk
      go_wp2
      go_ret
      exact ⟨ret_int (by rw [HP.out.2]),HP.out.1,HK1.out⟩
set_option maxRecDepth 1000000 in
set_option maxHeartbeats 2000000 in
theorem Text_all (g lb:Nat) (st:RS) (w:World) (h:Rs w g lb st) :
    Calls Tryz.prog 194 #[.pointer (some ⟨g,0,none⟩)] w fun e w'=>e=.returned (.string (strOf (bytesS st).2))∧Rs w' g lb (bytesS st).1∧Kept (Only g) w w':=by
  have hmf:∀ (fn:Fn) (first cap:Array Value) (w:World),(Instr.makeFunc fn first cap).run Tryz.prog w=.ok (.func fn first cap) w:=fun _ _ _ _=>rfl
  have hglt:=h.lt
  have HK0:Hid (Kept No w ((w.alloc (Obj.cells #[.pointer (some ⟨g,0,none⟩)] 203)).alloc (Obj.cells #[.string ByteArray.empty] 9))):=((Kept.refl _ _).alloc _).alloc _
  have HN0:Hid (((w.alloc (Obj.cells #[.pointer (some ⟨g,0,none⟩)] 203)).alloc (Obj.cells #[.string ByteArray.empty] 9)).heap[w.heap.size+1]?=some (.cells #[.string ByteArray.empty] 9 (0,0))):=heap_new1 _ _ _
  have HA0:Hid (((w.alloc (Obj.cells #[.pointer (some ⟨g,0,none⟩)] 203)).alloc (Obj.cells #[.string ByteArray.empty] 9)).cell? ⟨w.heap.size,0,none⟩=some (.pointer (some ⟨g,0,none⟩))):=by simp [Hid]
  cases st with
  | bad p c=>
    have HF:Hid (RdF w g p c):=h.1
    have HC:Hid (c≠0):=h.2
    clear h
    go_enter Tryz.func194,Tryz.ntmps194
    go_wp2_with fail
    refine (catch_bad _ g p c _ ((HK0.out.block g hglt (fun e=>e)).trans HF.out) HC.out).mono ?_
    rintro e w1 ⟨rfl,hk⟩
    have cN:w1.cell? ⟨w.heap.size+1,0,none⟩=some (.string ByteArray.empty):=hk.cell (by simp) (fun e=>e)
    have HK1:Hid (Kept No w w1):=HK0.out.then hk
    clear hk
    go_wp2
    go_ret
    exact ⟨rfl,⟨(HK1.out.block g hglt (fun e=>e)).trans HF.out,HC.out⟩,HK1.out.of_no⟩
  | ok zs at_=>
    obtain ⟨la,lc,hr,hb⟩:=h
    have HR:Hid (Rd w g la lc zs at_):=hr
    have HB:Hid (∀ k,At la k→k=lb):=hb
    clear hr hb
    go_enter Tryz.func194,Tryz.ntmps194
    go_wp2_with fail
    refine (catch_any 223 _ (run62 _) g la lc zs at_ (fun W w'=>∃ n k,cr zs=.ok (n,k)∧Laid g (w.heap.size+1) 9 la zs at_ (k+n) (.string (strOf ((zs.drop k).take n))) W w') (fun c=>cr zs=.error c) _ (HR.out.no HK0.out) (fun W hk=>text1_any w.heap.size (w.heap.size+1) g la lc zs at_ W ((HR.out.no HK0.out).no hk) (hk.cell HA0.out (fun e=>e)) ((hk.block _ (Array.getElem?_eq_some_iff.1 HN0.out).1 (fun e=>e)).trans HN0.out) (by omega))).mono ?_
    rintro e w1 ⟨rfl,hcase⟩
    rcases hcase with ⟨W,hW,hok⟩ | ⟨c,hbad,hF,hk⟩
    · obtain ⟨n,k,hv,hlaid⟩:=hok
      have cN:w1.cell? ⟨w.heap.size+1,0,none⟩=some (.string (strOf ((zs.drop k).take n))):=by rw [cell_of_row w1 (w.heap.size+1) 0 _ 9 (0,0) hlaid.1];rfl
      have HK1:Hid (Kept (Only g) w w1):=(HK0.out.then hW).of_no.trans hlaid.2.2 (fun _ e=>e) (fun i hi e=>by
        rcases e with e | e
        · exact e
        · omega)
      have HP:Hid (Rs w1 g lb (bytesS (.ok zs at_)).1∧(bytesS (.ok zs at_)).2=(zs.drop k).take n):=by
        obtain ⟨b',off',lc',ha,hr⟩:=hlaid.2.1
        have e:bytesS (.ok zs at_)=(.ok (zs.drop (k+n)) (at_+(k+n)),(zs.drop k).take n):=by simp only[bytesS,hv]
        rw [e]
        exact ⟨⟨_,_,hr,fun i hi=>by obtain ⟨ad,e1,rfl⟩:=hi;cases e1;exact HB.out _ ha⟩,rfl⟩
      clear hW hlaid hv
      generalize (zs.drop k).take n=L at cN HP
      go_wp2
      go_ret
      exact ⟨by rw [HP.out.2];rfl,HP.out.1,HK1.out⟩
    · have cN:w1.cell? ⟨w.heap.size+1,0,none⟩=some (.string ByteArray.empty):=hk.cell (by simp) (fun e=>by have e':w.heap.size+1=g:=e;omega)
      have HK1:Hid (Kept (Only g) w w1):=HK0.out.of_no.then hk
      have HP:Hid (Rs w1 g lb (bytesS (.ok zs at_)).1∧bytesS (.ok zs at_)=(.bad at_ c,[])):=by
        have e:bytesS (.ok zs at_)=(.bad at_ c,[]):=by simp only[bytesS,hbad]
        rw [e]
        exact ⟨⟨hF,by have:=cr_code hbad;omega⟩,rfl⟩
      clear hbad hF hk
      go_wp2
      go_ret
      exact ⟨by rw [HP.out.2];rfl,HP.out.1,HK1.out⟩
set_option maxRecDepth 1000000 in
set_option maxHeartbeats 2000000 in
theorem Bytes_all (g lb:Nat) (st:RS) (w:World) (h:Rs w g lb st) :
    Calls Tryz.prog 188 #[.pointer (some ⟨g,0,none⟩)] w fun e w'=>∃ a' n' c',e=.returned (.slice a' n' c')∧n'=(bytesS st).2.length∧OwnS w' w.heap.size a' c' (bytesS st).2∧Rs w' g lb (bytesS st).1∧Kept (Only g) w w':=by
  have hmf:∀ (fn:Fn) (first cap:Array Value) (w:World),(Instr.makeFunc fn first cap).run Tryz.prog w=.ok (.func fn first cap) w:=fun _ _ _ _=>rfl
  have hglt:=h.lt
  have HK0:Hid (Kept No w ((w.alloc (Obj.cells #[.pointer (some ⟨g,0,none⟩)] 203)).alloc (Obj.cells #[.slice none 0 0] 35))):=((Kept.refl _ _).alloc _).alloc _
  have HN0:Hid (((w.alloc (Obj.cells #[.pointer (some ⟨g,0,none⟩)] 203)).alloc (Obj.cells #[.slice none 0 0] 35)).heap[w.heap.size+1]?=some (.cells #[.slice none 0 0] 35 (0,0))):=heap_new1 _ _ _
  have HA0:Hid (((w.alloc (Obj.cells #[.pointer (some ⟨g,0,none⟩)] 203)).alloc (Obj.cells #[.slice none 0 0] 35)).cell? ⟨w.heap.size,0,none⟩=some (.pointer (some ⟨g,0,none⟩))):=by simp [Hid]
  cases st with
  | bad p c=>
    have HF:Hid (RdF w g p c):=h.1
    have HC:Hid (c≠0):=h.2
    clear h
    go_enter Tryz.func188,Tryz.ntmps188
    go_wp2_with fail
    refine (catch_bad _ g p c _ ((HK0.out.block g hglt (fun e=>e)).trans HF.out) HC.out).mono ?_
    rintro e w1 ⟨rfl,hk⟩
    have cN:w1.cell? ⟨w.heap.size+1,0,none⟩=some (.slice none 0 0):=hk.cell (by simp) (fun e=>e)
    have HK1:Hid (Kept No w w1):=HK0.out.then hk
    clear hk
    go_wp2
    go_ret
    exact ⟨none,0,0,rfl,rfl,OwnS.nil _ _,⟨(HK1.out.block g hglt (fun e=>e)).trans HF.out,HC.out⟩,HK1.out.of_no⟩
  | ok zs at_=>
    obtain ⟨la,lc,hr,hb⟩:=h
    have HR:Hid (Rd w g la lc zs at_):=hr
    have HB:Hid (∀ k,At la k→k=lb):=hb
    clear hr hb
    go_enter Tryz.func188,Tryz.ntmps188
    go_wp2_with fail
    refine (catch_any 219 _ (run60 _) g la lc zs at_ (fun W w'=>∃ n k,cr zs=.ok (n,k)∧∃ a' c',Laid g (w.heap.size+1) 35 la zs at_ (k+n) (.slice a' n c') W w'∧OwnS w' W.heap.size a' c' ((zs.drop k).take n)) (fun c=>cr zs=.error c) _ (HR.out.no HK0.out) (fun W hk=>bytes1_any w.heap.size (w.heap.size+1) g la lc zs at_ W ((HR.out.no HK0.out).no hk) (hk.cell HA0.out (fun e=>e)) ((hk.block _ (Array.getElem?_eq_some_iff.1 HN0.out).1 (fun e=>e)).trans HN0.out) (by omega))).mono ?_
    rintro e w1 ⟨rfl,hcase⟩
    rcases hcase with ⟨W,hW,hok⟩ | ⟨c,hbad,hF,hk⟩
    · obtain ⟨n,k,hv,a2,c2,hlaid,hO⟩:=hok
      have cN:w1.cell? ⟨w.heap.size+1,0,none⟩=some (.slice a2 n c2):=by rw [cell_of_row w1 (w.heap.size+1) 0 _ 35 (0,0) hlaid.1];rfl
      have HK1:Hid (Kept (Only g) w w1):=(HK0.out.then hW).of_no.trans hlaid.2.2 (fun _ e=>e) (fun i hi e=>by
        rcases e with e | e
        · exact e
        · omega)
      have HP:Hid (Rs w1 g lb (bytesS (.ok zs at_)).1∧n=(bytesS (.ok zs at_)).2.length∧OwnS w1 w.heap.size a2 c2 (bytesS (.ok zs at_)).2):=by
        obtain ⟨b',off',lc',ha,hr⟩:=hlaid.2.1
        have e:bytesS (.ok zs at_)=(.ok (zs.drop (k+n)) (at_+(k+n)),(zs.drop k).take n):=by simp only[bytesS,hv]
        rw [e]
        refine ⟨⟨_,_,hr,fun i hi=>by obtain ⟨ad,e1,rfl⟩:=hi;cases e1;exact HB.out _ ha⟩,?_,hO.lower (HK0.out.then hW).size⟩
        have:=(cr_bd hv).2.2.1
        simp only[List.length_take,List.length_drop];omega
      clear hW hlaid hv hO
      go_wp2
      go_ret
      exact ⟨a2,n,c2,rfl,HP.out.2.1,HP.out.2.2,HP.out.1,HK1.out⟩
    · have cN:w1.cell? ⟨w.heap.size+1,0,none⟩=some (.slice none 0 0):=hk.cell (by simp) (fun e=>by have e':w.heap.size+1=g:=e;omega)
      have HK1:Hid (Kept (Only g) w w1):=HK0.out.of_no.then hk
      have HP:Hid (Rs w1 g lb (bytesS (.ok zs at_)).1∧bytesS (.ok zs at_)=(.bad at_ c,[])):=by
        have e:bytesS (.ok zs at_)=(.bad at_ c,[]):=by simp only[bytesS,hbad]
        rw [e]
        exact ⟨⟨hF,by have:=cr_code hbad;omega⟩,rfl⟩
      clear hbad hF hk
      go_wp2
      go_ret
      exact ⟨none,0,0,rfl,by rw [HP.out.2];rfl,by rw [HP.out.2];exact OwnS.nil _ _,HP.out.1,HK1.out⟩
theorem Err_all (g lb:Nat) (st:RS) (w:World) (h:Rs w g lb st) :
    Calls Tryz.prog 201 #[.pointer (some ⟨g,0,none⟩)] w fun e w'=>e=.returned (.tuple #[.int .i64 (errS st).1,.int .i64 (errS st).2])∧∃ n,w'=w.drewN n:=by
  cases st with
  | ok zs at_=>obtain ⟨la,lc,hr,_⟩:=h;exact Err_any g _ _ 0 0 w hr.cell
  | bad p c=>exact Err_any g _ _ p c w h.1
set_option maxRecDepth 1000000 in
set_option maxHeartbeats 2000000 in
theorem End_all (g lb:Nat) (st:RS) (w:World) (h:Rs w g lb st) :
    Calls Tryz.prog 200 #[.pointer (some ⟨g,0,none⟩)] w fun e w'=>e=.returned (.tuple #[])∧Rs w' g lb (endS st)∧Kept (Only g) w w':=by
  have hmf:∀ (fn:Fn) (first cap:Array Value) (w:World),(Instr.makeFunc fn first cap).run Tryz.prog w=.ok (.func fn first cap) w:=fun _ _ _ _=>rfl
  have hglt:=h.lt
  have HK0:Hid (Kept No w (w.alloc (Obj.cells #[.pointer (some ⟨g,0,none⟩)] 203))):=(Kept.refl _ _).alloc _
  have HA0:Hid ((w.alloc (Obj.cells #[.pointer (some ⟨g,0,none⟩)] 203)).cell? ⟨w.heap.size,0,none⟩=some (.pointer (some ⟨g,0,none⟩))):=by simp [Hid]
  cases st with
  | bad p c=>
    have HF:Hid (RdF w g p c):=h.1
    have HC:Hid (c≠0):=h.2
    clear h
    go_enter Tryz.func200,Tryz.ntmps200
    go_wp2_with fail
    refine (catch_bad _ g p c _ ((HK0.out.block g hglt (fun e=>e)).trans HF.out) HC.out).mono ?_
    rintro e w1 ⟨rfl,hk⟩
    have HK1:Hid (Kept No w w1):=HK0.out.then hk
    clear hk
    go_wp2
    go_end0
    exact ⟨rfl,⟨(HK1.out.block g hglt (fun e=>e)).trans HF.out,HC.out⟩,HK1.out.of_no⟩
  | ok zs at_=>
    obtain ⟨la,lc,hr,hb⟩:=h
    have HR:Hid (Rd w g la lc zs at_):=hr
    have HB:Hid (∀ k,At la k→k=lb):=hb
    clear hr hb
    go_enter Tryz.func200,Tryz.ntmps200
    go_wp2_with fail
    refine (catch_any 224 _ (run48 _) g la lc zs at_ (fun W w'=>zs=[]∧w'=W) (fun c=>c=11∧zs≠[]) _ (HR.out.no HK0.out) (fun W hk=>end1_any w.heap.size g la lc zs at_ W ((HR.out.no HK0.out).no hk) (hk.cell HA0.out (fun e=>e)))).mono ?_
    rintro e w1 ⟨rfl,hcase⟩
    rcases hcase with ⟨W,hW,h0,rfl⟩ | ⟨c,⟨rfl,hne⟩,hF,hk⟩
    · have HP:Hid (Rs w1 g lb (endS (.ok zs at_))∧Kept (Only g) w w1):=by
        have e:endS (.ok zs at_)=.ok zs at_:=by simp only[endS,h0,if_true]
        rw [e]
        exact ⟨⟨la,lc,(HR.out.no HK0.out).no hW,HB.out⟩,(HK0.out.then hW).of_no⟩
      clear hW h0
      go_wp2
      go_end0
      exact ⟨rfl,HP.out⟩
    · have HP:Hid (Rs w1 g lb (endS (.ok zs at_))∧Kept (Only g) w w1):=by
        have e:endS (.ok zs at_)=.bad at_ 11:=by simp only[endS,hne,if_false]
        rw [e]
        exact ⟨⟨hF,by omega⟩,HK0.out.of_no.then hk⟩
      clear hF hk hne
      go_wp2
      go_end0
      exact ⟨rfl,HP.out⟩
set_option maxRecDepth 1000000 in
set_option maxHeartbeats 1000000 in
theorem Read_any (xa:Option Addr) (xn xc:Nat) (ys:List Int) (w:World) (h:Sl w xa xn xc ys) :
    Calls Tryz.prog 158 #[.slice xa xn xc] w fun e w'=>∃ g lb,e=.returned (.pointer (some ⟨g,0,none⟩))∧w.heap.size≤g∧w.heap.size≤lb∧Rs w' g lb (.ok ys 0)∧Kept No w w'∧g < w'.heap.size∧(lb < w'.heap.size):=by
  have HS:Hid (Sl w xa xn xc ys):=h
  have hbd:=h.bd
  clear h
  go_enter Tryz.func158,Tryz.ntmps158
  go_wp2_with fail
  refine (clone_any xa xn xc ys w HS.out.len HS.out.bytes (fun e=>⟨?_,HS.out.nil e⟩) (by omega)).mono ?_
  · have h1:=HS.out.nil e;have h2:=HS.out.le;omega
  rintro e w1 ⟨a1,c1,rfl,hO1,hK1,-⟩
  have HF:Hid (∃ lb,w.heap.size≤lb∧lb < (w1.alloc (Obj.cells #[.slice a1 xn c1,.int .i64 0,.int .i64 0,.int .i64 0] 231)).heap.size∧Rs (w1.alloc (Obj.cells #[.slice a1 xn c1,.int .i64 0,.int .i64 0,.int .i64 0] 231)) w1.heap.size lb (.ok ys 0)):=by
    have hs:Sl w1 a1 ys.length c1 ys:=hO1.sl rfl HS.out.u8 (by rw [HS.out.len];exact hbd)
    have hs':=hs.no ((Kept.refl No w1).alloc (Obj.cells #[.slice a1 xn c1,.int .i64 0,.int .i64 0,.int .i64 0] 231))
    have hR:Rd (w1.alloc (Obj.cells #[.slice a1 xn c1,.int .i64 0,.int .i64 0,.int .i64 0] 231)) w1.heap.size a1 c1 ys 0:=
      ⟨by rw [HS.out.len];exact heap_new _ _,hs',by rw [HS.out.len];omega⟩
    have hz:=hK1.size
    rcases hO1.cases with ⟨rfl,_,_⟩ | ⟨g,rfl,hb,hl,_⟩
    · exact ⟨w1.heap.size,by omega,by rw [World.heap_size_alloc1];omega,none,c1,hR,fun k hk=>absurd hk At.none⟩
    · exact ⟨g,hb,by rw [World.heap_size_alloc1];omega,_,c1,hR,fun k hk=>at_some hk⟩
  have HK:Hid (Kept No w w1):=hK1
  clear hO1 hK1
  go_wp2
  go_ret
  obtain ⟨lb,h1,h2,h3⟩:=HF.out
  exact ⟨w1.heap.size,lb,rfl,HK.out.size,h1,h3,HK.out.alloc _,by rw [World.heap_size_alloc1];omega,h2⟩
set_option maxRecDepth 100000 in
set_option maxHeartbeats 4000000 in
theorem packMsg_all (cs:Array Value) (hcs:cs.size=30) (r:Int) (sa:Option Addr) (sn sc:Nat) (zs:List Int) (f p bu bl ro:Int) (body:List Int) (w:World) (hbl:body.length≤131072) (hb8:U8 body)
    (hJ:∀ W,Kept No w W→Calls Tryz.prog 39 #[.agg cs,cfgV (.slice sa sn sc) f p bu bl ro,FV 40,.int .i64 r] W fun e w'=>e=.returned (.int .i64 0)∧Kept No W w')
    (hP:∀ W g,Kept No w W→Ws W w.heap.size g none 0 (some [])→Calls Tryz.prog 53 #[.pointer (some ⟨g,0,none⟩),.agg cs] W (Puts W w.heap.size g none (some body))) :
    Calls Tryz.prog 52 #[.agg cs,cfgV (.slice sa sn sc) f p bu bl ro,FV 40,FV 53,.int .i64 r] w fun e w'=>∃ a' c',e=.returned (.tuple #[.slice a' (body.length+12) c',.int .i64 0])∧OwnS w' w.heap.size a' c' (sealOf body)∧Kept No w w':=by
  have HJ:Hid (∀ W,Kept No w W→Calls Tryz.prog 39 #[.agg cs,cfgV (.slice sa sn sc) f p bu bl ro,FV 40,.int .i64 r] W fun e w'=>e=.returned (.int .i64 0)∧Kept No W w'):=hJ
  have HP:Hid (∀ W g,Kept No w W→Ws W w.heap.size g none 0 (some [])→Calls Tryz.prog 53 #[.pointer (some ⟨g,0,none⟩),.agg cs] W (Puts W w.heap.size g none (some body))):=hP
  have HS:Hid (cs.size=30):=hcs
  have HB:Hid (body.length≤131072∧U8 body):=⟨hbl,hb8⟩
  clear hJ hcs hP hbl hb8
  have TB:Hid (1=1):=rfl
  obtain ⟨w0,hw0⟩:∃ w0,w0=w.alloc (.cells cs 45):=⟨_,rfl⟩
  have HK0:Hid (Kept No w w0):=by rw [hw0];exact (Kept.refl No w).alloc _
  have HM0:Hid (Box w0 w.heap.size 45 cs):=by rw [hw0];exact Box.new _ _ _
  go_enter Tryz.func52,Tryz.ntmps52
  go_upto_region 1 with (have hguard:=TB;clear hguard;refine wp_boxV rfl 45 _ rfl cs rfl w.heap.size rfl ?_;rw [← hw0];clear hw0 TB)
  obtain ⟨w1,hw1⟩:∃ w1,w1=w0.alloc (.cells #[.slice sa sn sc,.int .i64 f,.int .i64 p,.int .i64 bu,.int .i64 bl,.int .i64 ro] 24):=⟨_,rfl⟩
  rw [← hw1]
  have hk1:Kept No w0 w1:=by rw [hw1];exact (Kept.refl No w0).alloc _
  have HC1:Hid (Box w1 w0.heap.size 24 #[.slice sa sn sc,.int .i64 f,.int .i64 p,.int .i64 bu,.int .i64 bl,.int .i64 ro]):=by rw [hw1];exact Box.new _ _ _
  have HK1:Hid (Kept No w w1):=HK0.out.then hk1
  have HM1:Hid (Box w1 w.heap.size 45 cs):=HM0.out.kept hk1 (fun e=>e)
  clear hw1 hk1 HM0 HK0
  have q0:=HC1.out.cell 0
  have q1:=HC1.out.cell 1
  have q2:=HC1.out.cell 2
  have q3:=HC1.out.cell 3
  have q4:=HC1.out.cell 4
  have q5:=HC1.out.cell 5
  simp at q0 q1 q2 q3 q4 q5
  have TL:Hid (1=1):=rfl
  go_wp2_with (have hguard:=TL;clear hguard;refine wp_load71 rfl _ rfl w.heap.size cs rfl HS.out HM1.out ?_;clear TL)
  refine (HJ.out _ HK1.out).mono ?_
  rintro e w2 ⟨rfl,hk2⟩
  have HK2:Hid (Kept No w w2):=HK1.out.then hk2
  have HM2:Hid (Box w2 w.heap.size 45 cs):=HM1.out.kept hk2 (fun e=>e)
  clear hk2 q0 q1 q2 q3 q4 q5 HC1 HM1 HJ
  obtain ⟨w3,hw3⟩:∃ w3,w3=w2.alloc (.cells #[.slice none 0 0,.bool false] 159):=⟨_,rfl⟩
  have hk3:Kept No w2 w3:=by rw [hw3];exact (Kept.refl No w2).alloc _
  have hB3:Box w3 w2.heap.size 159 #[.slice none 0 0,.bool false]:=by rw [hw3];exact Box.new _ _ _
  have HK3:Hid (Kept No w w3):=HK2.out.then hk3
  have HM3:Hid (Box w3 w.heap.size 45 cs):=HM2.out.kept hk3 (fun e=>e)
  have HW3:Hid (Ws w3 w.heap.size w2.heap.size none 0 (some [])):=by
    show Wr _ _ _ _ _ _ _
    exact ⟨hB3,OwnS.nil _ _,HK2.out.size⟩
  have TL:Hid (1=1):=rfl
  clear hk3 hB3 HM2
  go_upto_region 5 with fail
  rw [← hw3]
  clear hw3
  go_wp2_with (have hguard:=TL;clear hguard;refine wp_load71 rfl _ rfl w.heap.size cs rfl HS.out HM3.out ?_;clear TL)
  refine (HP.out w3 _ HK3.out HW3.out).mono ?_
  rintro e w4 ⟨rfl,a4,c4,hw4,hk4,hm4⟩
  have HK4:Hid (Kept No w w4):=HK3.out.fresh hk4 (fun i hi=>HW3.out.base hi)
  have HD:Hid (Calls Tryz.prog 113 #[.pointer (some ⟨w2.heap.size,0,none⟩)] w4 fun e w'=>∃ a' n' c',e=.returned (.tuple #[.slice a' n' c',.int .i64 0])∧n'=body.length∧OwnS w' w4.heap.size a' c' body∧Kept No w4 w'):=
    Done_all w.heap.size w2.heap.size a4 c4 (some body) w4 hw4 (by have:=HB.out.1;show body.length≤_;omega)
  clear hw4 hk4 hm4 HW3 HM3 HP HK3 HK2
  go_wp2_with fail
  refine HD.out.mono ?_
  rintro e w5 ⟨a5,n5,c5,rfl,hn5,hO5,hk5⟩
  have HS5:Hid (Calls Tryz.prog 38 #[.slice a5 n5 c5] w5 fun e w'=>∃ a' c',e=.returned (.slice a' (n5+12) c')∧OwnS w' w5.heap.size a' c' (sealOf body)∧Kept No w5 w'):=
    seal_any a5 n5 c5 body w5 hn5.symm (by have:=HB.out.1;omega) hO5.bytes HB.out.2 hO5.nilcap
  have HK5:Hid (Kept No w w5):=HK4.out.then hk5
  have HN5:Hid (n5=body.length):=hn5
  clear hn5 hO5 hk5 HK4 HD
  go_wp2_with fail
  refine HS5.out.mono ?_
  rintro e w6 ⟨a6,c6,rfl,hO6,hk6⟩
  have HF:Hid (OwnS w6 w.heap.size a6 c6 (sealOf body)∧Kept No w w6):=⟨hO6.lower HK5.out.size,HK5.out.then hk6⟩
  clear hO6 hk6
  go_wp2
  go_ret2
  exact ⟨a6,c6,by rw [HN5.out];rfl,HF.out.1,HF.out.2⟩
structure RdM (w0 W:World) (r g lb:Nat) (odd:Bool) (st:RS):Prop where
  box:Box W r 206 #[.pointer (some ⟨g,0,none⟩),.bool odd]
  rs:Rs W g lb st
  rg:r≠g
  rl:r≠lb
  ltl:lb < W.heap.size
  kept:Kept (fun k=>k=r∨k=g) w0 W
theorem RdM.no {w0 W W':World} {r g lb:Nat} {odd:Bool} {st:RS} (h:RdM w0 W r g lb odd st) (hk:Kept No W W'):RdM w0 W' r g lb odd st:=
  ⟨h.box.kept hk (fun e=>e),h.rs.no hk,h.rg,h.rl,Nat.lt_of_lt_of_le h.ltl hk.size,h.kept.then hk.of_no⟩
theorem RdM.apart {S:Nat→Prop} {w0 W W':World} {r g lb:Nat} {odd:Bool} {st:RS} (h:RdM w0 W r g lb odd st) (hk:Kept S W W') (hr:¬ S r) (hg:¬ S g) (hl:¬ S lb) (hn:∀ i,i < w0.heap.size→¬ S i):RdM w0 W' r g lb odd st:=
  ⟨h.box.kept hk hr,h.rs.kept hk hg hl,h.rg,h.rl,Nat.lt_of_lt_of_le h.ltl hk.size,h.kept.trans hk (fun _ e=>e) (fun i hi e=>absurd e (hn i hi))⟩
theorem RdM.c0 {w0 W:World} {r g lb:Nat} {odd:Bool} {st:RS} (h:RdM w0 W r g lb odd st):W.cell? ⟨r,0,none⟩=some (.pointer (some ⟨g,0,none⟩)):=h.box.cell 0
theorem RdM.c1 {w0 W:World} {r g lb:Nat} {odd:Bool} {st:RS} (h:RdM w0 W r g lb odd st):W.cell? ⟨r,1,none⟩=some (.bool odd):=h.box.cell 1
theorem RdM.anew {w0 W:World} {r g lb:Nat} {odd:Bool} {st:RS} (h:RdM w0 W r g lb odd st):RdM W W r g lb odd st:=⟨h.box,h.rs,h.rg,h.rl,h.ltl,Kept.refl _ _⟩
theorem RdM.since {w0 w1 W:World} {r g lb:Nat} {odd:Bool} {st:RS} (h:RdM w1 W r g lb odd st) (hk:Kept (fun k=>k=r∨k=g) w0 w1):RdM w0 W r g lb odd st:=⟨h.box,h.rs,h.rg,h.rl,h.ltl,hk.then h.kept⟩
theorem RdM.other {w0 W:World} {r g lb:Nat} {odd:Bool} {st:RS} (h:RdM w0 W r g lb odd st) {b:Nat} {t:TypeId} {cs:Array Value} (hb:Box w0 b t cs) (h1:b≠r) (h2:b≠g):Box W b t cs:=hb.kept h.kept (fun e=>e.elim h1 h2)
theorem RdM.ltr {w0 W:World} {r g lb:Nat} {odd:Bool} {st:RS} (h:RdM w0 W r g lb odd st):r < W.heap.size:=h.box.lt
theorem RdM.ltg {w0 W:World} {r g lb:Nat} {odd:Bool} {st:RS} (h:RdM w0 W r g lb odd st):g < W.heap.size:=h.rs.lt
def nS (st:RS):RS:=(numS st).1
def nV (st:RS):Int:=(numS st).2
def fV (st:RS):Bool:=decide (nV st=1)
def fO (odd:Bool) (st:RS):Bool:=odd||decide (nV st > 1)
theorem RdM.num {w0 W:World} {r g lb:Nat} {odd:Bool} {st:RS} (h:RdM w0 W r g lb odd st) :
    Calls Tryz.prog 160 #[.pointer (some ⟨g,0,none⟩)] W fun e w'=>e=.returned (.int .i64 (nV st))∧RdM w0 w' r g lb odd (nS st)∧w'.cell? ⟨r,0,none⟩=some (.pointer (some ⟨g,0,none⟩)):=by
  refine (Num_all g lb st W h.rs).mono ?_
  rintro e w' ⟨rfl,h1,h2⟩
  have H:RdM w0 w' r g lb odd (nS st):=⟨h.box.kept h2 (fun e=>h.rg e),h1,h.rg,h.rl,Nat.lt_of_lt_of_le h.ltl h2.size,h.kept.then (h2.mono (fun i _ e=>.inr e))⟩
  exact ⟨rfl,H,H.c0⟩
theorem RdM.set {w0 W:World} {r g lb:Nat} {odd:Bool} {st:RS} (h:RdM w0 W r g lb odd st) (b:Bool):RdM w0 (W.setCell ⟨r,1,none⟩ (.bool b)) r g lb b st:=by
  have hk:Kept (Only r) W (W.setCell ⟨r,1,none⟩ (.bool b)):=(Kept.refl (Only r) W).setCell (p:=⟨r,1,none⟩) (fun _=>rfl) _
  exact ⟨h.box.set 1 _,h.rs.kept hk (fun e=>h.rg e.symm) (fun e=>h.rl e.symm),h.rg,h.rl,Nat.lt_of_lt_of_le h.ltl hk.size,h.kept.then (hk.mono (fun i _ e=>.inl e))⟩
set_option maxRecDepth 100000 in
set_option maxHeartbeats 1000000 in
theorem RdM.flag {w0 W:World} {r g lb:Nat} {odd:Bool} {st:RS} (h:RdM w0 W r g lb odd st) :
    Calls Tryz.prog 191 #[.pointer (some ⟨r,0,none⟩)] W fun e w'=>e=.returned (.bool (fV st))∧RdM w0 w' r g lb (fO odd st) (nS st)∧w'.cell? ⟨r,0,none⟩=some (.pointer (some ⟨g,0,none⟩)):=by
  have HR:Hid (RdM w0 W r g lb odd st):=h
  have q0:=h.c0
  clear h
  go_enter Tryz.func191,Tryz.ntmps191
  go_wp2_with fail
  refine HR.out.num.mono ?_
  rintro e w1 ⟨rfl,hr,q1⟩
  have HR1:Hid (RdM w0 w1 r g lb odd (nS st)):=hr
  have q2:=hr.c1
  have q3:=hr.box.frozen 1
  clear hr q0 HR
  have HE:Hid (fV st=decide (nV st=1)∧fO odd st=(odd||decide (nV st > 1))):=⟨rfl,rfl⟩
  generalize nV st=v at *
  cases odd with
  | true=>
    go_wp2
    go_ret
    have H:=HR1.out.set true
    refine ⟨ret_bool ?_,?_,H.c0⟩
    · rw [HE.out.1];rw [Bool.eq_iff_iff];simp
    · rw [HE.out.2];exact H
  | false=>
    go_wp2
    go_ret
    have H:=HR1.out.set (decide (v > 1))
    refine ⟨ret_bool ?_,?_,?_⟩
    · rw [HE.out.1];rw [Bool.eq_iff_iff];simp
    · rw [HE.out.2];simpa using H
    · simpa using H.c0
def aS (st:RS):RS:=nS (nS st)
set_option maxRecDepth 100000 in
set_option maxHeartbeats 1000000 in
theorem RdM.addr {w0 W:World} {r g lb:Nat} {odd:Bool} {st:RS} (h:RdM w0 W r g lb odd st) :
    Calls Tryz.prog 161 #[.pointer (some ⟨r,0,none⟩)] W fun e w'=>e=.returned (.agg #[.bool (fV st),.int .i64 (nV (nS st))])∧RdM w0 w' r g lb (fO odd st) (aS st)∧w'.cell? ⟨r,0,none⟩=some (.pointer (some ⟨g,0,none⟩)):=by
  have HR:Hid (RdM w0 W r g lb odd st):=h
  have q0:=h.c0
  have hn:=World.new_ne W ⟨r,0,none⟩ q0
  clear h
  go_enter Tryz.func161,Tryz.ntmps161
  go_upto_region 1 with fail
  obtain ⟨w1,hw1⟩:∃ w1,w1=W.alloc (.cells #[.bool false,.int .i64 0] 30):=⟨_,rfl⟩
  rw [← hw1]
  have hk1:Kept No W w1:=by rw [hw1];exact (Kept.refl No W).alloc _
  have HB1:Hid (Box w1 W.heap.size 30 #[.bool false,.int .i64 0]):=by rw [hw1];exact Box.new _ _ _
  have HR1:Hid (RdM w0 w1 r g lb odd st):=HR.out.no hk1
  have q1:=HR1.out.c0
  have HN:Hid (W.heap.size≠r∧W.heap.size≠g∧W.heap.size≠lb∧w0.heap.size≤W.heap.size):=⟨by have:=HR.out.ltr;omega,by have:=HR.out.ltg;omega,by have:=HR.out.ltl;omega,HR.out.kept.size⟩
  have HA:Hid (RdM w1 w1 r g lb odd st):=HR1.out.anew
  have HKs:Hid (Kept (fun k=>k=r∨k=g) w0 w1):=HR1.out.kept
  have n1:W.heap.size≠r:=HN.out.1
  have n2:r≠W.heap.size:=fun e=>n1 e.symm
  clear hk1 hw1 q0 HR HR1 hn
  go_region_held3 (fun w'=>w'.cell? ⟨r,0,none⟩=some (.pointer (some ⟨g,0,none⟩))) (go_keep) (first
    | (go_at_call 191;refine ((HA.out.no ((Kept.refl No _).drew)).flag).mono ?_;rintro e w2 ⟨rfl,hr2,q2⟩;have HR2:Hid (RdM w1 w2 r g lb (fO odd st) (nS st)):=hr2;clear hr2)
    | (go_at_call 160;refine (HR2.out.num).mono ?_;rintro e w3 ⟨rfl,hr3,q3⟩;have HR3:Hid (RdM w1 w3 r g lb (fO odd st) (nS (nS st))):=hr3;have HB3:Hid (Box w3 W.heap.size 30 #[.bool false,.int .i64 0]):=hr3.other HB1.out HN.out.1 HN.out.2.1;have b0:=HB3.out.cell 0;have b1:=HB3.out.cell 1;have f0:=HB3.out.frozen 0;have f1:=HB3.out.frozen 1;clear hr3))
  have HF:Hid (Box ((w3.setCell ⟨W.heap.size,0,none⟩ (.bool (fV st))).setCell ⟨W.heap.size,1,none⟩ (.int .i64 (nV (nS st)))) W.heap.size 30 #[.bool (fV st),.int .i64 (nV (nS st))]):=(HB3.out.set 0 _).set 1 _
  have HRF:Hid (RdM w0 ((w3.setCell ⟨W.heap.size,0,none⟩ (.bool (fV st))).setCell ⟨W.heap.size,1,none⟩ (.int .i64 (nV (nS st)))) r g lb (fO odd st) (aS st)):=by
    have hk:∀ (X:World) (i:Nat) (v:Value),Kept (Only W.heap.size) X (X.setCell ⟨W.heap.size,i,none⟩ v):=fun X i v=>(Kept.refl (Only W.heap.size) X).setCell (p:=⟨W.heap.size,i,none⟩) (fun _=>rfl) _
    exact (HR3.out.since HKs.out).apart ((hk w3 0 _).then (hk _ 1 _)) (fun e=>n2 e) (fun e=>HN.out.2.1 e.symm) (fun e=>HN.out.2.2.1 e.symm) (fun i hi e=>by have h1:=HN.out.2.2.2;have h2:i=W.heap.size:=e;omega)
  obtain ⟨w4,hw4⟩:∃ w4,w4=(w3.setCell ⟨W.heap.size,0,none⟩ (.bool (fV st))).setCell ⟨W.heap.size,1,none⟩ (.int .i64 (nV (nS st))):=⟨_,rfl⟩
  rw [← hw4] at HF HRF ⊢
  clear hw4
  have c0:=HF.out.cell 0
  have c1:=HF.out.cell 1
  simp at c0 c1
  go_wp2
  refine bodyPost_ret (results_cell_row (by rfl) _ w4 W.heap.size 30 #[.bool (fV st),.int .i64 (nV (nS st))] (0,0) _ (by rfl) HF.out Tryz.underlying30 rfl (by kernel_rfl)) rfl ?_
  exact ⟨rfl,HRF.out,HRF.out.c0⟩
end Go.Proofs.YtgdnofacgfjaeaaGreat.Wi
