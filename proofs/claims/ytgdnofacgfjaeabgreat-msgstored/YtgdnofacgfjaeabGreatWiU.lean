import Derived.Test.YtgdnofacgfjaeabGreatWiZl
import Derived.Deep.RegionHeld3
import Derived.Deep.Cut
import Derived.Test.YtgdnofacgfjaeabGreatWiCe
namespace Go.Proofs.YtgdnofacgfjaeabGreat.Wi
open Go.RowKit
set_option linter.unusedVariables false
structure RdM (w0 W:World) (r g lb:Nat) (odd:Bool) (st:RS):Prop where
  box:Box W r 140 #[.pointer (some ⟨g,0,none⟩),.bool odd]
  rs:Rs W g lb st
  rg:r≠g
  rl:r≠lb
  ltl:lb < W.heap.size
  kept:Kept (fun k=>k=r∨k=g) w0 W
theorem RdM.no {w0 W W':World} {r g lb:Nat} {odd:Bool} {st:RS} (h:RdM w0 W r g lb odd st) (hk:Kept No W W'):RdM w0 W' r g lb odd st:=
  ⟨h.box.kept hk (fun e=>e),h.rs.no hk,h.rg,h.rl,Nat.lt_of_lt_of_le h.ltl hk.size,h.kept.then hk.of_no⟩
theorem RdM.apart {S:Nat→Prop} {w0 W W':World} {r g lb:Nat} {odd:Bool} {st:RS} (h:RdM w0 W r g lb odd st) (hk:Kept S W W') (hr:¬ S r) (hg:¬ S g) (hl:¬ S lb) (hn:∀ i,i < w0.heap.size→¬ S i):RdM w0 W' r g lb odd st:=
  ⟨h.box.kept hk hr,h.rs.kept hk hg hl,h.rg,h.rl,Nat.lt_of_lt_of_le h.ltl hk.size,h.kept.trans hk (fun _ e=>e) (fun i hi e=>absurd e (hn i hi))⟩
theorem RdM.c0 {w0 W:World} {r g lb:Nat} {odd:Bool} {st:RS} (h:RdM w0 W r g lb odd st):W.cell? ⟨r,0,none⟩=some (.pointer (some ⟨g,0,none⟩)):=h.box.cell 0
theorem RdM.c1 {w0 W:World} {r g lb:Nat} {odd:Bool} {st:RS} (h:RdM w0 W r g lb odd st):W.cell? ⟨r,1,none⟩=some (.bool odd):=h.box.cell 1
theorem RdM.anew {w0 W:World} {r g lb:Nat} {odd:Bool} {st:RS} (h:RdM w0 W r g lb odd st):RdM W W r g lb odd st:=⟨h.box,h.rs,h.rg,h.rl,h.ltl,Kept.refl _ _⟩
theorem RdM.since {w0 w1 W:World} {r g lb:Nat} {odd:Bool} {st:RS} (h:RdM w1 W r g lb odd st) (hk:Kept (fun k=>k=r∨k=g) w0 w1):RdM w0 W r g lb odd st:=⟨h.box,h.rs,h.rg,h.rl,h.ltl,hk.then h.kept⟩
theorem RdM.other {w0 W:World} {r g lb:Nat} {odd:Bool} {st:RS} (h:RdM w0 W r g lb odd st) {b:Nat} {t:TypeId} {cs:Array Value} (hb:Box w0 b t cs) (h1:b≠r) (h2:b≠g):Box W b t cs:=hb.kept h.kept (fun e=>e.elim h1 h2)
theorem RdM.ltr {w0 W:World} {r g lb:Nat} {odd:Bool} {st:RS} (h:RdM w0 W r g lb odd st):r < W.heap.size:=h.box.lt
theorem RdM.ltg {w0 W:World} {r g lb:Nat} {odd:Bool} {st:RS} (h:RdM w0 W r g lb odd st):g < W.heap.size:=h.rs.lt
def nS (st:RS):RS:=(numS st).1
def nV (st:RS):Int:=(numS st).2
def fV (st:RS):Bool:=decide (nV st=1)
def fO (odd:Bool) (st:RS):Bool:=odd||decide (nV st > 1)
theorem RdM.num {w0 W:World} {r g lb:Nat} {odd:Bool} {st:RS} (h:RdM w0 W r g lb odd st) :
    Calls Tryz.prog 102 #[.pointer (some ⟨g,0,none⟩)] W fun e w'=>e=.returned (.int .i64 (nV st))∧RdM w0 w' r g lb odd (nS st)∧w'.cell? ⟨r,0,none⟩=some (.pointer (some ⟨g,0,none⟩)):=by
  refine (Num_all g lb st W h.rs).mono ?_
  rintro e w' ⟨rfl,h1,h2⟩
  have H:RdM w0 w' r g lb odd (nS st):=⟨h.box.kept h2 (fun e=>h.rg e),h1,h.rg,h.rl,Nat.lt_of_lt_of_le h.ltl h2.size,h.kept.then (h2.mono (fun i _ e=>.inr e))⟩
  exact ⟨rfl,H,H.c0⟩
theorem RdM.set {w0 W:World} {r g lb:Nat} {odd:Bool} {st:RS} (h:RdM w0 W r g lb odd st) (b:Bool):RdM w0 (W.setCell ⟨r,1,none⟩ (.bool b)) r g lb b st:=by
  have hk:Kept (Only r) W (W.setCell ⟨r,1,none⟩ (.bool b)):=(Kept.refl (Only r) W).setCell (p:=⟨r,1,none⟩) (fun _=>rfl) _
  exact ⟨h.box.set 1 _,h.rs.kept hk (fun e=>h.rg e.symm) (fun e=>h.rl e.symm),h.rg,h.rl,Nat.lt_of_lt_of_le h.ltl hk.size,h.kept.then (hk.mono (fun i _ e=>.inl e))⟩
set_option maxRecDepth 100000 in
set_option maxHeartbeats 1000000 in
theorem RdM.flag {w0 W:World} {r g lb:Nat} {odd:Bool} {st:RS} (h:RdM w0 W r g lb odd st) :
    Calls Tryz.prog 90 #[.pointer (some ⟨r,0,none⟩)] W fun e w'=>e=.returned (.bool (fV st))∧RdM w0 w' r g lb (fO odd st) (nS st)∧w'.cell? ⟨r,0,none⟩=some (.pointer (some ⟨g,0,none⟩)):=by
  have HR:Hid (RdM w0 W r g lb odd st):=h
  have q0:=h.c0
  clear h
  go_enter Tryz.func90,Tryz.ntmps90
  go_wp2_with fail
  refine HR.out.num.mono ?_
  rintro e w1 ⟨rfl,hr,q1⟩
  have HR1:Hid (RdM w0 w1 r g lb odd (nS st)):=hr
  have q2:=hr.c1
  have q3:=hr.box.frozen 1
  clear hr q0 HR
  have HE:Hid (fV st=decide (nV st=1)∧fO odd st=(odd||decide (nV st > 1))):=⟨rfl,rfl⟩
  generalize nV st=v at *
  cases odd with
  | true=>
    go_wp2
    go_ret
    have H:=HR1.out.set true
    refine ⟨ret_bool ?_,?_,H.c0⟩
    · rw [HE.out.1];rw [Bool.eq_iff_iff];simp
    · rw [HE.out.2];exact H
  | false=>
    go_wp2
    go_ret
    have H:=HR1.out.set (decide (v > 1))
    refine ⟨ret_bool ?_,?_,?_⟩
    · rw [HE.out.1];rw [Bool.eq_iff_iff];simp
    · rw [HE.out.2];simpa using H
    · simpa using H.c0
def aS (st:RS):RS:=nS (nS st)
set_option maxRecDepth 100000 in
set_option maxHeartbeats 1000000 in
theorem RdM.addr {w0 W:World} {r g lb:Nat} {odd:Bool} {st:RS} (h:RdM w0 W r g lb odd st) :
    Calls Tryz.prog 114 #[.pointer (some ⟨r,0,none⟩)] W fun e w'=>e=.returned (.agg #[.bool (fV st),.int .i64 (nV (nS st))])∧RdM w0 w' r g lb (fO odd st) (aS st)∧w'.cell? ⟨r,0,none⟩=some (.pointer (some ⟨g,0,none⟩)):=by
  have HR:Hid (RdM w0 W r g lb odd st):=h
  have q0:=h.c0
  have hn:=World.new_ne W ⟨r,0,none⟩ q0
  clear h
  go_enter Tryz.func114,Tryz.ntmps114
  go_upto_region 1 with fail
  obtain ⟨w1,hw1⟩:∃ w1,w1=W.alloc (.cells #[.bool false,.int .i64 0] 66):=⟨_,rfl⟩
  rw [← hw1]
  have hk1:Kept No W w1:=by rw [hw1];exact (Kept.refl No W).alloc _
  have HB1:Hid (Box w1 W.heap.size 66 #[.bool false,.int .i64 0]):=by rw [hw1];exact Box.new _ _ _
  have HR1:Hid (RdM w0 w1 r g lb odd st):=HR.out.no hk1
  have q1:=HR1.out.c0
  have HN:Hid (W.heap.size≠r∧W.heap.size≠g∧W.heap.size≠lb∧w0.heap.size≤W.heap.size):=⟨by have:=HR.out.ltr;omega,by have:=HR.out.ltg;omega,by have:=HR.out.ltl;omega,HR.out.kept.size⟩
  have HA:Hid (RdM w1 w1 r g lb odd st):=HR1.out.anew
  have HKs:Hid (Kept (fun k=>k=r∨k=g) w0 w1):=HR1.out.kept
  have n1:W.heap.size≠r:=HN.out.1
  have n2:r≠W.heap.size:=fun e=>n1 e.symm
  clear hk1 hw1 q0 HR HR1 hn
  go_region_held3 (fun w'=>w'.cell? ⟨r,0,none⟩=some (.pointer (some ⟨g,0,none⟩))) (go_keep) (first
    | (go_at_call 90;refine ((HA.out.no ((Kept.refl No _).drew)).flag).mono ?_;rintro e w2 ⟨rfl,hr2,q2⟩;have HR2:Hid (RdM w1 w2 r g lb (fO odd st) (nS st)):=hr2;clear hr2)
    | (go_at_call 102;refine (HR2.out.num).mono ?_;rintro e w3 ⟨rfl,hr3,q3⟩;have HR3:Hid (RdM w1 w3 r g lb (fO odd st) (nS (nS st))):=hr3;have HB3:Hid (Box w3 W.heap.size 66 #[.bool false,.int .i64 0]):=hr3.other HB1.out HN.out.1 HN.out.2.1;have b0:=HB3.out.cell 0;have b1:=HB3.out.cell 1;have f0:=HB3.out.frozen 0;have f1:=HB3.out.frozen 1;clear hr3))
  have HF:Hid (Box ((w3.setCell ⟨W.heap.size,0,none⟩ (.bool (fV st))).setCell ⟨W.heap.size,1,none⟩ (.int .i64 (nV (nS st)))) W.heap.size 66 #[.bool (fV st),.int .i64 (nV (nS st))]):=(HB3.out.set 0 _).set 1 _
  have HRF:Hid (RdM w0 ((w3.setCell ⟨W.heap.size,0,none⟩ (.bool (fV st))).setCell ⟨W.heap.size,1,none⟩ (.int .i64 (nV (nS st)))) r g lb (fO odd st) (aS st)):=by
    have hk:∀ (X:World) (i:Nat) (v:Value),Kept (Only W.heap.size) X (X.setCell ⟨W.heap.size,i,none⟩ v):=fun X i v=>(Kept.refl (Only W.heap.size) X).setCell (p:=⟨W.heap.size,i,none⟩) (fun _=>rfl) _
    exact (HR3.out.since HKs.out).apart ((hk w3 0 _).then (hk _ 1 _)) (fun e=>n2 e) (fun e=>HN.out.2.1 e.symm) (fun e=>HN.out.2.2.1 e.symm) (fun i hi e=>by have h1:=HN.out.2.2.2;have h2:i=W.heap.size:=e;omega)
  obtain ⟨w4,hw4⟩:∃ w4,w4=(w3.setCell ⟨W.heap.size,0,none⟩ (.bool (fV st))).setCell ⟨W.heap.size,1,none⟩ (.int .i64 (nV (nS st))):=⟨_,rfl⟩
  rw [← hw4] at HF HRF ⊢
  clear hw4
  have c0:=HF.out.cell 0
  have c1:=HF.out.cell 1
  simp at c0 c1
  go_wp2
  refine bodyPost_ret (results_cell_row (by rfl) _ w4 W.heap.size 66 #[.bool (fV st),.int .i64 (nV (nS st))] (0,0) _ (by rfl) HF.out Tryz.underlying66 rfl (by kernel_rfl)) rfl ?_
  exact ⟨rfl,HRF.out,HRF.out.c0⟩
def mZ:MsgD:=⟨0,false,0,false,0,0,0,0,0,0,0,0,0,0,0,none,0,0,0,0,0,ByteArray.empty,0,0,0,0,0,0,none,0,0,none,0,0,none,0,0,false⟩
theorem Tryz.info45z:(Tryz.prog.info? 71).bind (·.zero)=some (.agg mZ.cells):=by kernel_rfl
theorem zero_of {t:TypeId} {z:Value} (h:(Tryz.prog.info? t).bind (·.zero)=some z) (w:World):(zeroValue t).run Tryz.prog w=.ok z w:=by
  cases hi:Tryz.prog.info? t with
  | none=>rw [hi] at h;cases h
  | some i=>
    rw [hi] at h
    simp only[Option.bind_some] at h
    simp [zeroValue,typeInfo,hi,h]
section
variable {ops:Array Oper} {rest:List Oper} {o:Oper} {a:Act} {w:World} {Q:Exit→Act→World→Prop}
theorem wp_allocT (hg:o.guard=none) (t:TypeId) (ho:o.op=.alloc t) (cs:Array Value) (hz:(Tryz.prog.info? t).bind (·.zero)=some (.agg cs)) (N:Nat) (hN:w.heap.size=N)
    (h:wpList Tryz.prog ops Q rest (a.put o.dst (.pointer (some ⟨N,0,none⟩))) (w.alloc (.cells cs t))):wpList Tryz.prog ops Q (o :: rest) a w:=by
  subst hN
  refine wp_runTo hg _ (w.alloc (.cells cs t)) ?_ h
  simp only[execOp,ho,Instr.alloc,Sem.run_bind,zero_of hz,Result.andThen_ok,newVar,newRow,run_newObj_alloc,Sem.run_pure]
  rfl
end
theorem run_zero71 (w:World):(zeroValue 71).run Tryz.prog w=.ok (.agg mZ.cells) w:=zero_of Tryz.info45z w
theorem Box.setRow {w:World} {g:Nat} {t:TypeId} {old:Array Value} (h:Box w g t old) (cs:Array Value):Box (w.setRow g cs) g t cs:=setRow_heap w g old cs t (0,0) h
theorem Kept.setRow (w:World) (g:Nat) (cs:Array Value):Kept (Only g) w (w.setRow g cs):=
  ⟨rfl,rfl,rfl,by simp [World.setRow],fun k _ hk=>setRow_other w g k cs hk⟩
theorem cell_setRow (w:World) (g:Nat) (cs:Array Value) (b i:Nat) (h:b≠g):(w.setRow g cs).cell? ⟨b,i,none⟩=w.cell? ⟨b,i,none⟩:=by
  unfold World.cell?
  simp only[]
  rw [setRow_other w g b cs h]
theorem MsgD.one (m:MsgD):m.cells.all (·.oneCell')=true:=by simp [MsgD.cells,Value.oneCell']
theorem run_store71 (m:MsgD) (g:Nat) (w:World) (hb:Box w g 71 mZ.cells) :
    (storeVar 71 ⟨g,0,none⟩ (.agg m.cells)).run Tryz.prog w=.ok () (w.setRow g m.cells):=
  run_storeVar_row w g 71 71 mZ.cells _ hb Tryz.size71 rfl m.one
theorem run_cells71 (m:MsgD) (g:Nat) (w:World) (hb:Box w g 71 mZ.cells) :
    (storeCells ⟨g,0,none⟩ m.cells.toList).run Tryz.prog w=.ok () (w.setRow g m.cells):=by
  have:=run_storeCells_from (P:=Tryz.prog) g 71 m.cells.toList 0 mZ.cells w hb (by simp [MsgD.cells]) (fun v hv=>(Array.all_eq_true_iff_forall_mem.1 m.one) v (by simpa using hv))
  rw [this]
  simp only[List.take_zero,List.nil_append,Array.toArray_toList]
theorem mZ_size:mZ.cells.size=30:=rfl
theorem mZ_ne:(mZ.cells=#[])=False:=eq_false (fun e=>by have:=congrArg Array.size e;rw [mZ_size] at this;cases this)
theorem build71 (a0:Int) (a1:Bool) (a2:Int) (a3:Bool) (a4 a5 a6 a7 a8 a9 a10:Int):((((((((((mZ.cells.setIfInBounds 0 (.int .i64 a0)).setIfInBounds 1 (.bool a1)).setIfInBounds 2 (.int .i64 a2)).setIfInBounds 3 (.bool a3)).setIfInBounds 4 (.int .i64 a4)).setIfInBounds 5 (.int .i64 a5)).setIfInBounds 6 (.int .i64 a6)).setIfInBounds 7 (.int .i64 a7)).setIfInBounds 8 (.int .i64 a8)).setIfInBounds 9 (.int .i64 a9)).setIfInBounds 10 (.int .i64 a10)=MsgD.cells { mZ with kind:=a0,fc:=a1,fi:=a2,tc:=a3,ti:=a4,op:=a5,rd:=a6,kk:=a7,ka:=a8,kb:=a9,kc:=a10 }:=by kernel_rfl
theorem box_new (w:World) (cs:Array Value) (t:TypeId):Box (w.alloc (.cells cs t)) w.heap.size t cs:=Box.new _ _ _
set_option maxRecDepth 100000
set_option maxHeartbeats 4000000
def zB:Array Value:=#[.int .i64 0,.int .i64 0,.slice none 0 0]
def zI:Array Value:=#[.int .i64 0,.int .i64 0,.int .i64 0,.int .i64 0,.int .i64 0,.int .i64 0,.int .i64 0,.string ByteArray.empty,.int .i64 0,.int .i64 0,.int .i64 0,.int .i64 0,.int .i64 0,.bool false]
def zK:Array Value:=#[.int .i64 0,.slice none 0 0,.slice none 0 0]
theorem zB_one:zB.all (·.oneCell')=true:=by simp [zB,Value.oneCell']
theorem zI_one:zI.all (·.oneCell')=true:=by simp [zI,Value.oneCell']
theorem zK_one:zK.all (·.oneCell')=true:=by simp [zK,Value.oneCell']
theorem results_row_tmp {fn:Func} {p u:Tmp} {t:TypeId} (h:fn.results=#[.cell p t,.tmp u]) (tmps:Array Value) (w:World) (g:Nat) (cs:Array Value) (hp:tmps.getD p undef=.pointer (some ⟨g,0,none⟩)) (hrun:(loadVar t ⟨g,0,none⟩).run Tryz.prog w=.ok (.agg cs) w) :
    (results fn tmps).run Tryz.prog w=.ok (.tuple #[.agg cs,tmps.getD u undef]) w:=by
  rw [results_cell_tmp h,hp]
  simp [asAddr,hrun,Result.andThen]
theorem load71_run {w:World} {g:Nat} {cs:Array Value} (hb:Box w g 71 cs) (hl:cs.size=30):(loadVar 71 ⟨g,0,none⟩).run Tryz.prog w=.ok (.agg cs) w:=
  run_loadVar_row w g 71 71 cs (0,0) _ hb Tryz.underlying71 rfl (by rw [hl];exact Tryz.size71)
theorem Tryz.info73z:(Tryz.prog.info? 37).bind (·.zero)=some (.agg zB):=by kernel_rfl
theorem load37_run {w:World} {g:Nat} {cs:Array Value} (hb:Box w g 37 cs) (hl:cs.size=3):(loadVar 37 ⟨g,0,none⟩).run Tryz.prog w=.ok (.agg cs) w:=
  run_loadVar_row w g 37 37 cs (0,0) _ hb Tryz.underlying37 rfl (by rw [hl];exact Tryz.size37)
theorem Tryz.info78z:(Tryz.prog.info? 47).bind (·.zero)=some (.agg zI):=by kernel_rfl
theorem load47_run {w:World} {g:Nat} {cs:Array Value} (hb:Box w g 47 cs) (hl:cs.size=14):(loadVar 47 ⟨g,0,none⟩).run Tryz.prog w=.ok (.agg cs) w:=
  run_loadVar_row w g 47 47 cs (0,0) _ hb Tryz.underlying47 rfl (by rw [hl];exact Tryz.size47)
theorem Tryz.info43z:(Tryz.prog.info? 54).bind (·.zero)=some (.agg zK):=by kernel_rfl
theorem load54_run {w:World} {g:Nat} {cs:Array Value} (hb:Box w g 54 cs) (hl:cs.size=3):(loadVar 54 ⟨g,0,none⟩).run Tryz.prog w=.ok (.agg cs) w:=
  run_loadVar_row w g 54 54 cs (0,0) _ hb Tryz.underlying54 rfl (by rw [hl];exact Tryz.size54)
theorem unpackBlock_no (ba:Option Addr) (bn bc:Nat) (rv fv:Value) (r:Int) (sa:Option Addr) (sn sc:Nat) (zs:List Int) (f p bu bl ro:Int) (w:World) (h:Cfg w sa sn sc zs) (hno:cfgB zs f p bu bl ro=false) :
    Calls Tryz.prog 39 #[.slice ba bn bc,cfgV (.slice sa sn sc) f p bu bl ro,rv,fv,.int .i64 r] w fun e w'=>e=.returned (.tuple #[.agg zB,.int .i64 20])∧Kept No w w':=by
  have HC:Hid (Cfg w sa sn sc zs):=h
  have HN:Hid (cfgB zs f p bu bl ro=false):=hno
  clear h hno
  have TA:Hid (1=1):=rfl
  have TB:Hid (1=1):=rfl
  go_enter Tryz.func39,Tryz.ntmps39
  go_upto_region 2 with (first
    | (have hguard:=TA;clear hguard;refine wp_allocT rfl 37 rfl zB Tryz.info73z (w.heap.size+1) (by simp) ?_;clear TA)
    | (have hguard:=TB;clear hguard;refine wp_allocT rfl 37 rfl zB Tryz.info73z (w.heap.size+1+1) (by simp) ?_;clear TB))
  obtain ⟨w3,hw3⟩:∃ w3,w3=((w.alloc (.cells #[.slice sa sn sc,.int .i64 f,.int .i64 p,.int .i64 bu,.int .i64 bl,.int .i64 ro] 24)).alloc (.cells zB 37)).alloc (.cells zB 37):=⟨_,rfl⟩
  rw [← hw3]
  have HK3:Hid (Kept No w w3):=by rw [hw3];exact (((Kept.refl No w).alloc _).alloc _).alloc _
  have HC3:Hid (Box w3 w.heap.size 24 #[.slice sa sn sc,.int .i64 f,.int .i64 p,.int .i64 bu,.int .i64 bl,.int .i64 ro]):=by rw [hw3];exact ((Box.new w 24 _).alloc _).alloc _
  have HA3:Hid (Box w3 (w.heap.size+1) 37 zB):=by
    show Box _ _ _ _
    rw [hw3]
    have:=(Box.new (w.alloc (.cells #[.slice sa sn sc,.int .i64 f,.int .i64 p,.int .i64 bu,.int .i64 bl,.int .i64 ro] 24)) 37 zB).alloc (.cells zB 37)
    simpa using this
  have HZ3:Hid (Box w3 (w.heap.size+1+1) 37 zB):=by
    show Box _ _ _ _
    rw [hw3]
    have:=Box.new ((w.alloc (.cells #[.slice sa sn sc,.int .i64 f,.int .i64 p,.int .i64 bu,.int .i64 bl,.int .i64 ro] 24)).alloc (.cells zB 37)) 37 zB
    simpa using this
  clear hw3
  try simp only[Act.put,List.setIfInBounds_toArray,List.set_cons_zero,List.set_cons_succ]
  have q0:=HC3.out.cell 0
  have q1:=HC3.out.cell 1
  have q2:=HC3.out.cell 2
  have q3:=HC3.out.cell 3
  have q4:=HC3.out.cell 4
  have q5:=HC3.out.cell 5
  simp at q0 q1 q2 q3 q4 q5
  go_wp2_with fail
  refine ((HC.out.no HK3.out).right f p bu bl ro).mono ?_
  rintro e w4 ⟨rfl,hk4⟩
  have HK4:Hid (Kept No w w4):=HK3.out.then hk4
  have HA4:Hid (Box w4 (w.heap.size+1) 37 zB):=HA3.out.kept hk4 (fun e=>e)
  have HZ4:Hid (Box w4 (w.heap.size+1+1) 37 zB):=HZ3.out.kept hk4 (fun e=>e)
  have HC4:Hid (Box w4 w.heap.size 24 #[.slice sa sn sc,.int .i64 f,.int .i64 p,.int .i64 bu,.int .i64 bl,.int .i64 ro]):=HC3.out.kept hk4 (fun e=>e)
  clear hk4 q0 q1 q2 q3 q4 q5 HK3 HA3 HZ3 HC3
  rw [HN.out]
  have TL:Hid (1=1):=rfl
  have TS:Hid (1=1):=rfl
  go_wp2_with (first
    | (have hguard:=TL;clear hguard;refine wp_load37 rfl _ rfl (w.heap.size+1+1) zB rfl rfl HZ4.out ?_;clear TL)
    | (have hguard:=TS;clear hguard;refine wpList_store_row rfl 37 _ _ rfl (w.heap.size+1) zB (by rfl) (by rfl) 37 zB HA4.out Tryz.size37 (by rfl) zB_one ?_;clear TS))
  have HF:Hid (Box (w4.setRow (w.heap.size+1) zB) (w.heap.size+1) 37 zB):=HA4.out.setRow _
  refine bodyPost_ret (results_row_tmp (by rfl) _ _ (w.heap.size+1) zB (by rfl) (load37_run HF.out rfl)) rfl ?_
  exact ⟨rfl,HK4.out.fresh (Kept.setRow _ _ _) (fun i e=>by unfold Only at e;omega)⟩
theorem unpackBlock_shut (ba:Option Addr) (bn bc:Nat) (ys:List Int) (rv fv:Value) (r:Int) (sa:Option Addr) (sn sc:Nat) (zs:List Int) (f p bu bl ro:Int) (w:World) (h:Cfg w sa sn sc zs) (hyes:cfgB zs f p bu bl ro=true) (hs:Sl w ba bn bc ys) (ho:(openOf ys).2≠0) :
    Calls Tryz.prog 39 #[.slice ba bn bc,cfgV (.slice sa sn sc) f p bu bl ro,rv,fv,.int .i64 r] w fun e w'=>e=.returned (.tuple #[.agg zB,.int .i64 (openOf ys).2])∧Kept No w w':=by
  have HC:Hid (Cfg w sa sn sc zs):=h
  have HN:Hid (cfgB zs f p bu bl ro=true):=hyes
  have HS:Hid (Sl w ba bn bc ys):=hs
  clear h hyes hs
  have TA:Hid (1=1):=rfl
  have TB:Hid (1=1):=rfl
  go_enter Tryz.func39,Tryz.ntmps39
  go_upto_region 2 with (first
    | (have hguard:=TA;clear hguard;refine wp_allocT rfl 37 rfl zB Tryz.info73z (w.heap.size+1) (by simp) ?_;clear TA)
    | (have hguard:=TB;clear hguard;refine wp_allocT rfl 37 rfl zB Tryz.info73z (w.heap.size+1+1) (by simp) ?_;clear TB))
  obtain ⟨w3,hw3⟩:∃ w3,w3=((w.alloc (.cells #[.slice sa sn sc,.int .i64 f,.int .i64 p,.int .i64 bu,.int .i64 bl,.int .i64 ro] 24)).alloc (.cells zB 37)).alloc (.cells zB 37):=⟨_,rfl⟩
  rw [← hw3]
  have HK3:Hid (Kept No w w3):=by rw [hw3];exact (((Kept.refl No w).alloc _).alloc _).alloc _
  have HC3:Hid (Box w3 w.heap.size 24 #[.slice sa sn sc,.int .i64 f,.int .i64 p,.int .i64 bu,.int .i64 bl,.int .i64 ro]):=by rw [hw3];exact ((Box.new w 24 _).alloc _).alloc _
  have HA3:Hid (Box w3 (w.heap.size+1) 37 zB):=by
    show Box _ _ _ _
    rw [hw3]
    have:=(Box.new (w.alloc (.cells #[.slice sa sn sc,.int .i64 f,.int .i64 p,.int .i64 bu,.int .i64 bl,.int .i64 ro] 24)) 37 zB).alloc (.cells zB 37)
    simpa using this
  have HZ3:Hid (Box w3 (w.heap.size+1+1) 37 zB):=by
    show Box _ _ _ _
    rw [hw3]
    have:=Box.new ((w.alloc (.cells #[.slice sa sn sc,.int .i64 f,.int .i64 p,.int .i64 bu,.int .i64 bl,.int .i64 ro] 24)).alloc (.cells zB 37)) 37 zB
    simpa using this
  clear hw3
  try simp only[Act.put,List.setIfInBounds_toArray,List.set_cons_zero,List.set_cons_succ]
  have q0:=HC3.out.cell 0
  have q1:=HC3.out.cell 1
  have q2:=HC3.out.cell 2
  have q3:=HC3.out.cell 3
  have q4:=HC3.out.cell 4
  have q5:=HC3.out.cell 5
  simp at q0 q1 q2 q3 q4 q5
  go_wp2_with fail
  refine ((HC.out.no HK3.out).right f p bu bl ro).mono ?_
  rintro e w4 ⟨rfl,hk4⟩
  have HK4:Hid (Kept No w w4):=HK3.out.then hk4
  have HA4:Hid (Box w4 (w.heap.size+1) 37 zB):=HA3.out.kept hk4 (fun e=>e)
  have HZ4:Hid (Box w4 (w.heap.size+1+1) 37 zB):=HZ3.out.kept hk4 (fun e=>e)
  have HC4:Hid (Box w4 w.heap.size 24 #[.slice sa sn sc,.int .i64 f,.int .i64 p,.int .i64 bu,.int .i64 bl,.int .i64 ro]):=HC3.out.kept hk4 (fun e=>e)
  clear hk4 q0 q1 q2 q3 q4 q5 HK3 HA3 HZ3 HC3
  rw [HN.out]
  have HO:Hid (Calls Tryz.prog 79 #[.slice ba bn bc] w4 (Opens w4 ys)):=open_sl (HS.out.no HK4.out)
  generalize hov:(openOf ys).2=ov at *
  have HOV:Hid ((openOf ys).2=ov):=hov
  clear hov
  go_wp2_with fail
  refine HO.out.mono ?_
  rintro e w5 ⟨a5,n5,c5,he,-,-,hk5⟩
  rw [HOV.out] at he
  subst he
  have HK5:Hid (Kept No w w5):=HK4.out.then hk5
  have HA5:Hid (Box w5 (w.heap.size+1) 37 zB):=HA4.out.kept hk5 (fun e=>e)
  have HZ5:Hid (Box w5 (w.heap.size+1+1) 37 zB):=HZ4.out.kept hk5 (fun e=>e)
  clear hk5 HO HA4 HZ4 HC4 HK4
  have TL:Hid (1=1):=rfl
  have TS:Hid (1=1):=rfl
  go_wp2_with (first
    | (have hguard:=TL;clear hguard;refine wp_load37 rfl _ rfl (w.heap.size+1+1) zB rfl rfl HZ5.out ?_;clear TL)
    | (have hguard:=TS;clear hguard;refine wpList_store_row rfl 37 _ _ rfl (w.heap.size+1) zB (by rfl) (by rfl) 37 zB HA5.out Tryz.size37 (by rfl) zB_one ?_;clear TS))
  have HF:Hid (Box (w5.setRow (w.heap.size+1) zB) (w.heap.size+1) 37 zB):=HA5.out.setRow _
  refine bodyPost_ret (results_row_tmp (by rfl) _ _ (w.heap.size+1) zB (by rfl) (load37_run HF.out rfl)) rfl ?_
  exact ⟨by rw [HOV.out];rfl,HK5.out.fresh (Kept.setRow _ _ _) (fun i e=>by unfold Only at e;omega)⟩
theorem unpackInst_no (ba:Option Addr) (bn bc:Nat) (rv fv:Value) (r:Int) (sa:Option Addr) (sn sc:Nat) (zs:List Int) (f p bu bl ro:Int) (w:World) (h:Cfg w sa sn sc zs) (hno:cfgB zs f p bu bl ro=false) :
    Calls Tryz.prog 44 #[.slice ba bn bc,cfgV (.slice sa sn sc) f p bu bl ro,rv,fv,.int .i64 r] w fun e w'=>e=.returned (.tuple #[.agg zI,.int .i64 20])∧Kept No w w':=by
  have HC:Hid (Cfg w sa sn sc zs):=h
  have HN:Hid (cfgB zs f p bu bl ro=false):=hno
  clear h hno
  have TA:Hid (1=1):=rfl
  have TB:Hid (1=1):=rfl
  go_enter Tryz.func44,Tryz.ntmps44
  go_upto_region 2 with (first
    | (have hguard:=TA;clear hguard;refine wp_allocT rfl 47 rfl zI Tryz.info78z (w.heap.size+1) (by simp) ?_;clear TA)
    | (have hguard:=TB;clear hguard;refine wp_allocT rfl 47 rfl zI Tryz.info78z (w.heap.size+1+1) (by simp) ?_;clear TB))
  obtain ⟨w3,hw3⟩:∃ w3,w3=((w.alloc (.cells #[.slice sa sn sc,.int .i64 f,.int .i64 p,.int .i64 bu,.int .i64 bl,.int .i64 ro] 24)).alloc (.cells zI 47)).alloc (.cells zI 47):=⟨_,rfl⟩
  rw [← hw3]
  have HK3:Hid (Kept No w w3):=by rw [hw3];exact (((Kept.refl No w).alloc _).alloc _).alloc _
  have HC3:Hid (Box w3 w.heap.size 24 #[.slice sa sn sc,.int .i64 f,.int .i64 p,.int .i64 bu,.int .i64 bl,.int .i64 ro]):=by rw [hw3];exact ((Box.new w 24 _).alloc _).alloc _
  have HA3:Hid (Box w3 (w.heap.size+1) 47 zI):=by
    show Box _ _ _ _
    rw [hw3]
    have:=(Box.new (w.alloc (.cells #[.slice sa sn sc,.int .i64 f,.int .i64 p,.int .i64 bu,.int .i64 bl,.int .i64 ro] 24)) 47 zI).alloc (.cells zI 47)
    simpa using this
  have HZ3:Hid (Box w3 (w.heap.size+1+1) 47 zI):=by
    show Box _ _ _ _
    rw [hw3]
    have:=Box.new ((w.alloc (.cells #[.slice sa sn sc,.int .i64 f,.int .i64 p,.int .i64 bu,.int .i64 bl,.int .i64 ro] 24)).alloc (.cells zI 47)) 47 zI
    simpa using this
  clear hw3
  try simp only[Act.put,List.setIfInBounds_toArray,List.set_cons_zero,List.set_cons_succ]
  have q0:=HC3.out.cell 0
  have q1:=HC3.out.cell 1
  have q2:=HC3.out.cell 2
  have q3:=HC3.out.cell 3
  have q4:=HC3.out.cell 4
  have q5:=HC3.out.cell 5
  simp at q0 q1 q2 q3 q4 q5
  go_wp2_with fail
  refine ((HC.out.no HK3.out).right f p bu bl ro).mono ?_
  rintro e w4 ⟨rfl,hk4⟩
  have HK4:Hid (Kept No w w4):=HK3.out.then hk4
  have HA4:Hid (Box w4 (w.heap.size+1) 47 zI):=HA3.out.kept hk4 (fun e=>e)
  have HZ4:Hid (Box w4 (w.heap.size+1+1) 47 zI):=HZ3.out.kept hk4 (fun e=>e)
  have HC4:Hid (Box w4 w.heap.size 24 #[.slice sa sn sc,.int .i64 f,.int .i64 p,.int .i64 bu,.int .i64 bl,.int .i64 ro]):=HC3.out.kept hk4 (fun e=>e)
  clear hk4 q0 q1 q2 q3 q4 q5 HK3 HA3 HZ3 HC3
  rw [HN.out]
  have TL:Hid (1=1):=rfl
  have TS:Hid (1=1):=rfl
  go_wp2_with (first
    | (have hguard:=TL;clear hguard;refine wp_load47 rfl _ rfl (w.heap.size+1+1) zI rfl rfl HZ4.out ?_;clear TL)
    | (have hguard:=TS;clear hguard;refine wpList_store_row rfl 47 _ _ rfl (w.heap.size+1) zI (by rfl) (by rfl) 47 zI HA4.out Tryz.size47 (by rfl) zI_one ?_;clear TS))
  have HF:Hid (Box (w4.setRow (w.heap.size+1) zI) (w.heap.size+1) 47 zI):=HA4.out.setRow _
  refine bodyPost_ret (results_row_tmp (by rfl) _ _ (w.heap.size+1) zI (by rfl) (load47_run HF.out rfl)) rfl ?_
  exact ⟨rfl,HK4.out.fresh (Kept.setRow _ _ _) (fun i e=>by unfold Only at e;omega)⟩
theorem unpackInst_shut (ba:Option Addr) (bn bc:Nat) (ys:List Int) (rv fv:Value) (r:Int) (sa:Option Addr) (sn sc:Nat) (zs:List Int) (f p bu bl ro:Int) (w:World) (h:Cfg w sa sn sc zs) (hyes:cfgB zs f p bu bl ro=true) (hs:Sl w ba bn bc ys) (ho:(openOf ys).2≠0) :
    Calls Tryz.prog 44 #[.slice ba bn bc,cfgV (.slice sa sn sc) f p bu bl ro,rv,fv,.int .i64 r] w fun e w'=>e=.returned (.tuple #[.agg zI,.int .i64 (openOf ys).2])∧Kept No w w':=by
  have HC:Hid (Cfg w sa sn sc zs):=h
  have HN:Hid (cfgB zs f p bu bl ro=true):=hyes
  have HS:Hid (Sl w ba bn bc ys):=hs
  clear h hyes hs
  have TA:Hid (1=1):=rfl
  have TB:Hid (1=1):=rfl
  go_enter Tryz.func44,Tryz.ntmps44
  go_upto_region 2 with (first
    | (have hguard:=TA;clear hguard;refine wp_allocT rfl 47 rfl zI Tryz.info78z (w.heap.size+1) (by simp) ?_;clear TA)
    | (have hguard:=TB;clear hguard;refine wp_allocT rfl 47 rfl zI Tryz.info78z (w.heap.size+1+1) (by simp) ?_;clear TB))
  obtain ⟨w3,hw3⟩:∃ w3,w3=((w.alloc (.cells #[.slice sa sn sc,.int .i64 f,.int .i64 p,.int .i64 bu,.int .i64 bl,.int .i64 ro] 24)).alloc (.cells zI 47)).alloc (.cells zI 47):=⟨_,rfl⟩
  rw [← hw3]
  have HK3:Hid (Kept No w w3):=by rw [hw3];exact (((Kept.refl No w).alloc _).alloc _).alloc _
  have HC3:Hid (Box w3 w.heap.size 24 #[.slice sa sn sc,.int .i64 f,.int .i64 p,.int .i64 bu,.int .i64 bl,.int .i64 ro]):=by rw [hw3];exact ((Box.new w 24 _).alloc _).alloc _
  have HA3:Hid (Box w3 (w.heap.size+1) 47 zI):=by
    show Box _ _ _ _
    rw [hw3]
    have:=(Box.new (w.alloc (.cells #[.slice sa sn sc,.int .i64 f,.int .i64 p,.int .i64 bu,.int .i64 bl,.int .i64 ro] 24)) 47 zI).alloc (.cells zI 47)
    simpa using this
  have HZ3:Hid (Box w3 (w.heap.size+1+1) 47 zI):=by
    show Box _ _ _ _
    rw [hw3]
    have:=Box.new ((w.alloc (.cells #[.slice sa sn sc,.int .i64 f,.int .i64 p,.int .i64 bu,.int .i64 bl,.int .i64 ro] 24)).alloc (.cells zI 47)) 47 zI
    simpa using this
  clear hw3
  try simp only[Act.put,List.setIfInBounds_toArray,List.set_cons_zero,List.set_cons_succ]
  have q0:=HC3.out.cell 0
  have q1:=HC3.out.cell 1
  have q2:=HC3.out.cell 2
  have q3:=HC3.out.cell 3
  have q4:=HC3.out.cell 4
  have q5:=HC3.out.cell 5
  simp at q0 q1 q2 q3 q4 q5
  go_wp2_with fail
  refine ((HC.out.no HK3.out).right f p bu bl ro).mono ?_
  rintro e w4 ⟨rfl,hk4⟩
  have HK4:Hid (Kept No w w4):=HK3.out.then hk4
  have HA4:Hid (Box w4 (w.heap.size+1) 47 zI):=HA3.out.kept hk4 (fun e=>e)
  have HZ4:Hid (Box w4 (w.heap.size+1+1) 47 zI):=HZ3.out.kept hk4 (fun e=>e)
  have HC4:Hid (Box w4 w.heap.size 24 #[.slice sa sn sc,.int .i64 f,.int .i64 p,.int .i64 bu,.int .i64 bl,.int .i64 ro]):=HC3.out.kept hk4 (fun e=>e)
  clear hk4 q0 q1 q2 q3 q4 q5 HK3 HA3 HZ3 HC3
  rw [HN.out]
  have HO:Hid (Calls Tryz.prog 79 #[.slice ba bn bc] w4 (Opens w4 ys)):=open_sl (HS.out.no HK4.out)
  generalize hov:(openOf ys).2=ov at *
  have HOV:Hid ((openOf ys).2=ov):=hov
  clear hov
  go_wp2_with fail
  refine HO.out.mono ?_
  rintro e w5 ⟨a5,n5,c5,he,-,-,hk5⟩
  rw [HOV.out] at he
  subst he
  have HK5:Hid (Kept No w w5):=HK4.out.then hk5
  have HA5:Hid (Box w5 (w.heap.size+1) 47 zI):=HA4.out.kept hk5 (fun e=>e)
  have HZ5:Hid (Box w5 (w.heap.size+1+1) 47 zI):=HZ4.out.kept hk5 (fun e=>e)
  clear hk5 HO HA4 HZ4 HC4 HK4
  have TL:Hid (1=1):=rfl
  have TS:Hid (1=1):=rfl
  go_wp2_with (first
    | (have hguard:=TL;clear hguard;refine wp_load47 rfl _ rfl (w.heap.size+1+1) zI rfl rfl HZ5.out ?_;clear TL)
    | (have hguard:=TS;clear hguard;refine wpList_store_row rfl 47 _ _ rfl (w.heap.size+1) zI (by rfl) (by rfl) 47 zI HA5.out Tryz.size47 (by rfl) zI_one ?_;clear TS))
  have HF:Hid (Box (w5.setRow (w.heap.size+1) zI) (w.heap.size+1) 47 zI):=HA5.out.setRow _
  refine bodyPost_ret (results_row_tmp (by rfl) _ _ (w.heap.size+1) zI (by rfl) (load47_run HF.out rfl)) rfl ?_
  exact ⟨by rw [HOV.out];rfl,HK5.out.fresh (Kept.setRow _ _ _) (fun i e=>by unfold Only at e;omega)⟩
theorem unpackBucket_no (ba:Option Addr) (bn bc:Nat) (rv fv:Value) (r:Int) (sa:Option Addr) (sn sc:Nat) (zs:List Int) (f p bu bl ro:Int) (w:World) (h:Cfg w sa sn sc zs) (hno:cfgB zs f p bu bl ro=false) :
    Calls Tryz.prog 50 #[.slice ba bn bc,cfgV (.slice sa sn sc) f p bu bl ro,rv,fv,.int .i64 r] w fun e w'=>e=.returned (.tuple #[.agg zK,.int .i64 20])∧Kept No w w':=by
  have HC:Hid (Cfg w sa sn sc zs):=h
  have HN:Hid (cfgB zs f p bu bl ro=false):=hno
  clear h hno
  have TA:Hid (1=1):=rfl
  have TB:Hid (1=1):=rfl
  go_enter Tryz.func50,Tryz.ntmps50
  go_upto_region 2 with (first
    | (have hguard:=TA;clear hguard;refine wp_allocT rfl 54 rfl zK Tryz.info43z (w.heap.size+1) (by simp) ?_;clear TA)
    | (have hguard:=TB;clear hguard;refine wp_allocT rfl 54 rfl zK Tryz.info43z (w.heap.size+1+1) (by simp) ?_;clear TB))
  obtain ⟨w3,hw3⟩:∃ w3,w3=((w.alloc (.cells #[.slice sa sn sc,.int .i64 f,.int .i64 p,.int .i64 bu,.int .i64 bl,.int .i64 ro] 24)).alloc (.cells zK 54)).alloc (.cells zK 54):=⟨_,rfl⟩
  rw [← hw3]
  have HK3:Hid (Kept No w w3):=by rw [hw3];exact (((Kept.refl No w).alloc _).alloc _).alloc _
  have HC3:Hid (Box w3 w.heap.size 24 #[.slice sa sn sc,.int .i64 f,.int .i64 p,.int .i64 bu,.int .i64 bl,.int .i64 ro]):=by rw [hw3];exact ((Box.new w 24 _).alloc _).alloc _
  have HA3:Hid (Box w3 (w.heap.size+1) 54 zK):=by
    show Box _ _ _ _
    rw [hw3]
    have:=(Box.new (w.alloc (.cells #[.slice sa sn sc,.int .i64 f,.int .i64 p,.int .i64 bu,.int .i64 bl,.int .i64 ro] 24)) 54 zK).alloc (.cells zK 54)
    simpa using this
  have HZ3:Hid (Box w3 (w.heap.size+1+1) 54 zK):=by
    show Box _ _ _ _
    rw [hw3]
    have:=Box.new ((w.alloc (.cells #[.slice sa sn sc,.int .i64 f,.int .i64 p,.int .i64 bu,.int .i64 bl,.int .i64 ro] 24)).alloc (.cells zK 54)) 54 zK
    simpa using this
  clear hw3
  try simp only[Act.put,List.setIfInBounds_toArray,List.set_cons_zero,List.set_cons_succ]
  have q0:=HC3.out.cell 0
  have q1:=HC3.out.cell 1
  have q2:=HC3.out.cell 2
  have q3:=HC3.out.cell 3
  have q4:=HC3.out.cell 4
  have q5:=HC3.out.cell 5
  simp at q0 q1 q2 q3 q4 q5
  go_wp2_with fail
  refine ((HC.out.no HK3.out).right f p bu bl ro).mono ?_
  rintro e w4 ⟨rfl,hk4⟩
  have HK4:Hid (Kept No w w4):=HK3.out.then hk4
  have HA4:Hid (Box w4 (w.heap.size+1) 54 zK):=HA3.out.kept hk4 (fun e=>e)
  have HZ4:Hid (Box w4 (w.heap.size+1+1) 54 zK):=HZ3.out.kept hk4 (fun e=>e)
  have HC4:Hid (Box w4 w.heap.size 24 #[.slice sa sn sc,.int .i64 f,.int .i64 p,.int .i64 bu,.int .i64 bl,.int .i64 ro]):=HC3.out.kept hk4 (fun e=>e)
  clear hk4 q0 q1 q2 q3 q4 q5 HK3 HA3 HZ3 HC3
  rw [HN.out]
  have TL:Hid (1=1):=rfl
  have TS:Hid (1=1):=rfl
  go_wp2_with (first
    | (have hguard:=TL;clear hguard;refine wp_load54 rfl _ rfl (w.heap.size+1+1) zK rfl rfl HZ4.out ?_;clear TL)
    | (have hguard:=TS;clear hguard;refine wpList_store_row rfl 54 _ _ rfl (w.heap.size+1) zK (by rfl) (by rfl) 54 zK HA4.out Tryz.size54 (by rfl) zK_one ?_;clear TS))
  have HF:Hid (Box (w4.setRow (w.heap.size+1) zK) (w.heap.size+1) 54 zK):=HA4.out.setRow _
  refine bodyPost_ret (results_row_tmp (by rfl) _ _ (w.heap.size+1) zK (by rfl) (load54_run HF.out rfl)) rfl ?_
  exact ⟨rfl,HK4.out.fresh (Kept.setRow _ _ _) (fun i e=>by unfold Only at e;omega)⟩
theorem unpackBucket_shut (ba:Option Addr) (bn bc:Nat) (ys:List Int) (rv fv:Value) (r:Int) (sa:Option Addr) (sn sc:Nat) (zs:List Int) (f p bu bl ro:Int) (w:World) (h:Cfg w sa sn sc zs) (hyes:cfgB zs f p bu bl ro=true) (hs:Sl w ba bn bc ys) (ho:(openOf ys).2≠0) :
    Calls Tryz.prog 50 #[.slice ba bn bc,cfgV (.slice sa sn sc) f p bu bl ro,rv,fv,.int .i64 r] w fun e w'=>e=.returned (.tuple #[.agg zK,.int .i64 (openOf ys).2])∧Kept No w w':=by
  have HC:Hid (Cfg w sa sn sc zs):=h
  have HN:Hid (cfgB zs f p bu bl ro=true):=hyes
  have HS:Hid (Sl w ba bn bc ys):=hs
  clear h hyes hs
  have TA:Hid (1=1):=rfl
  have TB:Hid (1=1):=rfl
  go_enter Tryz.func50,Tryz.ntmps50
  go_upto_region 2 with (first
    | (have hguard:=TA;clear hguard;refine wp_allocT rfl 54 rfl zK Tryz.info43z (w.heap.size+1) (by simp) ?_;clear TA)
    | (have hguard:=TB;clear hguard;refine wp_allocT rfl 54 rfl zK Tryz.info43z (w.heap.size+1+1) (by simp) ?_;clear TB))
  obtain ⟨w3,hw3⟩:∃ w3,w3=((w.alloc (.cells #[.slice sa sn sc,.int .i64 f,.int .i64 p,.int .i64 bu,.int .i64 bl,.int .i64 ro] 24)).alloc (.cells zK 54)).alloc (.cells zK 54):=⟨_,rfl⟩
  rw [← hw3]
  have HK3:Hid (Kept No w w3):=by rw [hw3];exact (((Kept.refl No w).alloc _).alloc _).alloc _
  have HC3:Hid (Box w3 w.heap.size 24 #[.slice sa sn sc,.int .i64 f,.int .i64 p,.int .i64 bu,.int .i64 bl,.int .i64 ro]):=by rw [hw3];exact ((Box.new w 24 _).alloc _).alloc _
  have HA3:Hid (Box w3 (w.heap.size+1) 54 zK):=by
    show Box _ _ _ _
    rw [hw3]
    have:=(Box.new (w.alloc (.cells #[.slice sa sn sc,.int .i64 f,.int .i64 p,.int .i64 bu,.int .i64 bl,.int .i64 ro] 24)) 54 zK).alloc (.cells zK 54)
    simpa using this
  have HZ3:Hid (Box w3 (w.heap.size+1+1) 54 zK):=by
    show Box _ _ _ _
    rw [hw3]
    have:=Box.new ((w.alloc (.cells #[.slice sa sn sc,.int .i64 f,.int .i64 p,.int .i64 bu,.int .i64 bl,.int .i64 ro] 24)).alloc (.cells zK 54)) 54 zK
    simpa using this
  clear hw3
  try simp only[Act.put,List.setIfInBounds_toArray,List.set_cons_zero,List.set_cons_succ]
  have q0:=HC3.out.cell 0
  have q1:=HC3.out.cell 1
  have q2:=HC3.out.cell 2
  have q3:=HC3.out.cell 3
  have q4:=HC3.out.cell 4
  have q5:=HC3.out.cell 5
  simp at q0 q1 q2 q3 q4 q5
  go_wp2_with fail
  refine ((HC.out.no HK3.out).right f p bu bl ro).mono ?_
  rintro e w4 ⟨rfl,hk4⟩
  have HK4:Hid (Kept No w w4):=HK3.out.then hk4
  have HA4:Hid (Box w4 (w.heap.size+1) 54 zK):=HA3.out.kept hk4 (fun e=>e)
  have HZ4:Hid (Box w4 (w.heap.size+1+1) 54 zK):=HZ3.out.kept hk4 (fun e=>e)
  have HC4:Hid (Box w4 w.heap.size 24 #[.slice sa sn sc,.int .i64 f,.int .i64 p,.int .i64 bu,.int .i64 bl,.int .i64 ro]):=HC3.out.kept hk4 (fun e=>e)
  clear hk4 q0 q1 q2 q3 q4 q5 HK3 HA3 HZ3 HC3
  rw [HN.out]
  have HO:Hid (Calls Tryz.prog 79 #[.slice ba bn bc] w4 (Opens w4 ys)):=open_sl (HS.out.no HK4.out)
  generalize hov:(openOf ys).2=ov at *
  have HOV:Hid ((openOf ys).2=ov):=hov
  clear hov
  go_wp2_with fail
  refine HO.out.mono ?_
  rintro e w5 ⟨a5,n5,c5,he,-,-,hk5⟩
  rw [HOV.out] at he
  subst he
  have HK5:Hid (Kept No w w5):=HK4.out.then hk5
  have HA5:Hid (Box w5 (w.heap.size+1) 54 zK):=HA4.out.kept hk5 (fun e=>e)
  have HZ5:Hid (Box w5 (w.heap.size+1+1) 54 zK):=HZ4.out.kept hk5 (fun e=>e)
  clear hk5 HO HA4 HZ4 HC4 HK4
  have TL:Hid (1=1):=rfl
  have TS:Hid (1=1):=rfl
  go_wp2_with (first
    | (have hguard:=TL;clear hguard;refine wp_load54 rfl _ rfl (w.heap.size+1+1) zK rfl rfl HZ5.out ?_;clear TL)
    | (have hguard:=TS;clear hguard;refine wpList_store_row rfl 54 _ _ rfl (w.heap.size+1) zK (by rfl) (by rfl) 54 zK HA5.out Tryz.size54 (by rfl) zK_one ?_;clear TS))
  have HF:Hid (Box (w5.setRow (w.heap.size+1) zK) (w.heap.size+1) 54 zK):=HA5.out.setRow _
  refine bodyPost_ret (results_row_tmp (by rfl) _ _ (w.heap.size+1) zK (by rfl) (load54_run HF.out rfl)) rfl ?_
  exact ⟨by rw [HOV.out];rfl,HK5.out.fresh (Kept.setRow _ _ _) (fun i e=>by unfold Only at e;omega)⟩
structure RdA (w1 W:World) (r g lb:Nat) (odd:Bool) (st:RS) (o:Option Nat):Prop where
  rd:RdM w1 W r g lb odd st
  at_:∀ N,o=some N→Box W N 71 mZ.cells∧w1.heap.size≤N
theorem RdA.no {w1 W W':World} {r g lb:Nat} {odd:Bool} {st:RS} {o:Option Nat} (h:RdA w1 W r g lb odd st o) (hk:Kept No W W'):RdA w1 W' r g lb odd st o:=
  ⟨h.rd.no hk,fun N e=>⟨(h.at_ N e).1.kept hk (fun e=>e),(h.at_ N e).2⟩⟩
theorem RdA.drew {w1 W:World} {r g lb:Nat} {odd:Bool} {st:RS} {o:Option Nat} (h:RdA w1 W r g lb odd st o):RdA w1 W.drew r g lb odd st o:=h.no ((Kept.refl No W).drew)
theorem RdA.allocd {w1 W:World} {r g lb:Nat} {odd:Bool} {st:RS} (h:RdA w1 W r g lb odd st none) (N:Nat) (hN:W.heap.size=N):RdA w1 (W.alloc (.cells mZ.cells 71)) r g lb odd st (some N):=
  ⟨h.rd.no ((Kept.refl No W).alloc _),fun M e=>by cases e;subst hN;exact ⟨Box.new _ _ _,h.rd.kept.size⟩⟩
theorem RdA.box {w1 W:World} {r g lb:Nat} {odd:Bool} {st:RS} {N:Nat} (h:RdA w1 W r g lb odd st (some N)):Box W N 71 mZ.cells:=(h.at_ N rfl).1
theorem RdA.step {w1 W W':World} {r g lb:Nat} {odd odd':Bool} {st st':RS} {o:Option Nat} (h:RdA w1 W r g lb odd st o) (hr:r < w1.heap.size) (hg:g < w1.heap.size) (h':RdM W W' r g lb odd' st'):RdA w1 W' r g lb odd' st' o∧W'.cell? ⟨r,0,none⟩=some (.pointer (some ⟨g,0,none⟩))∧W'.heap.size≠r:=by
  refine ⟨⟨h'.since h.rd.kept,fun N e=>⟨h'.other (h.at_ N e).1 ?_ ?_,(h.at_ N e).2⟩⟩,h'.c0,fun e=>?_⟩
  · have:=(h.at_ N e).2;omega
  · have:=(h.at_ N e).2;omega
  · have:=h'.ltr;omega
theorem NumA {w1 W:World} {r g lb:Nat} {odd:Bool} {st:RS} {o:Option Nat} (hr:r < w1.heap.size) (hg:g < w1.heap.size) (h:RdA w1 W r g lb odd st o) :
    Calls Tryz.prog 102 #[.pointer (some ⟨g,0,none⟩)] W fun e w'=>e=.returned (.int .i64 (nV st))∧RdA w1 w' r g lb odd (nS st) o∧w'.cell? ⟨r,0,none⟩=some (.pointer (some ⟨g,0,none⟩))∧w'.heap.size≠r:=
  h.rd.anew.num.mono (fun e w' ⟨a,b,_⟩=>⟨a,h.step hr hg b⟩)
theorem AddrA {w1 W:World} {r g lb:Nat} {odd:Bool} {st:RS} {o:Option Nat} (hr:r < w1.heap.size) (hg:g < w1.heap.size) (h:RdA w1 W r g lb odd st o) :
    Calls Tryz.prog 114 #[.pointer (some ⟨r,0,none⟩)] W fun e w'=>e=.returned (.agg #[.bool (fV st),.int .i64 (nV (nS st))])∧RdA w1 w' r g lb (fO odd st) (aS st) o∧w'.cell? ⟨r,0,none⟩=some (.pointer (some ⟨g,0,none⟩))∧w'.heap.size≠r:=
  h.rd.anew.addr.mono (fun e w' ⟨a,b,_⟩=>⟨a,h.step hr hg b⟩)
def o2 (odd:Bool) (s0:RS):Bool:=fO (fO odd (nS s0)) (aS (nS s0))
def t1 (s0:RS):RS:=nS s0
def t2 (s0:RS):RS:=aS (t1 s0)
def t3 (s0:RS):RS:=aS (t2 s0)
def t4 (s0:RS):RS:=nS (t3 s0)
def t5 (s0:RS):RS:=nS (t4 s0)
def t6 (s0:RS):RS:=nS (t5 s0)
def t7 (s0:RS):RS:=nS (t6 s0)
def t8 (s0:RS):RS:=nS (t7 s0)
def t9 (s0:RS):RS:=nS (t8 s0)
def mH (s0:RS):MsgD:={ mZ with kind:=nV s0,fc:=fV (t1 s0),fi:=nV (nS (t1 s0)),tc:=fV (t2 s0),ti:=nV (nS (t2 s0)),op:=nV (t3 s0),rd:=nV (t4 s0),kk:=nV (t5 s0),ka:=nV (t6 s0),kb:=nV (t7 s0),kc:=nV (t8 s0) }
structure RdZ (w0 w1 W:World) (r g lb N M:Nat) (odd:Bool) (st:RS):Prop where
  rd:RdM w0 W r g lb (o2 odd st) (t9 st)
  msg:Box W N 71 (mH st).cells
  ans:Box W M 71 mZ.cells
  ne:N≠M∧w0.heap.size≤N∧w0.heap.size≤M∧M≠r∧M≠g∧M≠lb∧N≠r∧N≠g∧N≠lb
theorem RdZ.no {w0 w1 W W':World} {r g lb N M:Nat} {odd:Bool} {st:RS} (h:RdZ w0 w1 W r g lb N M odd st) (hk:Kept No W W'):RdZ w0 w1 W' r g lb N M odd st:=
  ⟨h.rd.no hk,h.msg.kept hk (fun e=>e),h.ans.kept hk (fun e=>e),h.ne⟩
theorem RdA.fin {w0 w1 W:World} {r g lb M N:Nat} {odd:Bool} {st:RS} (h:RdA w1 W r g lb (o2 odd st) (t9 st) (some N)) (h1:RdM w0 w1 r g lb odd st) (hM:Box w1 M 71 mZ.cells) (hM0:w0.heap.size≤M) (hMr:M≠r∧M≠g∧M≠lb):RdZ w0 w1 (W.setRow N (mH st).cells) r g lb N M odd st:=by
  obtain ⟨hb,hN⟩:=h.at_ N rfl
  have hk:=Kept.setRow W N (mH st).cells
  have l1:=h1.ltr
  have l2:=h1.ltg
  have l3:=h1.ltl
  have l4:=hM.lt
  have l5:=h1.kept.size
  refine ⟨((h.rd.since h1.kept).apart hk (fun e=>?_) (fun e=>?_) (fun e=>?_) (fun i hi e=>?_)),hb.setRow _,(h.rd.other hM hMr.1 hMr.2.1).kept hk (fun e=>?_),by omega,by omega,hM0,hMr.1,hMr.2.1,hMr.2.2,by omega,by omega,by omega⟩
  all_goals (unfold Only at e;omega)
def fld0:Array Value:=#[.nilFunc,.nilFunc,.nilFunc,.nilFunc,.nilFunc,.nilFunc,.nilFunc]
theorem Tryz.info208z:(Tryz.prog.info? 173).bind (·.zero)=some (.agg fld0):=by kernel_rfl
theorem Tryz.size173:(Tryz.prog.info? 173).map (·.size)=some 7:=by kernel_rfl
def fldV (b0 b1:Nat):Array Value:=#[.func (.func 149) #[] #[.pointer (some ⟨b0,0,none⟩),.pointer (some ⟨b1,0,none⟩)],.func (.func 150) #[] #[.pointer (some ⟨b0,0,none⟩),.pointer (some ⟨b1,0,none⟩)],.func (.func 151) #[] #[.pointer (some ⟨b0,0,none⟩),.pointer (some ⟨b1,0,none⟩)],.func (.func 152) #[] #[.pointer (some ⟨b0,0,none⟩),.pointer (some ⟨b1,0,none⟩)],.func (.func 153) #[] #[.pointer (some ⟨b0,0,none⟩),.pointer (some ⟨b1,0,none⟩)],.func (.func 154) #[] #[.pointer (some ⟨b0,0,none⟩),.pointer (some ⟨b1,0,none⟩)],.func (.func 156) #[] #[.pointer (some ⟨b0,0,none⟩),.pointer (some ⟨b1,0,none⟩)]]
theorem fldV_one (a b:Nat):(fldV a b).all (·.oneCell')=true:=by simp [fldV,Value.oneCell']
set_option maxRecDepth 100000 in
set_option maxHeartbeats 2000000 in
theorem fieldReaders_any (r N:Nat) (w:World) :
    Calls Tryz.prog 115 #[.pointer (some ⟨r,0,none⟩),.pointer (some ⟨N,0,none⟩)] w fun e w'=>e=.returned (.agg (fldV w.heap.size (w.heap.size+1)))∧Box w' w.heap.size 136 #[.pointer (some ⟨r,0,none⟩)]∧Box w' (w.heap.size+1) 175 #[.pointer (some ⟨N,0,none⟩)]∧Kept No w w':=by
  have hmf:∀ (fn:Fn) (first cap:Array Value) (w:World),(Instr.makeFunc fn first cap).run Tryz.prog w=.ok (.func fn first cap) w:=fun _ _ _ _=>rfl
  have TB:Hid (1=1):=rfl
  go_enter Tryz.func115,Tryz.ntmps115
  go_upto_region 1 with (have hguard:=TB;clear hguard;refine wp_allocT rfl 173 rfl fld0 Tryz.info208z (w.heap.size+1+1) (by simp) ?_;clear TB)
  obtain ⟨w3,hw3⟩:∃ w3,w3=((w.alloc (.cells #[.pointer (some ⟨r,0,none⟩)] 136)).alloc (.cells #[.pointer (some ⟨N,0,none⟩)] 175)).alloc (.cells fld0 173):=⟨_,rfl⟩
  rw [← hw3]
  have HK3:Hid (Kept No w w3):=by rw [hw3];exact (((Kept.refl No w).alloc _).alloc _).alloc _
  have HA:Hid (Box w3 w.heap.size 136 #[.pointer (some ⟨r,0,none⟩)]):=by rw [hw3];exact ((Box.new w 136 _).alloc _).alloc _
  have HB:Hid (Box w3 (w.heap.size+1) 175 #[.pointer (some ⟨N,0,none⟩)]):=by
    show Box _ _ _ _
    rw [hw3]
    have:=(Box.new (w.alloc (.cells #[.pointer (some ⟨r,0,none⟩)] 136)) 175 #[.pointer (some ⟨N,0,none⟩)]).alloc (.cells fld0 173)
    simpa using this
  have HC:Hid (Box w3 (w.heap.size+1+1) 173 fld0):=by
    show Box _ _ _ _
    rw [hw3]
    have:=Box.new ((w.alloc (.cells #[.pointer (some ⟨r,0,none⟩)] 136)).alloc (.cells #[.pointer (some ⟨N,0,none⟩)] 175)) 173 fld0
    simpa using this
  clear hw3
  simp only[Act.put,List.setIfInBounds_toArray,List.set_cons_zero,List.set_cons_succ]
  have TS:Hid (1=1):=rfl
  go_wp2_with (have hguard:=TS;clear hguard;refine wpList_store_row rfl 173 _ _ rfl (w.heap.size+1+1) (fldV w.heap.size (w.heap.size+1)) (by rfl) (by rfl) 173 fld0 HC.out Tryz.size173 (by rfl) (fldV_one _ _) ?_;clear TS)
  have HF:Hid (Box (w3.setRow (w.heap.size+1+1) (fldV w.heap.size (w.heap.size+1))) (w.heap.size+1+1) 173 (fldV w.heap.size (w.heap.size+1))):=HC.out.setRow _
  have hk:=Kept.setRow w3 (w.heap.size+1+1) (fldV w.heap.size (w.heap.size+1))
  refine bodyPost_ret (results_cell_row (by rfl) _ _ (w.heap.size+1+1) 173 (fldV w.heap.size (w.heap.size+1)) (0,0) _ (by rfl) HF.out Tryz.underlying173 rfl Tryz.size173) rfl ?_
  exact ⟨rfl,HA.out.kept hk (fun e=>by unfold Only at e;omega),HB.out.kept hk (fun e=>by unfold Only at e;omega),HK3.out.fresh hk (fun i e=>by unfold Only at e;omega)⟩
section
attribute [local go_sem ↓] run_zero71 run_store71
attribute [local go_sem] box_new build71 run_cells71 mZ_size mZ_ne
set_option maxRecDepth 100000 in
set_option maxHeartbeats 8000000 in
theorem readMsg_nil {w0 W:World} {r g lb:Nat} {odd:Bool} {st:RS} (h:RdM w0 W r g lb odd st) (hf:fieldsL (nV st)=[]) :
    Calls Tryz.prog 58 #[.pointer (some ⟨r,0,none⟩)] W fun e w'=>e=.returned (.agg (mH st).cells)∧RdM w0 w' r g lb (o2 odd st) (t9 st):=by
  have HR0:Hid (RdM w0 W r g lb odd st):=h
  have HF0:Hid (fieldsL (nV st)=[]):=hf
  have q0:=h.c0
  have TB:Hid (1=1):=rfl
  clear h hf
  go_enter Tryz.func58,Tryz.ntmps58
  go_upto_region 1 with (have hguard:=TB;clear hguard;refine wp_allocT rfl 71 rfl mZ.cells Tryz.info45z W.heap.size rfl ?_;clear TB)
  obtain ⟨w1,hw1⟩:∃ w1,w1=W.alloc (.cells mZ.cells 71):=⟨_,rfl⟩
  rw [← hw1]
  have hk1:Kept No W w1:=by rw [hw1];exact (Kept.refl No W).alloc _
  have HB1:Hid (Box w1 W.heap.size 71 mZ.cells):=by rw [hw1];exact Box.new _ _ _
  have HR1:Hid (RdM w0 w1 r g lb odd st):=HR0.out.no hk1
  have q1:=HR1.out.c0
  have HR:Hid (RdA w1 w1 r g lb odd st none):=⟨HR1.out.anew,fun _ e=>nomatch e⟩
  have HN:Hid (w0.heap.size≤W.heap.size∧W.heap.size≠r∧W.heap.size≠g∧W.heap.size≠lb):=⟨HR0.out.kept.size,by have:=HR0.out.ltr;omega,by have:=HR0.out.ltg;omega,by have:=HR0.out.ltl;omega⟩
  have HL:Hid (r < w1.heap.size∧g < w1.heap.size):=⟨HR1.out.ltr,HR1.out.ltg⟩
  have n1:w1.heap.size≠r:=by have:=HR1.out.ltr;omega
  clear hk1 hw1 q0 HR0
  simp only[Act.put,List.setIfInBounds_toArray,List.set_cons_zero,List.set_cons_succ]
  go_cut [3] from 7 (fun v wz=>∃ N:Nat,v=.pointer (some ⟨N,0,none⟩)∧Hid (RdZ w0 w1 wz r g lb N W.heap.size odd st))
  case first=>
    go_region_held3 (fun w'=>w'.cell? ⟨r,0,none⟩=some (.pointer (some ⟨g,0,none⟩))) (first | go_keep | (rw [cell_setRow _ _ _ _ _ (by first | assumption | (apply Ne.symm;assumption))];go_keep)) (first
      | (go_at_call 102;(first
          | refine (NumA HL.out.1 HL.out.2 HR.out).mono ?_
          | refine (NumA HL.out.1 HL.out.2 HR.out.drew).mono ?_
          | refine (NumA HL.out.1 HL.out.2 (HR.out.allocd _ rfl)).mono ?_
          | refine (NumA HL.out.1 HL.out.2 (HR.out.drew.allocd w1.heap.size rfl)).mono ?_);rintro e wc ⟨rfl,hr,q,n⟩;clear HR;have HR:Hid (RdA w1 wc r g lb _ _ _):=hr;(first | have hb:=hr.box | skip);clear hr)
      | (go_at_call 114;(first
          | refine (AddrA HL.out.1 HL.out.2 HR.out).mono ?_
          | refine (AddrA HL.out.1 HL.out.2 (HR.out.allocd _ rfl)).mono ?_);rintro e wc ⟨rfl,hr,q,n⟩;clear HR;have HR:Hid (RdA w1 wc r g lb _ _ _):=hr;(first | have hb:=hr.box | skip);clear hr))
    all_goals go_wp2_with fail
    all_goals go_meet
    all_goals first
      | exact ⟨_,rfl,HR.out.fin HR1.out HB1.out HN.out.1 HN.out.2⟩
      | exact ⟨_,rfl,(HR.out.allocd _ rfl).fin HR1.out HB1.out HN.out.1 HN.out.2⟩
  case rest=>
    obtain ⟨N,rfl,HZ⟩:=hcut
    have HFR:Hid (Calls Tryz.prog 115 #[.pointer (some ⟨r,0,none⟩),.pointer (some ⟨N,0,none⟩)] wc fun e w'=>e=.returned (.agg (fldV wc.heap.size (wc.heap.size+1)))∧Box w' wc.heap.size 136 #[.pointer (some ⟨r,0,none⟩)]∧Box w' (wc.heap.size+1) 175 #[.pointer (some ⟨N,0,none⟩)]∧Kept No wc w'):=fieldReaders_any r N wc
    clear HR1 HB1 HR HN HL n1 q1
    go_wp2_with fail
    refine HFR.out.mono ?_
    rintro e w3 ⟨rfl,-,-,hk3⟩
    have HZ3:Hid (RdZ w0 w1 w3 r g lb N W.heap.size odd st):=HZ.out.no hk3
    clear hk3 HZ HFR
    have TA:Hid (1=1):=rfl
    have TS:Hid (1=1):=rfl
    have HB3:Hid (Box (w3.alloc (.cells fld0 173)) w3.heap.size 173 fld0):=Box.new _ _ _
    go_upto_region 3 with (first
      | (have hguard:=TA;clear hguard;refine wp_allocT rfl 173 rfl fld0 Tryz.info208z w3.heap.size rfl ?_;clear TA)
      | (have hguard:=TS;clear hguard;refine wpList_store_row rfl 173 _ _ rfl w3.heap.size (fldV wc.heap.size (wc.heap.size+1)) (by rfl) (by rfl) 173 fld0 HB3.out Tryz.size173 (by rfl) (fldV_one _ _) ?_;clear TS))
    obtain ⟨w5,hw5⟩:∃ w5,w5=(w3.alloc (.cells fld0 173)).setRow w3.heap.size (fldV wc.heap.size (wc.heap.size+1)):=⟨_,rfl⟩
    rw [← hw5]
    have hk5:Kept No w3 w5:=by rw [hw5];exact ((Kept.refl No w3).alloc _).fresh (Kept.setRow _ _ _) (fun i e=>by unfold Only at e;omega)
    have HZ5:Hid (RdZ w0 w1 w5 r g lb N W.heap.size odd st):=HZ3.out.no hk5
    have q5:w5.cell? ⟨N,0,none⟩=some (.int .i64 (nV st)):=HZ5.out.msg.cell 0
    clear hw5 hk5 HZ3 HB3
    try simp only[Act.put,List.setIfInBounds_toArray,List.set_cons_zero,List.set_cons_succ]
    go_wp2_with fail
    refine (fieldsOf_nil (nV st) HF0.out w5).mono ?_
    rintro e w6 ⟨rfl,hk6⟩
    have HZ6:Hid (RdZ w0 w1 w6 r g lb N W.heap.size odd st):=HZ5.out.no hk6
    clear hk6 q5 HZ5
    go_wp2
    go_loopw [54] (fun i wr=>i=.int .i64 0∧wr=w6) (fun _ _=>0)
    case atStart=>exact ⟨rfl,rfl⟩
    case round=>
      obtain ⟨rfl,rfl⟩:=hrel
      have TA:Hid (1=1):=rfl
      have TS:Hid (1=1):=rfl
      go_wp2_with (first
        | (have hguard:=TA;clear hguard;refine wp_load71 rfl _ rfl N (mH st).cells rfl (MsgD.size _) HZ6.out.msg ?_;clear TA)
        | (have hguard:=TS;clear hguard;refine wpList_store_row rfl 71 _ _ rfl W.heap.size (mH st).cells (by rfl) (by rfl) 71 mZ.cells HZ6.out.ans Tryz.size71 (by rfl) (MsgD.one _) ?_;clear TS))
      have HF:Hid (Box (wr.setRow W.heap.size (mH st).cells) W.heap.size 71 (mH st).cells):=HZ6.out.ans.setRow _
      refine bodyPost_ret (results_cell_row (by rfl) _ _ W.heap.size 71 (mH st).cells (0,0) _ (by rfl) HF.out Tryz.underlying71 rfl Tryz.size71) rfl ?_
      have hn:=HZ6.out.ne
      exact ⟨rfl,HZ6.out.rd.apart (Kept.setRow _ _ _) (fun e=>by unfold Only at e;omega) (fun e=>by unfold Only at e;omega) (fun e=>by unfold Only at e;omega) (fun i hi e=>by unfold Only at e;omega)⟩
end
theorem numOf_app (n:Int) (r:List Int) (h0:0≤n) (h1:n≤4294967295):numOf (fourOf n++r)=n:=by
  simp [numOf,fourOf];omega
theorem numOf_four (n:Int) (h0:0≤n) (h1:n≤4294967295):numOf (fourOf n)=n:=by
  simp [numOf,fourOf];omega
theorem openOf_head {zs:List Int} {n:Nat} (hl:8≤zs.length) (hs:numOf (zs.drop 4)=sumOf (zs.take 4)) (hn:numOf zs=n) (hm:n≤131072) :
    openOf zs=if zs.length < n+12 then ([],10) else if n+12 < zs.length then ([],11) else if numOf (zs.drop (n+8))≠sumOf (zs.take (n+8)) then ([],12) else ((zs.drop 8).take n,0):=by
  unfold openOf
  rw [if_neg (by omega),if_neg (by simpa using hs),hn,if_neg (by omega),Int.toNat_natCast]
  by_cases h1:zs.length < n+12
  · rw [if_pos (by omega),if_pos h1]
  · rw [if_neg (by omega),if_neg h1]
    by_cases h2:n+12 < zs.length
    · rw [if_pos (by omega),if_pos h2]
    · rw [if_neg (by omega),if_neg h2]
theorem head_facts (zs r:List Int) (hm:zs.length≤131072):numOf ((headOf zs++r).drop 4)=sumOf ((headOf zs++r).take 4)∧numOf (headOf zs++r)=(zs.length:Int):=by
  have hb:=sumOf_bd (fourOf zs.length)
  unfold headOf
  constructor
  · rw [List.append_assoc,List.drop_append_of_le_length (by simp [fourOf_len]),List.take_append_of_le_length (by simp [fourOf_len])]
    rw [List.drop_of_length_le (by simp [fourOf_len]),List.take_of_length_le (by simp [fourOf_len]),List.nil_append]
    exact numOf_app _ _ hb.1 hb.2
  · rw [List.append_assoc]
    exact numOf_app _ _ (by omega) (by omega)
theorem open_seal (zs:List Int) (hm:zs.length≤131072):openOf (sealOf zs)=(zs,0):=by
  have hl:=sealOf_len zs
  have hb:=sumOf_bd (headOf zs++zs)
  have hf:=head_facts zs (zs++fourOf (sumOf (headOf zs++zs))) hm
  have e:sealOf zs=headOf zs++(zs++fourOf (sumOf (headOf zs++zs))):=by unfold sealOf;rw [List.append_assoc]
  rw [← e] at hf
  rw [openOf_head (by omega) hf.1 hf.2 hm,if_neg (by omega),if_neg (by omega)]
  have h8:(headOf zs++zs).length=zs.length+8:=by rw [List.length_append,headOf_len];omega
  have e1:(sealOf zs).drop (zs.length+8)=fourOf (sumOf (headOf zs++zs)):=by unfold sealOf;rw [← h8,List.drop_left]
  have e2:(sealOf zs).take (zs.length+8)=headOf zs++zs:=by unfold sealOf;rw [← h8,List.take_left]
  rw [e1,e2,numOf_four _ hb.1 hb.2,if_neg (by simp)]
  have e3:(sealOf zs).drop 8=zs++fourOf (sumOf (headOf zs++zs)):=by rw [e,← headOf_len zs,List.drop_left]
  rw [e3,List.take_left]
end Go.Proofs.YtgdnofacgfjaeabGreat.Wi
