import Derived.Test.YtgdnofacgfjaeabGreatKa
import Derived.ArgAppend
import Derived.Deep.Cut
import Derived.Deep.CutRange
import Derived.Deep.LoopGhost
import Derived.Deep.RegionHeld3
import Derived.Laws.AppendOwnNone
import Derived.Laws.BytesArg
import Derived.Laws.BytesString
import Derived.Laws.OwnMore
import Derived.Laws.Rows
import Derived.Laws.Strings
import Derived.Laws.StructEq
import Derived.Laws.Tables
import Derived.Lib.AppendZerosOnto
import Derived.Lib.Bytealg
import Derived.Lib.Overlaps
import Derived.Lib.SliceRun
import Derived.LoopIn
import Derived.LoopNIn
import Derived.Maps.AppendAt
import Derived.OwnWalkIn
import Derived.RangeFuncBound
import Derived.RangeFuncBox
import Derived.RangeFuncCalls
import Derived.RangeFuncLeaves
import Derived.RangeFuncNested
import Derived.Shelf.Abstract
import Derived.Shelf.RegionOpen
import Derived.Sort.CutIn
import Derived.Sort.QuietTacIn
import Derived.StillTailTactics
import Derived.TacticsInMore
import Derived.WalkSpells
namespace Go.Proofs.YtgdnofacgfjaeabGreat.Md
theorem U35:Tryz.prog.underlying 35=some (.struct (Tryz.prog.fieldsOf 35)):=by kernel_rfl
theorem S35:(Tryz.prog.info? 35).map (·.size)=some 2:=by kernel_rfl
theorem U43:Tryz.prog.underlying 43=some (.struct (Tryz.prog.fieldsOf 43)):=by kernel_rfl
theorem S43:(Tryz.prog.info? 43).map (·.size)=some 2:=by kernel_rfl
theorem U45:Tryz.prog.underlying 45=some (.struct (Tryz.prog.fieldsOf 45)):=by kernel_rfl
theorem S45:(Tryz.prog.info? 45).map (·.size)=some 9:=by kernel_rfl
theorem U54:Tryz.prog.underlying 54=some (.struct (Tryz.prog.fieldsOf 54)):=by kernel_rfl
theorem S54:(Tryz.prog.info? 54).map (·.size)=some 3:=by kernel_rfl
theorem U106:Tryz.prog.underlying 106=some (.struct (Tryz.prog.fieldsOf 106)):=by kernel_rfl
theorem S106:(Tryz.prog.info? 106).map (·.size)=some 4:=by kernel_rfl
theorem U108:Tryz.prog.underlying 108=some (.struct (Tryz.prog.fieldsOf 108)):=by kernel_rfl
theorem S108:(Tryz.prog.info? 108).map (·.size)=some 7:=by kernel_rfl
theorem U24:Tryz.prog.underlying 24=some (.struct (Tryz.prog.fieldsOf 24)):=by kernel_rfl
theorem S24:(Tryz.prog.info? 24).map (·.size)=some 6:=by kernel_rfl
theorem U37:Tryz.prog.underlying 37=some (.struct (Tryz.prog.fieldsOf 37)):=by kernel_rfl
theorem S37:(Tryz.prog.info? 37).map (·.size)=some 3:=by kernel_rfl
theorem U22:Tryz.prog.underlying 22=some (.slice 3):=by kernel_rfl
theorem U30:Tryz.prog.underlying 30=some (.slice 5):=by kernel_rfl
theorem E30:Tryz.prog.underlying 30=some (.slice (Tryz.prog.elem 30)):=by kernel_rfl
theorem F30:(Tryz.prog.info? (Tryz.prog.elem 30)).map (·.size)=some 1:=by kernel_rfl
theorem U51:Tryz.prog.underlying 51=some (.slice 106):=by kernel_rfl
theorem E51:Tryz.prog.underlying 51=some (.slice (Tryz.prog.elem 51)):=by kernel_rfl
theorem F51:(Tryz.prog.info? (Tryz.prog.elem 51)).map (·.size)=some 4:=by kernel_rfl
theorem U52:Tryz.prog.underlying 52=some (.slice 108):=by kernel_rfl
theorem E52:Tryz.prog.underlying 52=some (.slice (Tryz.prog.elem 52)):=by kernel_rfl
theorem F52:(Tryz.prog.info? (Tryz.prog.elem 52)).map (·.size)=some 7:=by kernel_rfl
theorem U27:Tryz.prog.underlying 27=some (.slice 54):=by kernel_rfl
theorem E27:Tryz.prog.underlying 27=some (.slice (Tryz.prog.elem 27)):=by kernel_rfl
theorem F27:(Tryz.prog.info? (Tryz.prog.elem 27)).map (·.size)=some 3:=by kernel_rfl
theorem U3:Tryz.prog.underlying 3=some (.int .i64):=by kernel_rfl
theorem U4:Tryz.prog.underlying 4=some .bool:=by kernel_rfl
theorem U5:Tryz.prog.underlying 5=some (.int .u8):=by kernel_rfl
theorem U9:Tryz.prog.underlying 9=some .string:=by kernel_rfl
theorem U31:Tryz.prog.underlying 31=some (.int .i64):=by kernel_rfl
open Go.RowKit
set_option linter.unusedVariables false
set_option linter.unusedSimpArgs false
set_option maxRecDepth 100000
variable {α:Type} {f:Option α→Value} {T:TypeId}
def Part (cs:List Value) (off:Nat) (sub:List Value):Prop:=∀ (j:Nat) v,sub[j]?=some v→cs[off+j]?=some v
theorem Part.all (cs:List Value):Part cs 0 cs:=fun j v h=>by rwa [Nat.zero_add]
theorem Part.trans {a b c:List Value} {n m:Nat} (h:Part a n b) (k:Part b m c):Part a (n+m) c:=fun j v e=>by
  rw [Nat.add_assoc];exact h _ _ (k _ _ e)
theorem Tryz.und4:Tryz.prog.underlying 4=some .bool:=by kernel_rfl
theorem Tryz.und9:Tryz.prog.underlying 9=some .string:=by kernel_rfl
theorem run_load_part {w:World} {g off:Nat} {T t:TypeId} {cs sub:List Value} {d:TypeDesc} (hb:Box w g T cs.toArray) (hp:Part cs off sub)
    (hu:Tryz.prog.underlying t=some d) (hd:(match d with | .struct _ | .array _ _=>true | _=>false)=true) (hi:(Tryz.prog.info? t).map (·.size)=some sub.length) :
    (loadVar t ⟨g,off,none⟩).run Tryz.prog w=.ok (.agg sub.toArray) w:=by
  have hl:(loadCells ⟨g,off,none⟩ sub.length).run Tryz.prog w=.ok sub.toArray w:=
    run_loadCells_list (P:=Tryz.prog) w ⟨g,off,none⟩ sub (fun j v hv=>by
      rw [addr_add,hb.cell,List.getElem?_toArray]
      exact hp j v hv)
  cases hq:Tryz.prog.info? t with
  | none=>simp [hq] at hi
  | some i=>
    have hs:i.size=sub.length:=by simpa [hq] using hi
    have hagg:(isAgg t).run Tryz.prog w=.ok true w:=by
      unfold isAgg
      rw [Sem.run_bind,run_underlying hu w]
      cases d <;> simp_all
    simp [loadVar,Sem.run_bind,hagg,sizeOf,typeInfo,hq,hs,hl]
def putL (l:List Value) (k:Nat) (vs:List Value):List Value:=l.take k++(vs++l.drop (k+vs.length))
theorem run_storeCells_at (g off:Nat) (t:TypeId):∀ (vs:List Value) (i:Nat) (cur:List Value) (w:World),Box w g t cur.toArray→off+i+vs.length≤cur.length→(∀ v∈vs,v.oneCell'=true) →
    (storeCells ⟨g,off,none⟩ vs i).run Tryz.prog w=.ok () (w.setRow g (putL cur (off+i) vs).toArray)
  | [],i,cur,w,hg,hl,_=>by
    have e:putL cur (off+i) []=cur:=by simp [putL]
    rw [e]
    have hlt:g < w.heap.size:=hg.lt
    have hv:w.heap[g]=.cells cur.toArray t (0,0):=(Array.getElem?_eq_some_iff.1 hg).2
    simp only[storeCells]
    show Result.ok () w=_
    congr 1
    unfold World.setRow
    cases w with
    | mk heap tape drawn os output=>
      congr 1
      apply Array.ext
      · simp
      · intro k h1 h2
        simp only[Array.getElem_modify]
        split
        · rename_i hk;subst hk;simp at hv;simp [hv]
        · rfl
  | v :: rest,i,cur,w,hg,hl,h1=>by
    simp only[List.length_cons] at hl
    have hi:off+i < cur.length:=by omega
    have hcell:w.cell? ⟨g,off+i,none⟩=some cur[off+i]:=by rw [hg.cell,List.getElem?_toArray,List.getElem?_eq_getElem hi]
    have hst:(store ((⟨g,off,none⟩:Addr).add i) v).run Tryz.prog w=.ok () (w.setRow g (cur.set (off+i) v).toArray):=by
      rw [addr_add,run_store Tryz.prog w _ v _ (h1 v (by simp)),hcell]
      have:=setCell_eq_setRow w g (off+i) cur.toArray t (0,0) v hg
      simp only[List.setIfInBounds_toArray] at this
      simp [hg.frozen,this]
    have hb2:Box (w.setRow g (cur.set (off+i) v).toArray) g t (cur.set (off+i) v).toArray:=setRow_heap w g _ _ t _ hg
    have ih:=run_storeCells_at g off t rest (i+1) (cur.set (off+i) v) (w.setRow g (cur.set (off+i) v).toArray) hb2 (by simp;omega) (fun x hx=>h1 x (by simp [hx]))
    simp only[storeCells,Sem.run_bind,hst,Result.andThen_ok,ih,setRow_setRow]
    congr 3
    unfold putL
    apply List.ext_getElem?
    intro k
    simp only[List.getElem?_append,List.length_take,List.length_set,List.getElem?_take,List.getElem?_set,List.getElem?_drop,List.length_cons]
    by_cases hk:k < off+i
    · have q1:min (off+(i+1)) cur.length=off+(i+1):=by omega
      have q2:min (off+i) cur.length=off+i:=by omega
      simp [q1,q2,hk,show k < off+(i+1) by omega,show off+i≠k by omega]
    · have q1:min (off+(i+1)) cur.length=off+(i+1):=by omega
      have q2:min (off+i) cur.length=off+i:=by omega
      by_cases hk2:k=off+i
      · subst hk2
        simp [q1,q2,hi,show off+i < off+(i+1) by omega]
      · simp only[q1,q2,hk,show ¬ k < off+(i+1) by omega,if_false]
        have e1:k - (off+i)=(k - (off+(i+1)))+1:=by omega
        rw [e1]
        simp only[List.getElem?_cons_succ]
        by_cases hk3:k - (off+(i+1)) < rest.length
        · simp [hk3]
        · have e2:off+(i+1)+rest.length+(k - (off+(i+1)) - rest.length)=off+i+(rest.length+1)+(k - (off+(i+1)) - rest.length):=by omega
          have e3:off+i≠off+(i+1)+rest.length+(k - (off+(i+1)) - rest.length):=by omega
          have e4:k - (off+(i+1))+1 - (rest.length+1)=k - (off+(i+1)) - rest.length:=by omega
          simp [hk3,e3,e4,e2]
          intro h
          omega
theorem run_store_at {w:World} {g off:Nat} {T ty:TypeId} {cur vs:List Value} {v:Value} (hb:Box w g T cur.toArray) (hv:v.cells=vs.toArray) (hi:(Tryz.prog.info? ty).map (·.size)=some vs.length)
    (hl:off+vs.length≤cur.length) (h1:∀ x∈vs,x.oneCell'=true):(storeVar ty ⟨g,off,none⟩ v).run Tryz.prog w=.ok () (w.setRow g (putL cur off vs).toArray):=by
  have:=run_storeCells_at g off T vs 0 cur w hb (by omega) h1
  cases hq:Tryz.prog.info? ty with
  | none=>simp [hq] at hi
  | some i=>
    have hs:vs.length=i.size:=by simp [hq] at hi;omega
    simp only[Nat.add_zero] at this
    simp [storeVar,sizeOf,typeInfo,hq,hv,hs,this]
theorem _root_.Go.Proofs.YtgdnofacgfjaeabGreat.Box.rowNe {w:World} {g g':Nat} {t:TypeId} {cs:Array Value} (h:Box w g t cs) (hne:g≠g') (cs':Array Value):Box (w.setRow g' cs') g t cs:=h.kept (Kept.setRow _ _ _) (fun e=>hne e)
theorem _root_.Go.Proofs.YtgdnofacgfjaeabGreat.Kept.newRow {a w:World} (h:Kept No a w) {g:Nat} (hg:a.heap.size≤g) (cs:Array Value):Kept No a (w.setRow g cs):=
  h.trans (Kept.setRow _ _ _) (fun _ e=>e) (fun i hi e=>by have:i=g:=e;omega)
theorem box_ne {w:World} {g g':Nat} {t t':TypeId} {cs cs':Array Value} (h:Box w g t cs) (h':Box w g' t' cs') (ht:t≠t'):g≠g':=by
  rintro rfl
  unfold Box at h h'
  rw [h] at h'
  simp at h'
  exact ht h'.2
theorem eqInt (d:Nat) (a b:Int) (w:World):(Op.equalIn (d+1) 3 (.int .i64 a) (.int .i64 b)).run Tryz.prog w=.ok (a==b) w:=run_equalIn_int w d 3 .i64 .i64 a b Tryz.und3
theorem zero_of {t:TypeId} {v:Value} (h:(Tryz.prog.info? t).bind (·.zero)=some v) (w:World):(zeroValue t).run Tryz.prog w=.ok v w:=by
  cases hi:Tryz.prog.info? t with
  | none=>rw [hi] at h;cases h
  | some i=>
    rw [hi] at h
    simp only[Option.bind_some] at h
    simp [zeroValue,typeInfo,hi,h]
section
variable {ops:Array Oper} {rest:List Oper} {o:Oper} {a:Act} {w:World} {Q:Exit→Act→World→Prop}
theorem exec_load (t:TypeId) (x:Operand) (ho:o.op=.load t x) (ad:Addr) (hx:a.eval x=.pointer (some ad)) (v:Value) (hrun:(loadVar t ad).run Tryz.prog w=.ok v w):(execOp a.eval o).run Tryz.prog w=.ok (.value v) w:=by
  simp only[execOp,ho,hx,Instr.loadAt,Instr.sureAddr,Sem.run_bind,Sem.run_pure,Result.andThen_ok,hrun]
theorem wp_storeV (hg:o.guard=none) (t:TypeId) (x y:Operand) (ho:o.op=.store t x y) (ad:Addr) (v:Value) (hx:a.eval x=.pointer (some ad)) (hy:a.eval y=v) (w':World) (hrun:(storeVar t ad v).run Tryz.prog w=.ok () w')
    (h:wpList Tryz.prog ops Q rest (a.put o.dst undef) w'):wpList Tryz.prog ops Q (o :: rest) a w:=by
  refine wpList_plain hg fun K hK=>?_
  unfold Oper.wp execOp
  simp only[ho,hx,hy,Instr.storeAt,Instr.sureAddr,Sem.run_bind,Sem.run_pure,Result.andThen_ok,hrun]
  exact hK _ _ h
theorem wpList_wanted (hw:Region.wanted o (yielded ops a.tmps)=true)
    (h:wpList Tryz.prog ops Q ({ o with guard:=none } :: rest) a w):wpList Tryz.prog ops Q (o :: rest) a w:=by
  have hw':Region.wanted { o with guard:=none } (yielded ops a.tmps)=true:=by simp [Region.wanted]
  unfold wpList at h ⊢
  rw [if_pos hw'] at h
  rw [if_pos hw]
  exact h
end
section
variable {ops:Array Oper} {o:Oper} {a:Act} {w w':World} {Q:Exit→Act→World→Prop} {md:Region.Mode} {S:World→Prop}
theorem exec_bin (b:BinOp) (t s:TypeId) (x y:Operand) (ho:o.op=.binOp b t x y s) (vx vy v:Value) (hx:a.eval x=vx) (hy:a.eval y=vy) (hgd:(eqGuard b t x y vx vy).run Tryz.prog w=.ok () w)
    (hrun:(binOp b t vx vy).run Tryz.prog w=.ok v w):(execOp a.eval o).run Tryz.prog w=.ok (.value v) w:=by
  simp only[execOp,ho,hx,hy,Sem.run_bind,hgd,hrun,Result.andThen_ok,Sem.run_pure]
theorem exec_build (t:TypeId) (parts:Array (Nat × Operand)) (ho:o.op=.build t parts) (cs:Array Value) (hf:Tryz.prog.built t (parts.map fun (i,x)=>(i,a.eval x)).toList=some cs):(execOp a.eval o).run Tryz.prog w=.ok (.value (.agg cs)) w:=by
  simp only[execOp,ho,Sem.run_bind,run_build w t _ cs hf,Result.andThen_ok,Sem.run_pure]
theorem exec_alloc (t:TypeId) (ho:o.op=.alloc t) (cs:Array Value) (hz:(Tryz.prog.info? t).bind (·.zero)=some (.agg cs)):(execOp a.eval o).run Tryz.prog w=.ok (.value (.pointer (some ⟨w.heap.size,0,none⟩))) (w.alloc (.cells cs t)):=by
  simp only[execOp,ho,Instr.alloc,Sem.run_bind,zero_of hz,Result.andThen_ok,newVar,newRow,run_newObj_alloc,Sem.run_pure]
  rfl
theorem any_call {i:Nat} {fuel:Nat} {listed:Array Bool} (hi:ops[i]?=some o) (hr:Region.ready md ops listed=[i]) (hw:Region.wanted o (yielded ops a.tmps)=true)
    (f:FuncId) (args:Array Value) (hrun:(execOp a.eval o).run Tryz.prog w=.ok (.enter f args) w) (C:Ending→World→Prop) (hc:Calls Tryz.prog f args w C)
    (h:∀ e w',C e w'→∃ v,e=.returned v∧S w'∧(S w'→wpAnyH Tryz.prog md ops Q S fuel (listed.setIfInBounds i true) (a.put o.dst v) w')):wpAnyH Tryz.prog md ops Q S (fuel+1) listed a w:=by
  refine wpAnyH_ready hr (by simp) (AllReadyH.cons hi (fun K hK=>?_) AllReadyH.nil)
  rw [if_pos hw]
  unfold Oper.wp
  rw [hrun,Oper.upon_enter]
  refine hc.mono fun e w' he=>?_
  obtain ⟨v,rfl,hS,hh⟩:=h e w' he
  exact hK.out _ _ hS hh
theorem any_take {i:Nat} {oi:Oper} {v:Value} {fuel:Nat} {listed:Array Bool} (hi:ops[i]?=some oi)
    (hs:Region.noSelect ops=true) (hf:Region.free md ops listed i=true) (hr:(Region.ready md ops listed).contains i=true)
    (hQ:∀ c a w,Q (.panic c) (a.put oi.dst v) w→Q (.panic c) a w) (hw:Region.wanted oi (yielded ops a.tmps)=true) (hy:∀ w,S w→(execOp a.eval oi).run Tryz.prog w=.ok (.value v) w) (hS:S w)
    (h:wpAnyH Tryz.prog md ops Q S fuel (listed.setIfInBounds i true) (a.put oi.dst v) w):wpAnyH Tryz.prog md ops Q S (fuel+1) listed a w:=
  wpAnyH_take hi hs hf hr hQ (.inl ⟨hw,hy⟩) hS h
end
section
variable {ops:Array Oper} {rest:List Oper} {o:Oper} {a:Act} {w:World} {Q:Exit→Act→World→Prop}
structure WL (ops:Array Oper) (Q:Exit→Act→World→Prop) (l:List Oper) (a:Act) (w:World):Prop where
  out:wpList Tryz.prog ops Q l a w
theorem WL.nil (h:Q .normal a w):WL ops Q [] a w:=⟨wpList_nil h⟩
theorem WL.start {id:Nat} {l:List Oper} (h:WL l.toArray Q l a w):(Code.region id l.toArray false).wp Tryz.prog Q a w:=wp_region_lit h.out
theorem wp_runW (v:Value) (w':World) (hrun:(execOp a.eval o).run Tryz.prog w=.ok (.value v) w') (hw:Region.wanted o (yielded ops a.tmps)=true)
    (h:WL ops Q rest (a.put o.dst v) w'):WL ops Q (o :: rest) a w:=
  ⟨wpList_wanted hw (wp_runTo (o:={ o with guard:=none }) rfl v w' hrun h.out)⟩
theorem wp_takeW (v:Value) (hrun:(execOp a.eval o).run Tryz.prog w=.ok (.value v) w) (hw:Region.wanted o (yielded ops a.tmps)=true)
    (h:WL ops Q rest (a.put o.dst v) w):WL ops Q (o :: rest) a w:=wp_runW v w hrun hw h
theorem wp_storeW (t:TypeId) (x y:Operand) (ho:o.op=.store t x y) (ad:Addr) (v:Value) (hx:a.eval x=.pointer (some ad)) (hy:a.eval y=v) (w':World) (hrun:(storeVar t ad v).run Tryz.prog w=.ok () w') (hw:Region.wanted o (yielded ops a.tmps)=true)
    (h:WL ops Q rest (a.put o.dst undef) w'):WL ops Q (o :: rest) a w:=
  ⟨wpList_wanted hw (wp_storeV (o:={ o with guard:=none }) rfl t x y ho ad v hx hy w' hrun h.out)⟩
theorem wp_callW (f:FuncId) (args:Array Value) (hrun:(execOp a.eval o).run Tryz.prog w=.ok (.enter f args) w) (C:Ending→World→Prop) (hc:Calls Tryz.prog f args w C) (hw:Region.wanted o (yielded ops a.tmps)=true)
    (h:∀ e w',C e w'→∃ v,e=.returned v∧WL ops Q rest (a.put o.dst v) w'):WL ops Q (o :: rest) a w:=by
  refine ⟨wpList_wanted hw (wpList_plain rfl fun K hK=>?_)⟩
  have hrun':(execOp a.eval { o with guard:=none }).run Tryz.prog w=.ok (.enter f args) w:=hrun
  unfold Oper.wp
  rw [hrun',Oper.upon_enter]
  refine hc.mono fun e w' he=>?_
  obtain ⟨v,rfl,hh⟩:=h e w' he
  exact hK _ _ hh.out
end
section
variable {ops:Array Oper} {rest:List Oper} {o:Oper} {a:Act} {w:World} {Q:Exit→Act→World→Prop} {md:Region.Mode} {S:World→Prop} {fuel:Nat} {listed:Array Bool}
end
section
variable {ops:Array Oper} {rest:List Oper} {o:Oper} {a:Act} {w w':World} {Q:Exit→Act→World→Prop} {md:Region.Mode} {S:World→Prop} {fuel:Nat} {listed:Array Bool}
end
theorem _root_.Go.Proofs.YtgdnofacgfjaeabGreat.Kept.thenNo {S:Nat→Prop} {a b c:World} (h:Kept S a b) (k:Kept No b c):Kept S a c:=h.then k.of_no
theorem _root_.Go.Proofs.YtgdnofacgfjaeabGreat.Kept.newRowS {S:Nat→Prop} {a w:World} (h:Kept S a w) {g:Nat} (hg:a.heap.size≤g) (cs:Array Value):Kept S a (w.setRow g cs):=
  h.trans (Kept.setRow _ _ _) (fun _ e=>e) (fun i hi e=>by have:i=g:=e;omega)
theorem _root_.Go.Proofs.YtgdnofacgfjaeabGreat.Kept.inRow {S:Nat→Prop} {a w:World} (h:Kept S a w) {g:Nat} (hg:S g) (cs:Array Value):Kept S a (w.setRow g cs):=
  h.trans (Kept.setRow _ _ _) (fun _ e=>e) (fun i hi e=>by have e:i=g:=e;rw [e];exact hg)
section
variable {ops:Array Oper} {o:Oper} {a:Act} {w w':World} {Q:Exit→Act→World→Prop} {md:Region.Mode} {S:World→Prop} {fuel:Nat} {listed:Array Bool}
end
theorem exec_ixA {o:Oper} {a:Act} {w:World} (t:TypeId) (n:Nat) (hu:Tryz.prog.underlying t=some (.slice (Tryz.prog.elem t))) (hs:(Tryz.prog.info? (Tryz.prog.elem t)).map (·.size)=some n)
    (x y:Operand) (ho:o.op=.indexAddr t x y) (b off len cap i:Nat) (hx:a.eval x=.slice (some ⟨b,off,none⟩) len cap) (hy:a.eval y=.int .i64 i) (hi:i < len):(execOp a.eval o).run Tryz.prog w=.ok (.value (.pointer (some ⟨b,off+i*n,none⟩))) w:=by
  cases hq:Tryz.prog.info? (Tryz.prog.elem t) with
  | none=>rw [hq] at hs;cases hs
  | some inf=>
    rw [hq] at hs
    have hsz:inf.size=n:=by simpa using hs
    have hrun:(Instr.indexAt t (.slice (some ⟨b,off,none⟩) len cap) (.int .i64 i)).run Tryz.prog w=.ok (.pointer (some ⟨b,off+i*n,none⟩)) w:=by
      rw [run_indexAt_slice w t _ len cap .i64 i hu,if_pos ⟨by omega,by omega⟩]
      simp [sizeOf,typeInfo,hq,hsz,addr_add]
    simp only[execOp,ho,hx,hy,Sem.run_bind,hrun,Result.andThen_ok,Sem.run_pure]
theorem exec_box {o:Oper} {a:Act} {w:World} (t:TypeId) (x:Operand) (ho:o.op=.box t x) (cs:Array Value) (hx:a.eval x=.agg cs):(execOp a.eval o).run Tryz.prog w=.ok (.value (.pointer (some ⟨w.heap.size,0,none⟩))) (w.alloc (.cells cs t)):=by
  simp only[execOp,ho,hx,Instr.box,Sem.run_bind,Result.andThen_ok,newVar,newRow,run_newObj_alloc,Sem.run_pure]
  rfl
theorem load_one {w:World} {ad:Addr} {t:TypeId} {d:TypeDesc} {v:Value} (hc:w.cell? ad=some v) (hu:Tryz.prog.underlying t=some d) (hd:(match d with | .struct _ | .array _ _=>true | _=>false)=false):(loadVar t ad).run Tryz.prog w=.ok v w:=by
  have hagg:(isAgg t).run Tryz.prog w=.ok false w:=by
    unfold isAgg
    rw [Sem.run_bind,run_underlying hu w]
    cases d <;> simp_all
  simp [loadVar,Sem.run_bind,hagg,hc]
theorem results_row1 {fn:Func} {p:Tmp} {t:TypeId} (h:fn.results=#[.cell p t]) (tmps:Array Value) (w:World) (g:Nat) (cs:Array Value) (hp:tmps.getD p undef=.pointer (some ⟨g,0,none⟩)) (hrun:(loadVar t ⟨g,0,none⟩).run Tryz.prog w=.ok (.agg cs) w) :
    (results fn tmps).run Tryz.prog w=.ok (.agg cs) w:=by
  have hp':tmps[p]?.getD undef=.pointer (some ⟨g,0,none⟩):=by simpa using hp
  simp [results,h,hp',asAddr,hrun]
theorem box_cells {W W':World} {row:Option Nat} {b t:Nat} {cs:Array Value} (hb:Box W b t cs) (hg:W.grownBy W' row) (hr:∀ r,row=some r→∃ o:Obj,W.heap[r]?=some o∧o.isCells=false):Box W' b t cs:=
  (hg.block b hb.lt (fun e=>by
    obtain ⟨o,ho',hc⟩:=hr b e.symm
    unfold Box at hb
    rw [hb] at ho';cases ho';cases hc)).trans hb
section
variable {F:Fence} {n:Nat} {P:Program}
end
theorem p1 {α:Type} (l:List α) (i:Nat) (v:α):l.toArray.setIfInBounds i v=(l.set i v).toArray:=List.setIfInBounds_toArray ..
theorem p2 {α:Type} (x:α) (l:List α) (v:α):(x :: l).set 0 v=v :: l:=rfl
theorem p3 {α:Type} (x:α) (l:List α) (i:Nat) (v:α):(x :: l).set (i+1) v=x :: l.set i v:=rfl
section
variable {ops:Array Oper} {rest:List Oper} {o:Oper} {a:Act} {w:World} {Q:Exit→Act→World→Prop}
theorem tW (v:Value) (hrun:(execOp a.eval o).run Tryz.prog w=.ok (.value v) w) (h:WL ops Q rest (a.put o.dst v) w) (hw:Region.wanted o (yielded ops a.tmps)=true:=by kernel_rfl):WL ops Q (o :: rest) a w:=wp_takeW v hrun hw h
theorem tK (v:Value) (h:WL ops Q rest (a.put o.dst v) w) (hrun:(execOp a.eval o).run Tryz.prog w=.ok (.value v) w:=by kernel_rfl) (hw:Region.wanted o (yielded ops a.tmps)=true:=by kernel_rfl):WL ops Q (o :: rest) a w:=wp_takeW v hrun hw h
end
theorem flat_get (c:Nat):∀ (xs:List (List Value)),(∀ x∈xs,x.length=c)→∀ (i:Nat) it,xs[i]?=some it→∀ (j:Nat) v,it[j]?=some v→xs.flatten[i*c+j]?=some v
  | [],_,i,it,h,_,_,_=>by simp at h
  | x :: xs,hc,0,it,h,j,v,hv=>by
    simp at h
    subst h
    have hj:=(List.getElem?_eq_some_iff.1 hv).1
    rw [List.flatten_cons,Nat.zero_mul,Nat.zero_add,List.getElem?_append_left hj,hv]
  | x :: xs,hc,i+1,it,h,j,v,hv=>by
    simp only[List.getElem?_cons_succ] at h
    have hx:x.length=c:=hc x (by simp)
    rw [List.flatten_cons,List.getElem?_append_right (by rw [hx,Nat.add_mul];omega),hx,show (i+1) * c+j - c=i*c+j by rw [Nat.add_mul];omega]
    exact flat_get c xs (fun y hy=>hc y (by simp [hy])) i it h j v hv
theorem flat_len (c:Nat):∀ (xs:List (List Value)),(∀ x∈xs,x.length=c)→xs.flatten.length=xs.length*c
  | [],_=>by simp
  | x :: xs,hc=>by
    rw [List.flatten_cons,List.length_append,flat_len c xs (fun y hy=>hc y (by simp [hy])),hc x (by simp),List.length_cons,Nat.add_mul];omega
theorem load_at {n:Nat} {w:World} {b off i:Nat} {it:List Value} {t:TypeId} {d:TypeDesc} (hc:∀ (j:Nat) v,it[j]?=some v→w.cell? ⟨b,off+i*n+j,none⟩=some v)
    (hu:Tryz.prog.underlying t=some d) (hd:(match d with | .struct _ | .array _ _=>true | _=>false)=true) (hi:(Tryz.prog.info? t).map (·.size)=some it.length) :
    (loadVar t ⟨b,off+i*n,none⟩).run Tryz.prog w=.ok (.agg it.toArray) w:=by
  have hl:(loadCells ⟨b,off+i*n,none⟩ it.length).run Tryz.prog w=.ok it.toArray w:=
    run_loadCells_list (P:=Tryz.prog) w ⟨b,off+i*n,none⟩ it (fun j v hv=>by rw [addr_add];exact hc j v hv)
  cases hq:Tryz.prog.info? t with
  | none=>simp [hq] at hi
  | some inf=>
    have hs:inf.size=it.length:=by simpa [hq] using hi
    have hagg:(isAgg t).run Tryz.prog w=.ok true w:=by
      unfold isAgg
      rw [Sem.run_bind,run_underlying hu w]
      cases d <;> simp_all
    simp [loadVar,Sem.run_bind,hagg,sizeOf,typeInfo,hq,hs,hl]
theorem _root_.Go.Proofs.YtgdnofacgfjaeabGreat.Own.cap0 {t:TypeId} {c:Nat} {w:World} {base:Nat} {a:Option Addr} {cap n:Nat} {vs:List Value} (h:Own t c w base a cap n vs) (ha:a=none):cap=0:=by
  rcases h.cases h.1 with ⟨_,h,_⟩ | ⟨g,e,_⟩
  · exact h
  · rw [ha] at e;cases e
theorem _root_.Go.Proofs.YtgdnofacgfjaeabGreat.Own.lt {t:TypeId} {c:Nat} {w:World} {base:Nat} {a:Option Addr} {cap n:Nat} {vs:List Value} (h:Own t c w base a cap n vs) {k:Nat} (hk:At a k):k < w.heap.size:=by
  rcases h.cases h.1 with ⟨rfl,_⟩ | ⟨g,rfl,_,hg,_⟩
  · exact absurd hk At.none
  · obtain ⟨ad,e,rfl⟩:=hk;cases e;exact hg
theorem _root_.Go.Proofs.YtgdnofacgfjaeabGreat.Own.notBox {t:TypeId} {c:Nat} {w:World} {base:Nat} {a:Option Addr} {cap n:Nat} {vs:List Value} (h:Own t c w base a cap n vs) {g:Nat} {T:TypeId} {cs:Array Value} (hb:Box w g T cs) (hne:t≠T):¬ At a g:=by
  rintro ⟨ad,e,rfl⟩
  rcases h.cases h.1 with ⟨rfl,_⟩ | ⟨g,rfl,_,hg,sp,hbx,_⟩
  · cases e
  · cases e
    exact box_ne hbx hb hne rfl
theorem _root_.Go.Proofs.YtgdnofacgfjaeabGreat.Own.apart {t t':TypeId} {c c':Nat} {w:World} {base base':Nat} {a a':Option Addr} {cap n cap' n':Nat} {vs vs':List Value} (h:Own t c w base a cap n vs) (h':Own t' c' w base' a' cap' n' vs') (hne:t≠t') {k:Nat} (hk:At a k):¬ At a' k:=by
  rcases h.cases h.1 with ⟨rfl,_⟩ | ⟨g,rfl,_,hg,sp,hbx,_⟩
  · exact absurd hk At.none
  · obtain ⟨ad,e,rfl⟩:=hk
    cases e
    exact h'.notBox hbx (fun e=>hne e.symm)
section
end
structure En where
  nm:ByteArray
  f0:Int
  f1:Int
  sz:Int
structure La where
  cl:Int
  op:Int
  ins:Int
  er:Int
  f0:Int
  f1:Int
  sz:Int
structure Cm where
  k:Int
  cl:Int
  op:Int
  nm:ByteArray
  f0:Int
  f1:Int
  g0:Int
  g1:Int
  sz:Int
def enZ:En:=⟨⟨#[]⟩,0,0,0⟩
def laZ:La:=⟨0,0,0,0,0,0,0⟩
def cZ:Cm:=⟨0,0,0,⟨#[]⟩,0,0,0,0,0⟩
instance:Inhabited En:=⟨enZ⟩
instance:Inhabited La:=⟨laZ⟩
instance:Inhabited Cm:=⟨cZ⟩
def En.cs (e:En):List Value:=[.string e.nm,.int .i64 e.f0,.int .i64 e.f1,.int .i64 e.sz]
def La.cs (l:La):List Value:=[.int .i64 l.cl,.int .i64 l.op,.int .i64 l.ins,.int .i64 l.er,.int .i64 l.f0,.int .i64 l.f1,.int .i64 l.sz]
def Cm.cs (c:Cm):List Value:=[.int .i64 c.k,.int .i64 c.cl,.int .i64 c.op,.string c.nm,.int .i64 c.f0,.int .i64 c.f1,.int .i64 c.g0,.int .i64 c.g1,.int .i64 c.sz]
def En.cells (e:En):Array Value:=e.cs.toArray
def La.cells (l:La):Array Value:=l.cs.toArray
def Cm.cells (c:Cm):Array Value:=c.cs.toArray
structure Sl where
  a:Option Addr
  l:Nat
  k:Nat
def Sl.v (s:Sl):Value:=.slice s.a s.l s.k
def slZ:Sl:=⟨none,0,0⟩
structure Bv where
  up:Int
  e:Sl
  l:Sl
structure Av where
  er:Int
  e:En
  l:Sl
def bvZ:Bv:=⟨0,slZ,slZ⟩
def Bv.cs (b:Bv):List Value:=[.int .i64 b.up,b.e.v,b.l.v]
def Av.cs (a:Av):List Value:=[.int .i64 a.er,.string a.e.nm,.int .i64 a.e.f0,.int .i64 a.e.f1,.int .i64 a.e.sz,a.l.v]
def Bv.cells (b:Bv):Array Value:=b.cs.toArray
def Av.cells (a:Av):Array Value:=a.cs.toArray
theorem En.one (e:En):e.cells.all (·.oneCell')=true:=by simp [En.cells,En.cs,Value.oneCell']
theorem La.one (e:La):e.cells.all (·.oneCell')=true:=by simp [La.cells,La.cs,Value.oneCell']
theorem Cm.one (e:Cm):e.cells.all (·.oneCell')=true:=by simp [Cm.cells,Cm.cs,Value.oneCell']
theorem Bv.one (e:Bv):e.cells.all (·.oneCell')=true:=by simp [Bv.cells,Bv.cs,Sl.v,Value.oneCell']
theorem Av.one (e:Av):e.cells.all (·.oneCell')=true:=by simp [Av.cells,Av.cs,Sl.v,Value.oneCell']
theorem En.oneL (e:En):∀ v∈e.cs,v.oneCell'=true:=by simp [En.cs,Value.oneCell']
theorem La.oneL (e:La):∀ v∈e.cs,v.oneCell'=true:=by simp [La.cs,Value.oneCell']
theorem Cm.oneL (e:Cm):∀ v∈e.cs,v.oneCell'=true:=by simp [Cm.cs,Value.oneCell']
theorem Tryz.und71:Tryz.prog.underlying 43=some (.struct (Tryz.prog.fieldsOf 43)):=by kernel_rfl
theorem Tryz.und31:Tryz.prog.underlying 45=some (.struct (Tryz.prog.fieldsOf 45)):=by kernel_rfl
theorem Tryz.und110:Tryz.prog.underlying 106=some (.struct (Tryz.prog.fieldsOf 106)):=by kernel_rfl
theorem Tryz.und91:Tryz.prog.underlying 108=some (.struct (Tryz.prog.fieldsOf 108)):=by kernel_rfl
theorem Tryz.size110:(Tryz.prog.info? 106).map (·.size)=some 4:=by kernel_rfl
theorem Tryz.size91:(Tryz.prog.info? 108).map (·.size)=some 7:=by kernel_rfl
theorem Tryz.und89:Tryz.prog.underlying 31=some (.int .i64):=by kernel_rfl
section
variable {ops:Array Oper} {rest:List Oper} {o:Oper} {a:Act} {w:World} {Q:Exit→Act→World→Prop}
end
section
variable {ops:Array Oper} {o:Oper} {a:Act} {w w':World} {Q:Exit→Act→World→Prop} {md:Region.Mode} {S:World→Prop}
end
section
variable {ops:Array Oper} {rest:List Oper} {o:Oper} {a:Act} {w:World} {Q:Exit→Act→World→Prop}
end
section
variable {ops:Array Oper} {o:Oper} {a:Act} {w w':World} {Q:Exit→Act→World→Prop} {md:Region.Mode} {S:World→Prop} {fuel:Nat} {listed:Array Bool}
end
section
variable {ops:Array Oper} {rest:List Oper} {o:Oper} {a:Act} {w:World} {Q:Exit→Act→World→Prop} {md:Region.Mode} {S:World→Prop}
end
structure Fr (S:Nat→Prop) (w0 w:World) (l:List (Nat × TypeId × Array Value)):Prop where
  kept:Kept S w0 w
  box:∀ (i:Nat) g T cs,l[i]?=some (g,T,cs)→Box w g T cs
  low:∀ (i:Nat) g T cs,l[i]?=some (g,T,cs)→w0.heap.size≤g
  inj:∀ (i j:Nat) g T cs T' cs',l[i]?=some (g,T,cs)→l[j]?=some (g,T',cs')→i=j
theorem Fr.start (S:Nat→Prop) (w:World):Fr S w w []:=⟨Kept.refl S w,by simp,by simp,by simp⟩
theorem Fr.drew {S:Nat→Prop} {w0 w:World} {l:List (Nat × TypeId × Array Value)} (h:Fr S w0 w l):Fr S w0 w.drew l:=⟨h.kept.drew,h.box,h.low,h.inj⟩
theorem Fr.alloc {S:Nat→Prop} {w0 w:World} {l:List (Nat × TypeId × Array Value)} (h:Fr S w0 w l) (T:TypeId) (cs:Array Value):Fr S w0 (w.alloc (.cells cs T)) (l++[(w.heap.size,T,cs)]):=by
  refine ⟨h.kept.alloc _,?_,?_,?_⟩
  · intro i g T' cs' hi
    rw [List.getElem?_append] at hi
    split at hi
    · exact (h.box i g T' cs' hi).alloc _
    · obtain ⟨rfl,rfl,rfl⟩:w.heap.size=g∧T=T'∧cs=cs':=by
        have:=List.mem_of_getElem? hi
        simpa [eq_comm] using this
      exact Box.new _ _ _
  · intro i g T' cs' hi
    rw [List.getElem?_append] at hi
    split at hi
    · exact h.low i g T' cs' hi
    · obtain ⟨rfl,rfl,rfl⟩:w.heap.size=g∧T=T'∧cs=cs':=by
        have:=List.mem_of_getElem? hi
        simpa [eq_comm] using this
      exact h.kept.size
  · intro i j g T1 cs1 T2 cs2 hi hj
    rw [List.getElem?_append] at hi hj
    split at hi <;> split at hj
    · exact h.inj i j g T1 cs1 T2 cs2 hi hj
    · have h1:=(h.box i g T1 cs1 hi).lt
      have h2:g=w.heap.size:=by have:=List.mem_of_getElem? hj;simp at this;exact this.1
      omega
    · have h1:=(h.box j g T2 cs2 hj).lt
      have h2:g=w.heap.size:=by have:=List.mem_of_getElem? hi;simp at this;exact this.1
      omega
    · have h1:=(List.getElem?_eq_some_iff.1 hi).1
      have h2:=(List.getElem?_eq_some_iff.1 hj).1
      simp at h1 h2
      omega
theorem Fr.set {S:Nat→Prop} {w0 w:World} {l:List (Nat × TypeId × Array Value)} (h:Fr S w0 w l) (i:Nat) {g:Nat} {T:TypeId} {cs:Array Value} (hi:l[i]?=some (g,T,cs)) (cs':Array Value):Fr S w0 (w.setRow g cs') (l.set i (g,T,cs')):=by
  have hlt:=(List.getElem?_eq_some_iff.1 hi).1
  have key:∀ (j:Nat) g1 T1 cs1,(l.set i (g,T,cs'))[j]?=some (g1,T1,cs1)→(j=i∧g1=g∧T1=T∧cs1=cs')∨(j≠i∧l[j]?=some (g1,T1,cs1)):=by
    intro j g1 T1 cs1 hj
    rw [List.getElem?_set] at hj
    by_cases e:i=j
    · subst e
      simp [hlt] at hj
      exact .inl ⟨rfl,hj.1.symm,hj.2.1.symm,hj.2.2.symm⟩
    · simp [e] at hj
      exact .inr ⟨fun h=>e h.symm,hj⟩
  refine ⟨h.kept.newRowS (h.low i g T cs hi) _,?_,?_,?_⟩
  · intro j g1 T1 cs1 hj
    rcases key j g1 T1 cs1 hj with ⟨rfl,rfl,rfl,rfl⟩ | ⟨hne,hj2⟩
    · exact (h.box _ _ _ _ hi).setRow _
    · refine (h.box j g1 T1 cs1 hj2).rowNe (fun e=>hne ?_) _
      subst e
      exact h.inj j i _ _ _ _ _ hj2 hi
  · intro j g1 T1 cs1 hj
    rcases key j g1 T1 cs1 hj with ⟨rfl,rfl,rfl,rfl⟩ | ⟨hne,hj⟩
    · exact h.low _ _ _ _ hi
    · exact h.low j g1 T1 cs1 hj
  · intro j k g1 T1 cs1 T2 cs2 hj hk
    rcases key j g1 T1 cs1 hj with ⟨rfl,rfl,rfl,rfl⟩ | ⟨hne,hj2⟩ <;> rcases key k g1 T2 cs2 hk with ⟨rfl,h1,h2,h3⟩ | ⟨hne',hk2⟩
    · rfl
    · exact h.inj _ _ _ _ _ _ _ hi hk2
    · subst h1;exact h.inj _ _ _ _ _ _ _ hj2 hi
    · exact h.inj _ _ _ _ _ _ _ hj2 hk2
theorem Fr.no {S:Nat→Prop} {w0 w w':World} {l:List (Nat × TypeId × Array Value)} (h:Fr S w0 w l) (hk:Kept No w w'):Fr S w0 w' l:=
  ⟨h.kept.thenNo hk,fun i g T cs hi=>(h.box i g T cs hi).kept hk (fun e=>e),h.low,h.inj⟩
theorem Fr.drop {S:Nat→Prop} {w0 w:World} {l:List (Nat × TypeId × Array Value)} (h:Fr S w0 w l):Fr S w0 w []:=⟨h.kept,by simp,by simp,by simp⟩
def RowsAt (n:Nat) (w:World) (a:Option Addr) (xs:List (List Value)):Prop:=
  ∀ (i:Nat) it,xs[i]?=some it→∃ b off,a=some ⟨b,off,none⟩∧∀ (j:Nat) v,it[j]?=some v→w.cell? ⟨b,off+i*n+j,none⟩=some v
theorem RowsAt.kept {n:Nat} {S:Nat→Prop} {w w':World} {a:Option Addr} {xs:List (List Value)} (h:RowsAt n w a xs) (hk:Kept S w w') (hS:∀ k,At a k→¬ S k):RowsAt n w' a xs:=by
  intro i it hi
  obtain ⟨b,off,e,c⟩:=h i it hi
  exact ⟨b,off,e,fun j v hv=>hk.cell (c j v hv) (hS b ⟨_,e,rfl⟩)⟩
theorem RowsAt.no {n:Nat} {w w':World} {a:Option Addr} {xs:List (List Value)} (h:RowsAt n w a xs) (hk:Kept No w w'):RowsAt n w' a xs:=h.kept hk (fun _ _ e=>e)
theorem RowsAt.nil (n:Nat) (w:World) (a:Option Addr):RowsAt n w a []:=fun i it h=>by simp at h
theorem _root_.Go.Proofs.YtgdnofacgfjaeabGreat.Own.rows {t:TypeId} {c:Nat} {w:World} {base:Nat} {a:Option Addr} {cap n:Nat} {xs:List (List Value)} (h:Own t c w base a cap n xs.flatten) (hc:∀ x∈xs,x.length=c) (h0c:0 < c):RowsAt c w a xs:=by
  rcases h.cases h.1 with ⟨rfl,_,h0⟩ | ⟨g,rfl,_,_,sp,hg,_⟩
  · intro i it hi
    have hl:=h.1
    rw [flat_len c xs hc,h0,Nat.zero_mul] at hl
    have hi':=(List.getElem?_eq_some_iff.1 hi).1
    have:xs.length=0:=by rcases Nat.mul_eq_zero.1 hl with h | h <;> omega
    omega
  · intro i it hi
    refine ⟨g,0,rfl,fun j v hv=>?_⟩
    have:=flat_get c xs hc i it hi j v hv
    have hlt:=(List.getElem?_eq_some_iff.1 this).1
    rw [Nat.zero_add,cell_of_row w g _ _ t (0,0) hg,List.getElem?_toArray,List.getElem?_append_left hlt,this]
def enL (es:List En):List Value:=(es.map En.cs).flatten
def laL (es:List La):List Value:=(es.map La.cs).flatten
def Es (w:World) (a:Option Addr) (es:List En):Prop:=RowsAt 4 w a (es.map En.cs)
def Ls (w:World) (a:Option Addr) (es:List La):Prop:=RowsAt 7 w a (es.map La.cs)
def Cs (w:World) (a:Option Addr) (es:List Cm):Prop:=RowsAt 9 w a (es.map Cm.cs)
theorem enL_c (es:List En):∀ x∈es.map En.cs,x.length=4:=by intro x hx;obtain ⟨e,_,rfl⟩:=List.mem_map.1 hx;rfl
theorem laL_c (es:List La):∀ x∈es.map La.cs,x.length=7:=by intro x hx;obtain ⟨e,_,rfl⟩:=List.mem_map.1 hx;rfl
theorem enL_len (es:List En):(enL es).length=es.length*4:=by unfold enL;rw [flat_len 4 _ (enL_c es),List.length_map]
theorem laL_len (es:List La):(laL es).length=es.length*7:=by unfold laL;rw [flat_len 7 _ (laL_c es),List.length_map]
def eAt (es:List En) (i:Nat):En:=es[i]?.getD enZ
def lAt (es:List La) (i:Nat):La:=es[i]?.getD laZ
def cAt (es:List Cm) (i:Nat):Cm:=es[i]?.getD cZ
theorem eAt_some {es:List En} {i:Nat} (h:i < es.length):es[i]?=some (eAt es i):=by simp [eAt,List.getElem?_eq_getElem h]
theorem lAt_some {es:List La} {i:Nat} (h:i < es.length):es[i]?=some (lAt es i):=by simp [lAt,List.getElem?_eq_getElem h]
theorem cAt_some {es:List Cm} {i:Nat} (h:i < es.length):es[i]?=some (cAt es i):=by simp [cAt,List.getElem?_eq_getElem h]
theorem Es.at {w:World} {a:Option Addr} {es:List En} (h:Es w a es) {i:Nat} (hi:i < es.length):∃ b off,a=some ⟨b,off,none⟩∧∀ (j:Nat) v,(eAt es i).cs[j]?=some v→w.cell? ⟨b,off+i*4+j,none⟩=some v:=
  h i _ (by rw [List.getElem?_map,eAt_some hi];rfl)
theorem Ls.at {w:World} {a:Option Addr} {es:List La} (h:Ls w a es) {i:Nat} (hi:i < es.length):∃ b off,a=some ⟨b,off,none⟩∧∀ (j:Nat) v,(lAt es i).cs[j]?=some v→w.cell? ⟨b,off+i*7+j,none⟩=some v:=
  h i _ (by rw [List.getElem?_map,lAt_some hi];rfl)
theorem Cs.at {w:World} {a:Option Addr} {es:List Cm} (h:Cs w a es) {i:Nat} (hi:i < es.length):∃ b off,a=some ⟨b,off,none⟩∧∀ (j:Nat) v,(cAt es i).cs[j]?=some v→w.cell? ⟨b,off+i*9+j,none⟩=some v:=
  h i _ (by rw [List.getElem?_map,cAt_some hi];rfl)
theorem load_E {w:World} {b off i:Nat} {e:En} (hc:∀ (j:Nat) v,e.cs[j]?=some v→w.cell? ⟨b,off+i*4+j,none⟩=some v):(loadVar 106 ⟨b,off+i*4,none⟩).run Tryz.prog w=.ok (.agg e.cells) w:=load_at hc Tryz.und110 rfl Tryz.size110
theorem load_L {w:World} {b off i:Nat} {e:La} (hc:∀ (j:Nat) v,e.cs[j]?=some v→w.cell? ⟨b,off+i*7+j,none⟩=some v):(loadVar 108 ⟨b,off+i*7,none⟩).run Tryz.prog w=.ok (.agg e.cells) w:=load_at hc Tryz.und91 rfl Tryz.size91
theorem b_lss (x y:Int) (w:World):(binOp .lss 3 (.int .i64 x) (.int .i64 y)).run Tryz.prog w=.ok (.bool (decide (x < y))) w:=by kernel_rfl
theorem Fr.ne {S:Nat→Prop} {w0 w:World} {l:List (Nat × TypeId × Array Value)} (h:Fr S w0 w l) (i j:Nat) {g g':Nat} {T T':TypeId} {cs cs':Array Value} (hi:l[i]?=some (g,T,cs)) (hj:l[j]?=some (g',T',cs')) (hne:i≠j):g≠g':=by
  rintro rfl
  exact hne (h.inj i j _ _ _ _ _ hi hj)
def bs (p:Nat→Bool):Nat→Nat→Nat→Nat
  | 0,lo,_=>lo
  | f+1,lo,hi=>if lo < hi then (if p ((lo+hi) / 2) then bs p f ((lo+hi) / 2+1) hi else bs p f lo ((lo+hi) / 2)) else lo
structure Bk where
  up:Int
  es:List En
  ls:List La
structure An where
  er:Int
  e:En
  l:List En
def eqF (a b c d:Int):Bool:=a==c&&b==d
def eqN (a b:ByteArray):Bool:=a.toList==b.toList
def eqE (a b:En):Bool:=eqN a.nm b.nm&&(eqF a.f0 a.f1 b.f0 b.f1&&a.sz==b.sz)
def eqL (a b:La):Bool:=a.cl==b.cl&&(a.op==b.op&&(a.ins==b.ins&&(a.er==b.er&&(eqF a.f0 a.f1 b.f0 b.f1&&a.sz==b.sz))))
theorem eqN_iff {a b:ByteArray}:eqN a b=true↔a=b:=by
  unfold eqN
  rw [ByteArray.toList_eq,ByteArray.toList_eq]
  constructor
  · intro h
    cases a;cases b
    simp at h
    simp [h]
  · rintro rfl;simp
theorem eqE_iff {a b:En}:eqE a b=true↔a=b:=by
  cases a;cases b
  simp [eqE,eqN_iff,eqF,and_assoc]
theorem eqL_iff {a b:La}:eqL a b=true↔a=b:=by
  cases a;cases b
  simp [eqL,eqF,and_assoc]
def fld (n : String) (t : TypeId) (o : Nat) (b : Nat) : Field := { name := n, type := t, offset := o, embedded := false, tag := "", pkgPath := "", byteOffset := b }
theorem flds45 : (Tryz.prog.fieldsOf 43).toList = [fld "Client" 3 0 0, fld "Op" 3 1 8] := by kernel_rfl
theorem flds110 : (Tryz.prog.fieldsOf 106).toList = [fld "Name" 9 0 0, fld "File" 43 1 16, fld "Size" 3 3 32] := by kernel_rfl
theorem flds113 : (Tryz.prog.fieldsOf 108).toList = [fld "Client" 3 0 0, fld "Op" 3 1 8, fld "Instance" 3 2 16, fld "Err" 31 3 24, fld "File" 43 4 32, fld "Size" 3 6 48] := by kernel_rfl
theorem eqInt111 (d:Nat) (a b:Int) (w:World):(Op.equalIn (d+1) 31 (.int .i64 a) (.int .i64 b)).run Tryz.prog w=.ok (a==b) w:=run_equalIn_int w d 31 .i64 .i64 a b Tryz.und89
theorem eq45 (d:Nat) (n c m e:Int) (w:World):(Op.equalIn (d+2) 43 (.agg #[.int .i64 n,.int .i64 c]) (.agg #[.int .i64 m,.int .i64 e])).run Tryz.prog w=.ok (eqF n c m e) w:=by
  have h0:∀ (a c:Int) (w:World),(part 3 #[.int .i64 a,.int .i64 c] 0).run Tryz.prog w=.ok (.int .i64 a) w:=fun a c w=>by kernel_rfl
  have h1:∀ (a c:Int) (w:World),(part 3 #[.int .i64 a,.int .i64 c] 1).run Tryz.prog w=.ok (.int .i64 c) w:=fun a c w=>by kernel_rfl
  rw [show d+2=(d+1)+1 from rfl,run_equalIn_struct w (d+1) 43 _ _ Tryz.und71 (by kernel_rfl),flds45]
  unfold eqF
  cases h:n==m <;> cases h':c==e <;> simp [Op.eqFields,fld,h0,h1,eqInt,h,h',Result.andThen]
theorem eq110 (d:Nat) (a b:En) (w:World):(Op.equalIn (d+3) 106 (.agg a.cells) (.agg b.cells)).run Tryz.prog w=.ok (eqE a b) w:=by
  have h0:∀ (a:En) (w:World),(part 9 a.cells 0).run Tryz.prog w=.ok (.string a.nm) w:=fun a w=>by kernel_rfl
  have h1:∀ (a:En) (w:World),(part 43 a.cells 1).run Tryz.prog w=.ok (.agg #[.int .i64 a.f0,.int .i64 a.f1]) w:=fun a w=>by kernel_rfl
  have h2:∀ (a:En) (w:World),(part 3 a.cells 3).run Tryz.prog w=.ok (.int .i64 a.sz) w:=fun a w=>by kernel_rfl
  have hI:∀ (a b:Int) (w:World),(Op.equalIn (d+2) 3 (.int .i64 a) (.int .i64 b)).run Tryz.prog w=.ok (a==b) w:=eqInt (d+1)
  have hS:∀ (a b:ByteArray) (w:World),(Op.equalIn (d+2) 9 (.string a) (.string b)).run Tryz.prog w=.ok (eqN a b) w:=fun a b w=>run_equalIn_string w (d+1) 9 a b Tryz.und9
  have hF:∀ (n c m e:Int) (w:World),(Op.equalIn (d+2) 43 (.agg #[.int .i64 n,.int .i64 c]) (.agg #[.int .i64 m,.int .i64 e])).run Tryz.prog w=.ok (eqF n c m e) w:=eq45 d
  rw [show d+3=(d+2)+1 from rfl,run_equalIn_struct w (d+2) 106 _ _ Tryz.und110 (by kernel_rfl),flds110]
  unfold eqE
  generalize e1:eqN a.nm b.nm=q1
  generalize e2:eqF a.f0 a.f1 b.f0 b.f1=q2
  generalize e3:(a.sz==b.sz)=q3
  cases q1
  · simp [Op.eqFields,fld,h0,hS,e1,Result.andThen]
  cases q2
  · simp [Op.eqFields,fld,h0,h1,hS,hF,e1,e2,Result.andThen]
  cases q3
  · simp [Op.eqFields,fld,h0,h1,h2,hI,hS,hF,e1,e2,e3,Result.andThen]
  · simp [Op.eqFields,fld,h0,h1,h2,hI,hS,hF,e1,e2,e3,Result.andThen]
theorem eq113 (d:Nat) (a b:La) (w:World):(Op.equalIn (d+3) 108 (.agg a.cells) (.agg b.cells)).run Tryz.prog w=.ok (eqL a b) w:=by
  have h0:∀ (a:La) (w:World),(part 3 a.cells 0).run Tryz.prog w=.ok (.int .i64 a.cl) w:=fun a w=>by kernel_rfl
  have h1:∀ (a:La) (w:World),(part 3 a.cells 1).run Tryz.prog w=.ok (.int .i64 a.op) w:=fun a w=>by kernel_rfl
  have h2:∀ (a:La) (w:World),(part 3 a.cells 2).run Tryz.prog w=.ok (.int .i64 a.ins) w:=fun a w=>by kernel_rfl
  have h3:∀ (a:La) (w:World),(part 31 a.cells 3).run Tryz.prog w=.ok (.int .i64 a.er) w:=fun a w=>by kernel_rfl
  have h4:∀ (a:La) (w:World),(part 43 a.cells 4).run Tryz.prog w=.ok (.agg #[.int .i64 a.f0,.int .i64 a.f1]) w:=fun a w=>by kernel_rfl
  have h5:∀ (a:La) (w:World),(part 3 a.cells 6).run Tryz.prog w=.ok (.int .i64 a.sz) w:=fun a w=>by kernel_rfl
  have hI:∀ (a b:Int) (w:World),(Op.equalIn (d+2) 3 (.int .i64 a) (.int .i64 b)).run Tryz.prog w=.ok (a==b) w:=eqInt (d+1)
  have hJ:∀ (a b:Int) (w:World),(Op.equalIn (d+2) 31 (.int .i64 a) (.int .i64 b)).run Tryz.prog w=.ok (a==b) w:=eqInt111 (d+1)
  have hF:∀ (n c m e:Int) (w:World),(Op.equalIn (d+2) 43 (.agg #[.int .i64 n,.int .i64 c]) (.agg #[.int .i64 m,.int .i64 e])).run Tryz.prog w=.ok (eqF n c m e) w:=eq45 d
  rw [show d+3=(d+2)+1 from rfl,run_equalIn_struct w (d+2) 108 _ _ Tryz.und91 (by kernel_rfl),flds113]
  unfold eqL
  generalize e1:(a.cl==b.cl)=q1
  generalize e2:(a.op==b.op)=q2
  generalize e3:(a.ins==b.ins)=q3
  generalize e4:(a.er==b.er)=q4
  generalize e5:eqF a.f0 a.f1 b.f0 b.f1=q5
  generalize e6:(a.sz==b.sz)=q6
  cases q1
  · simp [Op.eqFields,fld,h0,hI,e1,Result.andThen]
  cases q2
  · simp [Op.eqFields,fld,h0,h1,hI,e1,e2,Result.andThen]
  cases q3
  · simp [Op.eqFields,fld,h0,h1,h2,hI,e1,e2,e3,Result.andThen]
  cases q4
  · simp [Op.eqFields,fld,h0,h1,h2,h3,hI,hJ,e1,e2,e3,e4,Result.andThen]
  cases q5
  · simp [Op.eqFields,fld,h0,h1,h2,h3,h4,hI,hJ,hF,e1,e2,e3,e4,e5,Result.andThen]
  cases q6
  · simp [Op.eqFields,fld,h0,h1,h2,h3,h4,h5,hI,hJ,hF,e1,e2,e3,e4,e5,e6,Result.andThen]
  · simp [Op.eqFields,fld,h0,h1,h2,h3,h4,h5,hI,hJ,hF,e1,e2,e3,e4,e5,e6,Result.andThen]
theorem b_eql (a b:Int) (w:World):(binOp .eql 3 (.int .i64 a) (.int .i64 b)).run Tryz.prog w=.ok (.bool (a==b)) w:=by
  kernel_rfl
theorem b_neq (a b:Int) (w:World):(binOp .neq 3 (.int .i64 a) (.int .i64 b)).run Tryz.prog w=.ok (.bool (!(a==b))) w:=by
  kernel_rfl
theorem eqE_neq (a b:En) (w:World):(binOp .neq 106 (.agg a.cells) (.agg b.cells)).run Tryz.prog w=.ok (.bool (!eqE a b)) w:=by
  rw [run_neq_struct,eq110 9997];rfl
theorem eqL_neq (a b:La) (w:World):(binOp .neq 108 (.agg a.cells) (.agg b.cells)).run Tryz.prog w=.ok (.bool (!eqL a b)) w:=by
  rw [run_neq_struct,eq113 9997];rfl
structure RdE (w:World) (s:Sl) (es:List En):Prop where
  row:Es w s.a es
  len:es.length=s.l
  cap:s.a=none→s.k=0
structure RdL (w:World) (s:Sl) (es:List La):Prop where
  row:Ls w s.a es
  len:es.length=s.l
  cap:s.a=none→s.k=0
theorem RdE.kept {S:Nat→Prop} {w w':World} {s:Sl} {es:List En} (h:RdE w s es) (hk:Kept S w w') (hS:∀ k,At s.a k→¬ S k):RdE w' s es:=⟨RowsAt.kept h.row hk hS,h.len,h.cap⟩
theorem RdL.kept {S:Nat→Prop} {w w':World} {s:Sl} {es:List La} (h:RdL w s es) (hk:Kept S w w') (hS:∀ k,At s.a k→¬ S k):RdL w' s es:=⟨RowsAt.kept h.row hk hS,h.len,h.cap⟩
theorem RdE.no {w w':World} {s:Sl} {es:List En} (h:RdE w s es) (hk:Kept No w w'):RdE w' s es:=h.kept hk (fun _ _ e=>e)
theorem RdL.no {w w':World} {s:Sl} {es:List La} (h:RdL w s es) (hk:Kept No w w'):RdL w' s es:=h.kept hk (fun _ _ e=>e)
theorem RdE.src {w:World} {s:Sl} {es:List En} (h:RdE w s es):∀ (j:Nat) u,(enL es)[j]?=some u→∃ ad,s.a=some ad∧w.cell? (ad.add j)=some u:=by
  intro j u hj
  have hlt:=(List.getElem?_eq_some_iff.1 hj).1
  rw [enL_len] at hlt
  have hi:j / 4 < es.length:=by omega
  obtain ⟨b,off,e,hc⟩:=h.row.at hi
  refine ⟨_,e,?_⟩
  have hj4:j % 4 < (eAt es (j / 4)).cs.length:=by have:(eAt es (j / 4)).cs.length=4:=rfl;omega
  have:=flat_get 4 (es.map En.cs) (enL_c es) (j / 4) (eAt es (j / 4)).cs (by rw [List.getElem?_map,eAt_some hi];rfl) (j % 4) _ (List.getElem?_eq_getElem hj4)
  rw [show j / 4*4+j % 4=j by omega] at this
  have e2:(eAt es (j / 4)).cs[j % 4]?=some u:=by rw [List.getElem?_eq_getElem hj4,← this];exact hj
  rw [addr_add,show off+j=off+j / 4*4+j % 4 by omega]
  exact hc _ _ e2
theorem RdL.src {w:World} {s:Sl} {es:List La} (h:RdL w s es):∀ (j:Nat) u,(laL es)[j]?=some u→∃ ad,s.a=some ad∧w.cell? (ad.add j)=some u:=by
  intro j u hj
  have hlt:=(List.getElem?_eq_some_iff.1 hj).1
  rw [laL_len] at hlt
  have hi:j / 7 < es.length:=by omega
  obtain ⟨b,off,e,hc⟩:=h.row.at hi
  refine ⟨_,e,?_⟩
  have hj4:j % 7 < (lAt es (j / 7)).cs.length:=by have:(lAt es (j / 7)).cs.length=7:=rfl;omega
  have:=flat_get 7 (es.map La.cs) (laL_c es) (j / 7) (lAt es (j / 7)).cs (by rw [List.getElem?_map,lAt_some hi];rfl) (j % 7) _ (List.getElem?_eq_getElem hj4)
  rw [show j / 7*7+j % 7=j by omega] at this
  have e2:(lAt es (j / 7)).cs[j % 7]?=some u:=by rw [List.getElem?_eq_getElem hj4,← this];exact hj
  rw [addr_add,show off+j=off+j / 7*7+j % 7 by omega]
  exact hc _ _ e2
structure OwE (w:World) (base:Nat) (s:Sl) (es:List En):Prop where
  own:Own 79 4 w base s.a s.k s.l (enL es)
  len:es.length=s.l
structure OwL (w:World) (base:Nat) (s:Sl) (es:List La):Prop where
  own:Own 179 7 w base s.a s.k s.l (laL es)
  len:es.length=s.l
theorem OwE.rd {w:World} {base:Nat} {s:Sl} {es:List En} (h:OwE w base s es):RdE w s es:=⟨Own.rows h.own (enL_c es) (by omega),h.len,h.own.cap0⟩
theorem OwL.rd {w:World} {base:Nat} {s:Sl} {es:List La} (h:OwL w base s es):RdL w s es:=⟨Own.rows h.own (laL_c es) (by omega),h.len,h.own.cap0⟩
theorem OwE.kept {S:Nat→Prop} {w w':World} {base:Nat} {s:Sl} {es:List En} (h:OwE w base s es) (hk:Kept S w w') (hS:∀ k,At s.a k→¬ S k):OwE w' base s es:=⟨h.own.kept hk hS,h.len⟩
theorem OwL.kept {S:Nat→Prop} {w w':World} {base:Nat} {s:Sl} {es:List La} (h:OwL w base s es) (hk:Kept S w w') (hS:∀ k,At s.a k→¬ S k):OwL w' base s es:=⟨h.own.kept hk hS,h.len⟩
theorem OwE.no {w w':World} {base:Nat} {s:Sl} {es:List En} (h:OwE w base s es) (hk:Kept No w w'):OwE w' base s es:=h.kept hk (fun _ _ e=>e)
theorem OwL.no {w w':World} {base:Nat} {s:Sl} {es:List La} (h:OwL w base s es) (hk:Kept No w w'):OwL w' base s es:=h.kept hk (fun _ _ e=>e)
theorem OwE.nil (w:World) (base:Nat):OwE w base slZ []:=⟨Own.nil _ _ _ _,rfl⟩
theorem OwL.nil (w:World) (base:Nat):OwL w base slZ []:=⟨Own.nil _ _ _ _,rfl⟩
section
variable {o:Oper} {a:Act} {w:World}
end
theorem _root_.Go.Proofs.YtgdnofacgfjaeabGreat.Own.op {t:TypeId} {c:Nat} {w:World} {base:Nat} {a:Option Addr} {cap n:Nat} {vs:List Value} (h:Own t c w base a cap n vs) (h0:0 < n) :
    ∃ g cur,a=some ⟨g,0,none⟩∧base≤g∧Box w g t (List.toArray cur)∧n≤cap∧cap≤9223372036854775807∧cur.length=cap*c∧cur.take (n*c)=vs:=by
  rcases h.2 with ⟨hv,hn⟩ | ⟨g,cap',cur,hv,hb,hg,hle,hm,hs,ht⟩
  · omega
  · simp only[Value.slice.injEq] at hv
    obtain ⟨rfl,-,rfl⟩:=hv
    exact ⟨g,cur.toList,rfl,hb,by unfold Box;simpa using hg,hle,by unfold maxLen at hm;omega,by simpa using hs,ht⟩
theorem _root_.Go.Proofs.YtgdnofacgfjaeabGreat.Own.shut {t:TypeId} {c:Nat} {w:World} {base g cap n:Nat} {cur vs:List Value} (hb:base≤g) (hg:Box w g t cur.toArray) (hle:n≤cap) (hm:cap≤9223372036854775807) (hs:cur.length=cap*c) (ht:cur.take (n*c)=vs):Own t c w base (some ⟨g,0,none⟩) cap n vs:=by
  refine ⟨?_,.inr ⟨g,cap,cur.toArray,rfl,hb,hg,hle,by unfold maxLen;omega,by simpa using hs,by simpa using ht⟩⟩
  rw [← ht,List.length_take,hs]
  have:n*c≤cap*c:=Nat.mul_le_mul_right _ hle
  omega
structure Sp where
  n:Int
  c:Int
structure Ky where
  k:Int
  a:Int
  b:Int
  c:Int
structure Ad where
  cl:Bool
  id:Int
structure In where
  p:Sp
  a:Sp
  c:Cm
  d:Bool
structure Pl where
  n:Int
  i:In
structure Bl where
  s:Sp
  d:Sl
structure Hd where
  b:Bl
  k:Bv
  r:Sl
structure Mg where
  k:Int
  fr:Ad
  too:Ad
  op:Int
  rd:Int
  ky:Ky
  st:Sp
  hd:Sp
  bl:Sl
  c:Cm
  bk:Bv
  cm:Sl
  mo:Bool
structure Ch where
  ky:Ky
  b:Bl
  i:In
  bk:Bv
def spZ:Sp:=⟨0,0⟩
def kyZ:Ky:=⟨0,0,0,0⟩
def adZ:Ad:=⟨false,0⟩
def inZ:In:=⟨spZ,spZ,cZ,false⟩
def plZ:Pl:=⟨0,inZ⟩
def mgZ:Mg:=⟨0,adZ,adZ,0,0,kyZ,spZ,spZ,slZ,cZ,bvZ,slZ,false⟩
instance:Inhabited Pl:=⟨plZ⟩
def Sp.cs (s:Sp):List Value:=[.int .i64 s.n,.int .i64 s.c]
def Ky.cs (s:Ky):List Value:=[.int .i64 s.k,.int .i64 s.a,.int .i64 s.b,.int .i64 s.c]
def Ad.cs (s:Ad):List Value:=[.bool s.cl,.int .i64 s.id]
def In.cs (s:In):List Value:=s.p.cs++(s.a.cs++(s.c.cs++[.bool s.d]))
def Pl.cs (s:Pl):List Value:=[.int .i64 s.n]++s.i.cs
def Bl.cs (s:Bl):List Value:=s.s.cs++[s.d.v]
def Hd.cs (s:Hd):List Value:=s.b.cs++(s.k.cs++[s.r.v])
def Mg.cs (m:Mg):List Value:=[.int .i64 m.k]++(m.fr.cs++(m.too.cs++([.int .i64 m.op,.int .i64 m.rd]++(m.ky.cs++(m.st.cs++(m.hd.cs++([m.bl.v]++(m.c.cs++(m.bk.cs++[m.cm.v,.bool m.mo])))))))))
def Ch.cs (s:Ch):List Value:=s.ky.cs++(s.b.cs++(s.i.cs++s.bk.cs))
def Sp.cells (s:Sp):Array Value:=s.cs.toArray
def Ky.cells (s:Ky):Array Value:=s.cs.toArray
def Ad.cells (s:Ad):Array Value:=s.cs.toArray
def In.cells (s:In):Array Value:=s.cs.toArray
def Pl.cells (s:Pl):Array Value:=s.cs.toArray
def Bl.cells (s:Bl):Array Value:=s.cs.toArray
def Hd.cells (s:Hd):Array Value:=s.cs.toArray
def Mg.cells (s:Mg):Array Value:=s.cs.toArray
def Ch.cells (s:Ch):Array Value:=s.cs.toArray
theorem Sp.oneL (s:Sp):∀ v∈s.cs,v.oneCell'=true:=by simp [Sp.cs,Value.oneCell']
theorem Ky.oneL (s:Ky):∀ v∈s.cs,v.oneCell'=true:=by simp [Ky.cs,Value.oneCell']
theorem Ad.oneL (s:Ad):∀ v∈s.cs,v.oneCell'=true:=by simp [Ad.cs,Value.oneCell']
theorem In.oneL (s:In):∀ v∈s.cs,v.oneCell'=true:=by simp [In.cs,Sp.cs,Cm.cs,Value.oneCell']
theorem Pl.oneL (s:Pl):∀ v∈s.cs,v.oneCell'=true:=by simp [Pl.cs,In.cs,Sp.cs,Cm.cs,Value.oneCell']
theorem Bl.oneL (s:Bl):∀ v∈s.cs,v.oneCell'=true:=by simp [Bl.cs,Sp.cs,Sl.v,Value.oneCell']
theorem Bv.oneL (s:Bv):∀ v∈s.cs,v.oneCell'=true:=by simp [Bv.cs,Sl.v,Value.oneCell']
theorem Hd.oneL (s:Hd):∀ v∈s.cs,v.oneCell'=true:=by simp [Hd.cs,Bl.cs,Bv.cs,Sp.cs,Sl.v,Value.oneCell']
theorem Mg.oneL (s:Mg):∀ v∈s.cs,v.oneCell'=true:=by simp [Mg.cs,Ky.cs,Ad.cs,Bv.cs,Sp.cs,Cm.cs,Sl.v,Value.oneCell']
theorem Ch.oneL (s:Ch):∀ v∈s.cs,v.oneCell'=true:=by simp [Ch.cs,Bl.cs,In.cs,Ky.cs,Bv.cs,Sp.cs,Cm.cs,Sl.v,Value.oneCell']
theorem part_of {cs sub:List Value} {off:Nat} (h:(cs.drop off).take sub.length=sub):Part cs off sub:=fun j v hj=>by
  have hlt:=(List.getElem?_eq_some_iff.1 hj).1
  rw [← h,List.getElem?_take_of_lt hlt,List.getElem?_drop] at hj
  exact hj
theorem run_store_to {w:World} {g off:Nat} {T ty:TypeId} {cur vs new:List Value} {v:Value} (hb:Box w g T cur.toArray) (hv:v.cells=vs.toArray) (hi:(Tryz.prog.info? ty).map (·.size)=some vs.length)
    (hl:off+vs.length≤cur.length) (h1:∀ x∈vs,x.oneCell'=true) (hn:putL cur off vs=new):(storeVar ty ⟨g,off,none⟩ v).run Tryz.prog w=.ok () (w.setRow g new.toArray):=by
  rw [run_store_at hb hv hi hl h1,hn]
theorem Tryz.und62:Tryz.prog.underlying 35=some (.struct (Tryz.prog.fieldsOf 35)):=by kernel_rfl
theorem Tryz.info5:(Tryz.prog.info? 5).map (fun i=>(i.zero,i.size,i.bytes))=some (some (.int .u8 0),1,1):=by kernel_rfl
def eqS (a b:Sp):Bool:=(a.n==b.n)&&((a.c==b.c))
theorem flds25 : (Tryz.prog.fieldsOf 35).toList = [fld "N" 3 0 0, fld "Client" 3 1 8] := by kernel_rfl
theorem eq25 (d:Nat) (a b:Sp) (w:World):(Op.equalIn (d+2) 35 (.agg a.cells) (.agg b.cells)).run Tryz.prog w=.ok (eqS a b) w:=by
  have h0:∀ (a:Sp) (w:World),(part 3 a.cells 0).run Tryz.prog w=.ok (.int .i64 a.n) w:=fun a w=>by kernel_rfl
  have h1:∀ (a:Sp) (w:World),(part 3 a.cells 1).run Tryz.prog w=.ok (.int .i64 a.c) w:=fun a w=>by kernel_rfl
  have g3:∀ (a b:Int) (w:World),(Op.equalIn (d+1) 3 (.int .i64 a) (.int .i64 b)).run Tryz.prog w=.ok (a==b) w:=eqInt d
  rw [show d+2=(d+1)+1 from rfl,run_equalIn_struct w (d+1) 35 _ _ Tryz.und62 (by kernel_rfl),flds25]
  unfold eqS
  generalize e0:(a.n==b.n)=q0
  generalize e1:(a.c==b.c)=q1
  cases q0
  · simp [Op.eqFields,fld,h0,h1,g3,e0,Result.andThen]
  cases q1
  · simp [Op.eqFields,fld,h0,h1,g3,e0,e1,Result.andThen]
  · simp [Op.eqFields,fld,h0,h1,g3,e0,e1,Result.andThen]
theorem eqS_iff {a b:Sp}:eqS a b=true↔a=b:=by
  obtain ⟨a1,a2⟩:=a
  obtain ⟨b1,b2⟩:=b
  simp [eqS,and_assoc]
theorem eqS_refl (a:Sp):eqS a a=true:=eqS_iff.2 rfl
def eqC (a b:Cm):Bool:=(a.k==b.k)&&((a.cl==b.cl)&&((a.op==b.op)&&(eqN a.nm b.nm&&(eqF a.f0 a.f1 b.f0 b.f1&&(eqF a.g0 a.g1 b.g0 b.g1&&((a.sz==b.sz)))))))
theorem flds47 : (Tryz.prog.fieldsOf 45).toList = [fld "Kind" 3 0 0, fld "Client" 3 1 8, fld "Op" 3 2 16, fld "Name" 9 3 24, fld "File" 43 4 40, fld "New" 43 6 56, fld "Size" 3 8 72] := by kernel_rfl
theorem eq47 (d:Nat) (a b:Cm) (w:World):(Op.equalIn (d+3) 45 (.agg a.cells) (.agg b.cells)).run Tryz.prog w=.ok (eqC a b) w:=by
  have h0:∀ (a:Cm) (w:World),(part 3 a.cells 0).run Tryz.prog w=.ok (.int .i64 a.k) w:=fun a w=>by kernel_rfl
  have h1:∀ (a:Cm) (w:World),(part 3 a.cells 1).run Tryz.prog w=.ok (.int .i64 a.cl) w:=fun a w=>by kernel_rfl
  have h2:∀ (a:Cm) (w:World),(part 3 a.cells 2).run Tryz.prog w=.ok (.int .i64 a.op) w:=fun a w=>by kernel_rfl
  have h3:∀ (a:Cm) (w:World),(part 9 a.cells 3).run Tryz.prog w=.ok (.string a.nm) w:=fun a w=>by kernel_rfl
  have h4:∀ (a:Cm) (w:World),(part 43 a.cells 4).run Tryz.prog w=.ok (.agg #[.int .i64 a.f0,.int .i64 a.f1]) w:=fun a w=>by kernel_rfl
  have h5:∀ (a:Cm) (w:World),(part 43 a.cells 6).run Tryz.prog w=.ok (.agg #[.int .i64 a.g0,.int .i64 a.g1]) w:=fun a w=>by kernel_rfl
  have h6:∀ (a:Cm) (w:World),(part 3 a.cells 8).run Tryz.prog w=.ok (.int .i64 a.sz) w:=fun a w=>by kernel_rfl
  have g3:∀ (a b:Int) (w:World),(Op.equalIn (d+2) 3 (.int .i64 a) (.int .i64 b)).run Tryz.prog w=.ok (a==b) w:=eqInt (d+1)
  have g9:∀ (a b:ByteArray) (w:World),(Op.equalIn (d+2) 9 (.string a) (.string b)).run Tryz.prog w=.ok (eqN a b) w:=fun a b w=>run_equalIn_string w (d+1) 9 a b Tryz.und9
  have g45:∀ (n c m e:Int) (w:World),(Op.equalIn (d+2) 43 (.agg #[.int .i64 n,.int .i64 c]) (.agg #[.int .i64 m,.int .i64 e])).run Tryz.prog w=.ok (eqF n c m e) w:=eq45 d
  rw [show d+3=(d+2)+1 from rfl,run_equalIn_struct w (d+2) 45 _ _ Tryz.und31 (by kernel_rfl),flds47]
  unfold eqC
  generalize e0:(a.k==b.k)=q0
  generalize e1:(a.cl==b.cl)=q1
  generalize e2:(a.op==b.op)=q2
  generalize e3:eqN a.nm b.nm=q3
  generalize e4:eqF a.f0 a.f1 b.f0 b.f1=q4
  generalize e5:eqF a.g0 a.g1 b.g0 b.g1=q5
  generalize e6:(a.sz==b.sz)=q6
  cases q0
  · simp [Op.eqFields,fld,h0,h1,h2,h3,h4,h5,h6,g3,g9,g45,e0,Result.andThen]
  cases q1
  · simp [Op.eqFields,fld,h0,h1,h2,h3,h4,h5,h6,g3,g9,g45,e0,e1,Result.andThen]
  cases q2
  · simp [Op.eqFields,fld,h0,h1,h2,h3,h4,h5,h6,g3,g9,g45,e0,e1,e2,Result.andThen]
  cases q3
  · simp [Op.eqFields,fld,h0,h1,h2,h3,h4,h5,h6,g3,g9,g45,e0,e1,e2,e3,Result.andThen]
  cases q4
  · simp [Op.eqFields,fld,h0,h1,h2,h3,h4,h5,h6,g3,g9,g45,e0,e1,e2,e3,e4,Result.andThen]
  cases q5
  · simp [Op.eqFields,fld,h0,h1,h2,h3,h4,h5,h6,g3,g9,g45,e0,e1,e2,e3,e4,e5,Result.andThen]
  cases q6
  · simp [Op.eqFields,fld,h0,h1,h2,h3,h4,h5,h6,g3,g9,g45,e0,e1,e2,e3,e4,e5,e6,Result.andThen]
  · simp [Op.eqFields,fld,h0,h1,h2,h3,h4,h5,h6,g3,g9,g45,e0,e1,e2,e3,e4,e5,e6,Result.andThen]
theorem eqC_iff {a b:Cm}:eqC a b=true↔a=b:=by
  obtain ⟨a1,a2,a3,a4,a5,a6,a7,a8,a9⟩:=a
  obtain ⟨b1,b2,b3,b4,b5,b6,b7,b8,b9⟩:=b
  simp [eqC,eqN_iff,eqF,and_assoc]
theorem eqC_refl (a:Cm):eqC a a=true:=eqC_iff.2 rfl
theorem eqE_refl (a:En):eqE a a=true:=eqE_iff.2 rfl
theorem eqL_refl (a:La):eqL a a=true:=eqL_iff.2 rfl
structure RdP (w:World) (s:Sl) (ps:List Pl):Prop where
  row:RowsAt 15 w s.a (ps.map Pl.cs)
  len:ps.length=s.l
  cap:s.a=none→s.k=0
theorem RdP.kept {S:Nat→Prop} {w w':World} {s:Sl} {ps:List Pl} (h:RdP w s ps) (hk:Kept S w w') (hS:∀ k,At s.a k→¬ S k):RdP w' s ps:=⟨RowsAt.kept h.row hk hS,h.len,h.cap⟩
theorem RdP.no {w w':World} {s:Sl} {ps:List Pl} (h:RdP w s ps) (hk:Kept No w w'):RdP w' s ps:=h.kept hk (fun _ _ e=>e)
def pAt (ps:List Pl) (i:Nat):Pl:=ps[i]?.getD plZ
theorem pAt_some {ps:List Pl} {i:Nat} (h:i < ps.length):ps[i]?=some (pAt ps i):=by simp [pAt,List.getElem?_eq_getElem h]
theorem RdP.at {w:World} {s:Sl} {ps:List Pl} (h:RdP w s ps) {i:Nat} (hi:i < s.l):∃ b off,s.a=some ⟨b,off,none⟩∧∀ (j:Nat) v,(pAt ps i).cs[j]?=some v→w.cell? ⟨b,off+i*15+j,none⟩=some v:=
  h.row i _ (by rw [List.getElem?_map,pAt_some (by rw [h.len];exact hi)];rfl)
theorem RowsAt.lt {n:Nat} {w:World} {a:Option Addr} {xs:List (List Value)} (h:RowsAt n w a xs) (h0:0 < xs.length) (hx:∀ x∈xs,0 < x.length) {k:Nat} (hk:At a k):k < w.heap.size:=by
  obtain ⟨ad,rfl,rfl⟩:=hk
  obtain ⟨b,off,e,hc⟩:=h 0 _ (List.getElem?_eq_getElem h0)
  cases e
  have h1:=hx _ (List.getElem_mem h0)
  exact World.block_lt_of_cell? w ⟨b,off+0*n+0,none⟩ (hc 0 _ (List.getElem?_eq_getElem h1))
def SB (lb:Nat) (a:Option Addr):Nat→Prop:=fun k=>k=lb∨At a k
def NB (lb:Nat) (a:Option Addr):Nat→Prop:=fun k=>¬ SB lb a k
section
variable {F:Fence} {n:Nat} {ops:Array Oper} {a:Act} {w:World} {Q:Exit→Act→World→Prop} {md:Region.Mode}
end
section
variable {F:Fence} {n:Nat} {P:Program}
end
theorem _root_.Go.Proofs.YtgdnofacgfjaeabGreat.Box.no {w w':World} {g:Nat} {t:TypeId} {cs:Array Value} (h:Box w g t cs) (hk:Kept No w w'):Box w' g t cs:=h.kept hk (fun e=>e)
theorem Fr.put {S:Nat→Prop} {w0 w w':World} {l:List (Nat × TypeId × Array Value)} (h:Fr S w0 w l) (i:Nat) {g:Nat} {T:TypeId} {cs cs':Array Value} (hi:l[i]?=some (g,T,cs)) (hk:Kept (Only g) w w') (hb:Box w' g T cs'):Fr S w0 w' (l.set i (g,T,cs')):=by
  have hlt:=(List.getElem?_eq_some_iff.1 hi).1
  have key:∀ (j:Nat) g1 T1 cs1,(l.set i (g,T,cs'))[j]?=some (g1,T1,cs1)→(j=i∧g1=g∧T1=T∧cs1=cs')∨(j≠i∧l[j]?=some (g1,T1,cs1)):=by
    intro j g1 T1 cs1 hj
    rw [List.getElem?_set] at hj
    by_cases e:i=j
    · subst e
      simp [hlt] at hj
      exact .inl ⟨rfl,hj.1.symm,hj.2.1.symm,hj.2.2.symm⟩
    · simp [e] at hj
      exact .inr ⟨fun h=>e h.symm,hj⟩
  refine ⟨h.kept.trans hk (fun _ e=>e) (fun k hk' e=>by have h1:=h.low i g T cs hi;have e:k=g:=e;omega),?_,?_,?_⟩
  · intro j g1 T1 cs1 hj
    rcases key j g1 T1 cs1 hj with ⟨rfl,rfl,rfl,rfl⟩ | ⟨hne,hj2⟩
    · exact hb
    · refine (h.box j g1 T1 cs1 hj2).kept hk (fun e=>hne ?_)
      have e:g1=g:=e
      subst e
      exact h.inj j i _ _ _ _ _ hj2 hi
  · intro j g1 T1 cs1 hj
    rcases key j g1 T1 cs1 hj with ⟨rfl,rfl,rfl,rfl⟩ | ⟨hne,hj⟩
    · exact h.low _ _ _ _ hi
    · exact h.low j g1 T1 cs1 hj
  · intro j k g1 T1 cs1 T2 cs2 hj hk
    rcases key j g1 T1 cs1 hj with ⟨rfl,rfl,rfl,rfl⟩ | ⟨hne,hj2⟩ <;> rcases key k g1 T2 cs2 hk with ⟨rfl,h1,h2,h3⟩ | ⟨hne',hk2⟩
    · rfl
    · exact h.inj _ _ _ _ _ _ _ hi hk2
    · subst h1;exact h.inj _ _ _ _ _ _ _ hj2 hi
    · exact h.inj _ _ _ _ _ _ _ hj2 hk2
structure RdB (w:World) (s:Sl) (bs:List Int):Prop where
  row:Nums .u8 w s.a bs
  len:bs.length=s.l
  cap:s.a=none→s.k=0
theorem RdB.kept {S:Nat→Prop} {w w':World} {s:Sl} {bs:List Int} (h:RdB w s bs) (hk:Kept S w w') (hS:∀ k,At s.a k→¬ S k):RdB w' s bs:=⟨h.row.kept hk (fun b off e=>hS b ⟨_,e,rfl⟩),h.len,h.cap⟩
theorem RdB.no {w w':World} {s:Sl} {bs:List Int} (h:RdB w s bs) (hk:Kept No w w'):RdB w' s bs:=h.kept hk (fun _ _ e=>e)
def u8L (bs:List Int):List Value:=bs.map (Value.int .u8)
structure OwB (w:World) (base:Nat) (s:Sl) (bs:List Int):Prop where
  own:Own 5 1 w base s.a s.k s.l (u8L bs)
  len:bs.length=s.l
theorem OwB.kept {S:Nat→Prop} {w w':World} {base:Nat} {s:Sl} {bs:List Int} (h:OwB w base s bs) (hk:Kept S w w') (hS:∀ k,At s.a k→¬ S k):OwB w' base s bs:=⟨h.own.kept hk hS,h.len⟩
theorem OwB.no {w w':World} {base:Nat} {s:Sl} {bs:List Int} (h:OwB w base s bs) (hk:Kept No w w'):OwB w' base s bs:=h.kept hk (fun _ _ e=>e)
theorem OwB.nil (w:World) (base:Nat):OwB w base slZ []:=⟨Own.nil _ _ _ _,rfl⟩
theorem OwB.rd {w:World} {base:Nat} {s:Sl} {bs:List Int} (h:OwB w base s bs):RdB w s bs:=⟨Own.nums h.own h.len,h.len,h.own.cap0⟩
theorem RdB.src {w:World} {s:Sl} {bs:List Int} (h:RdB w s bs):∀ (j:Nat) u,(u8L bs)[j]?=some u→∃ ad,s.a=some ad∧w.cell? (ad.add j)=some u:=by
  intro j u hj
  have hlt:=(List.getElem?_eq_some_iff.1 hj).1
  obtain ⟨ad,e,hc⟩:=h.row.src (by simp [u8L] at hlt ⊢;omega)
  exact ⟨ad,e,hc j u hj⟩
structure WI (F:Fence) (n:Nat) (ops:Array Oper) (Q:Exit→Act→World→Prop) (l:List Oper) (a:Act) (w:World):Prop where
  out:wpListIn F n Tryz.prog ops Q l a w
section
variable {F:Fence} {n:Nat} {ops:Array Oper} {rest:List Oper} {o:Oper} {a:Act} {w w':World} {Q:Exit→Act→World→Prop}
theorem WI.nil (h:Q .normal a w):WI F n ops Q [] a w:=⟨wpListIn_nil h⟩
theorem WI.start {id:Nat} {l:List Oper} (h:WI F n l.toArray Q l a w):(Code.region id l.toArray false).wpIn F n Tryz.prog Q a w:=wpIn_region_lit h.out
end
def cmL (es:List Cm):List Value:=(es.map Cm.cs).flatten
theorem cmL_c (es:List Cm):∀ x∈es.map Cm.cs,x.length=9:=by intro x hx;obtain ⟨e,_,rfl⟩:=List.mem_map.1 hx;rfl
theorem cmL_len (es:List Cm):(cmL es).length=es.length*9:=by unfold cmL;rw [flat_len 9 _ (cmL_c es),List.length_map]
theorem b_addw (x y z:Int) (h:IntKind.i64.wrap (x+y)=z) (w:World):(binOp .add 3 (.int .i64 x) (.int .i64 y)).run Tryz.prog w=.ok (.int .i64 z) w:=by rw [← h];kernel_rfl
def decF (f:Int) (c:Nat) (l:List (Int × Cm)):List Cm:=l.foldl (fun acc x=>if f≤x.1∧x.1 - f < c then acc.set (x.1 - f).toNat x.2 else acc) (List.replicate c cZ)
structure OwC (w:World) (base:Nat) (s:Sl) (cs:List Cm):Prop where
  own:Own 71 9 w base s.a s.k s.l (cmL cs)
  len:cs.length=s.l
structure DcAt (w:World) (g1 g2 g3 g:Nat) (f:Int) (c:Nat) (l:List (Int × Cm)) (W:World):Prop where
  b1:Box W g1 3 #[.int .i64 f]
  b2:Box W g2 3 #[.int .i64 (c:Int)]
  b3:Box W g3 74 #[.slice (some ⟨g,0,none⟩) c c]
  b4:Box W g 71 (cmL (decF f c l)).toArray
  kept:Kept No w W
theorem DcAt.cells {w:World} {g1 g2 g3 g:Nat} {f:Int} {c:Nat} {l:List (Int × Cm)} {A' B':World} {row:Option Nat} {N:Nat} (h:DcAt w g1 g2 g3 g f c l A') (hg:A'.grownBy B' row) (hr:∀ r,row=some r→N≤r∧∃ o:Obj,A'.heap[r]?=some o∧o.isCells=false) (hN:w.heap.size≤N):DcAt w g1 g2 g3 g f c l B':=by
  have hr':∀ r,row=some r→∃ o:Obj,A'.heap[r]?=some o∧o.isCells=false:=fun r e=>(hr r e).2
  exact ⟨box_cells h.b1 hg hr',box_cells h.b2 hg hr',box_cells h.b3 hg hr',box_cells h.b4 hg hr',h.kept.grown hg (fun k e hk=>by have:=(hr k e).1;omega)⟩
theorem Fr.add {S:Nat→Prop} {w0 w w':World} {l:List (Nat × TypeId × Array Value)} (h:Fr S w0 w l) {g:Nat} {T:TypeId} {cs:Array Value} (hk:Kept No w w') (hg:w.heap.size≤g) (hb:Box w' g T cs):Fr S w0 w' (l++[(g,T,cs)]):=by
  have h1:=h.no hk
  refine ⟨h1.kept,?_,?_,?_⟩
  · intro i g1 T1 cs1 hi
    rw [List.getElem?_append] at hi
    split at hi
    · exact h1.box i g1 T1 cs1 hi
    · obtain ⟨rfl,rfl,rfl⟩:g=g1∧T=T1∧cs=cs1:=by
        have:=List.mem_of_getElem? hi
        simpa [eq_comm] using this
      exact hb
  · intro i g1 T1 cs1 hi
    rw [List.getElem?_append] at hi
    split at hi
    · exact h1.low i g1 T1 cs1 hi
    · obtain ⟨rfl,rfl,rfl⟩:g=g1∧T=T1∧cs=cs1:=by
        have:=List.mem_of_getElem? hi
        simpa [eq_comm] using this
      exact Nat.le_trans h.kept.size hg
  · intro i j g1 T1 cs1 T2 cs2 hi hj
    rw [List.getElem?_append] at hi hj
    split at hi <;> split at hj
    · exact h.inj i j g1 T1 cs1 T2 cs2 hi hj
    · have q1:=(h.box i g1 T1 cs1 hi).lt
      have q2:g1=g:=by have:=List.mem_of_getElem? hj;simp at this;exact this.1
      omega
    · have q1:=(h.box j g1 T2 cs2 hj).lt
      have q2:g1=g:=by have:=List.mem_of_getElem? hi;simp at this;exact this.1
      omega
    · have q1:=(List.getElem?_eq_some_iff.1 hi).1
      have q2:=(List.getElem?_eq_some_iff.1 hj).1
      simp at q1 q2
      omega
structure RdC (w:World) (s:Sl) (cs:List Cm):Prop where
  row:Cs w s.a cs
  len:cs.length=s.l
  cap:s.a=none→s.k=0
theorem RdC.kept {S:Nat→Prop} {w w':World} {s:Sl} {cs:List Cm} (h:RdC w s cs) (hk:Kept S w w') (hS:∀ k,At s.a k→¬ S k):RdC w' s cs:=⟨RowsAt.kept h.row hk hS,h.len,h.cap⟩
theorem RdC.no {w w':World} {s:Sl} {cs:List Cm} (h:RdC w s cs) (hk:Kept No w w'):RdC w' s cs:=h.kept hk (fun _ _ e=>e)
theorem RdB.one {w:World} {g:Nat} {z:Int} (hb:Box w g 5 #[.int .u8 z]):RdB w ⟨some ⟨g,0,none⟩,1,1⟩ [z]:=by
  refine ⟨fun i hi=>⟨g,0,rfl,?_⟩,rfl,fun e=>by cases e⟩
  have hi0:i=0:=by simp at hi;exact hi
  subst hi0
  rw [hb.cell];rfl
theorem RdP.nil (w:World):RdP w slZ []:=⟨RowsAt.nil _ _ _,rfl,fun _=>rfl⟩
def tab {α:Type} (n:Nat) (f:Nat→α):List α:=(List.range n).map f
def lnt {α:Type} (n:Nat) (xs:List α) (z:α) (mk:Nat→α) (j:Nat):α:=if j < n then xs[j]?.getD z else mk j
def mkE (j:Nat):En:=⟨⟨#[109,97,114,73]⟩,0,0,-((j:Nat):Int)⟩
def mkL (j:Nat):La:=⟨-((j:Nat):Int),-7,0,0,0,0,0⟩
def mkC (j:Nat):Cm:=⟨0,0,-((j:Nat):Int),⟨#[109,97,114,73]⟩,0,0,0,0,0⟩
def mkB (_:Nat):Int:=201
def lntE (n:Nat) (es:List En):Nat→En:=lnt n es enZ mkE
def lntL (n:Nat) (es:List La):Nat→La:=lnt n es laZ mkL
def lntC (n:Nat) (es:List Cm):Nat→Cm:=lnt n es cZ mkC
def lntB (n:Nat) (es:List Int):Nat→Int:=lnt n es 0 mkB
def lentS (s:Sl) (g:Nat):Sl:=⟨some ⟨g,0,none⟩,s.l,s.l+67⟩
theorem Fr.ins {S:Nat→Prop} {w0 w:World} {l:List (Nat × TypeId × Array Value)} (h:Fr S w0 w l) {g:Nat} {T:TypeId} {cs:Array Value} (hg:w0.heap.size≤g) (hb:Box w g T cs) (hne:∀ x∈l,x.1≠g):Fr S w0 w (l++[(g,T,cs)]):=by
  have key:∀ (i:Nat) x,(l++[(g,T,cs)])[i]?=some x→l[i]?=some x∨(i=l.length∧x=(g,T,cs)):=by
    intro i x hi
    by_cases h1:i < l.length
    · rw [List.getElem?_append_left h1] at hi;exact .inl hi
    · rw [List.getElem?_append_right (by omega)] at hi
      have h2:=(List.getElem?_eq_some_iff.1 hi).1
      simp at h2
      have h3:i=l.length:=by omega
      subst h3
      simp at hi
      exact .inr ⟨rfl,hi.symm⟩
  refine ⟨h.kept,fun i g1 T1 cs1 hi=>?_,fun i g1 T1 cs1 hi=>?_,fun i j g1 T1 cs1 T2 cs2 hi hj=>?_⟩
  · rcases key i _ hi with h1 | ⟨_,h1⟩
    · exact h.box i g1 T1 cs1 h1
    · cases h1;exact hb
  · rcases key i _ hi with h1 | ⟨_,h1⟩
    · exact h.low i g1 T1 cs1 h1
    · cases h1;exact hg
  · rcases key i _ hi with h1 | ⟨e1,h1⟩
    · rcases key j _ hj with h2 | ⟨e2,h2⟩
      · exact h.inj i j g1 T1 cs1 T2 cs2 h1 h2
      · cases h2;exact absurd rfl (hne _ (List.mem_of_getElem? h1))
    · rcases key j _ hj with h2 | ⟨e2,h2⟩
      · cases h1;exact absurd rfl (hne _ (List.mem_of_getElem? h2))
      · omega
structure HdAt (w:World) (h:Hd) (bs:List Int) (es:List En) (ls:List La) (ps:List Pl):Prop where
  b:RdB w h.b.d bs
  e:RdE w h.k.e es
  l:RdL w h.k.l ls
  p:RdP w h.r ps
  nb:h.b.d.l≤140737488351232
  ne:h.k.e.l≤3518437208780
  nl:h.k.l.l≤2513169434843
  np:h.r.l≤1099511627744
theorem HdAt.no {w w':World} {h:Hd} {bs:List Int} {es:List En} {ls:List La} {ps:List Pl} (H:HdAt w h bs es ls ps) (hk:Kept No w w'):HdAt w' h bs es ls ps:=⟨H.b.no hk,H.e.no hk,H.l.no hk,H.p.no hk,H.nb,H.ne,H.nl,H.np⟩
theorem _root_.Go.Proofs.YtgdnofacgfjaeabGreat.Box.ne {w:World} {g g':Nat} {t t':TypeId} {cs cs':Array Value} (h:Box w g t cs) (h':Box w g' t' cs') (ht:t≠t'):g≠g':=by
  intro e
  subst e
  unfold Box at h h'
  rw [h] at h'
  exact ht (by injection (Option.some.inj h'))
theorem Fr.of_no {S:Nat→Prop} {w0 w:World} {l:List (Nat × TypeId × Array Value)} (h:Fr No w0 w l):Fr S w0 w l:=⟨h.kept.of_no,h.box,h.low,h.inj⟩
structure MgAt (w:World) (m:Mg) (bs:List Int) (es:List En) (ls:List La) (cs:List Cm):Prop where
  b:RdB w m.bl bs
  e:RdE w m.bk.e es
  l:RdL w m.bk.l ls
  c:RdC w m.cm cs
  nb:m.bl.l≤140737488351232
  ne:m.bk.e.l≤3518437208780
  nl:m.bk.l.l≤2513169434843
  nc:m.cm.l≤1759218604390
theorem MgAt.no {w w':World} {m:Mg} {bs:List Int} {es:List En} {ls:List La} {cs:List Cm} (H:MgAt w m bs es ls cs) (hk:Kept No w w'):MgAt w' m bs es ls cs:=⟨H.b.no hk,H.e.no hk,H.l.no hk,H.c.no hk,H.nb,H.ne,H.nl,H.nc⟩
theorem RdC.src {w:World} {s:Sl} {cs:List Cm} (h:RdC w s cs):∀ (j:Nat) u,(cmL cs)[j]?=some u→∃ ad,s.a=some ad∧w.cell? (ad.add j)=some u:=by
  intro j u hj
  have hlt:=(List.getElem?_eq_some_iff.1 hj).1
  rw [cmL_len] at hlt
  have hi:j / 9 < cs.length:=by omega
  obtain ⟨b,off,e,hc⟩:=Cs.at h.row hi
  refine ⟨⟨b,off,none⟩,e,?_⟩
  rw [addr_add]
  have h9:j=j / 9*9+j % 9:=by omega
  have hx:(cAt cs (j / 9)).cs[j % 9]?=some u:=by
    have hl:(cAt cs (j / 9)).cs.length=9:=rfl
    have h1:=flat_get 9 (cs.map Cm.cs) (cmL_c cs) (j / 9) (cAt cs (j / 9)).cs (by rw [List.getElem?_map,cAt_some hi];rfl) (j % 9) _ (List.getElem?_eq_getElem (by rw [hl];omega))
    rw [← h9] at h1
    rw [List.getElem?_eq_getElem (by rw [hl];omega)]
    have h2:(cmL cs)[j]?=_:=h1
    rw [hj] at h2
    exact h2.symm
  rw [show off+j=off+j / 9*9+j % 9 by omega]
  exact hc _ _ hx
structure LmAt (W:World) (base:Nat) (m:Mg) (bs:List Int) (es:List En) (ls:List La) (cs:List Cm) (gb ge gl gc:Nat):Prop where
  b:Box W gb 5 (u8L (tab (m.bl.l+67) (lntB m.bl.l bs))).toArray
  e:Box W ge 79 (enL (tab (m.bk.e.l+67) (lntE m.bk.e.l es))).toArray
  l:Box W gl 179 (laL (tab (m.bk.l.l+67) (lntL m.bk.l.l ls))).toArray
  c:Box W gc 71 (cmL (tab (m.cm.l+67) (lntC m.cm.l cs))).toArray
  lb:base≤gb
  le:base≤ge
  ll:base≤gl
  lc:base≤gc
theorem LmAt.no {W W':World} {base:Nat} {m:Mg} {bs:List Int} {es:List En} {ls:List La} {cs:List Cm} {gb ge gl gc:Nat} (H:LmAt W base m bs es ls cs gb ge gl gc) (hk:Kept No W W'):LmAt W' base m bs es ls cs gb ge gl gc:=⟨H.b.no hk,H.e.no hk,H.l.no hk,H.c.no hk,H.lb,H.le,H.ll,H.lc⟩
structure Fq (S:Nat→Prop) (w0 w:World) (l:List (Nat × TypeId × Array Value)):Prop where
  kept:Kept S w0 w
  box:∀ (i:Nat) g T cs,l[i]?=some (g,T,cs)→Box w g T cs
  low:∀ (i:Nat) g T cs,l[i]?=some (g,T,cs)→w0.heap.size≤g∨S g
  inj:∀ (i j:Nat) g T cs T' cs',l[i]?=some (g,T,cs)→l[j]?=some (g,T',cs')→i=j
theorem kept_row {S:Nat→Prop} {a w:World} (h:Kept S a w) {g:Nat} (hg:a.heap.size≤g∨S g) (cs:Array Value):Kept S a (w.setRow g cs):=
  hg.elim (fun e=>h.newRowS e cs) (fun e=>h.inRow e cs)
theorem Fq.start (S:Nat→Prop) (w:World):Fq S w w []:=⟨Kept.refl S w,by simp,by simp,by simp⟩
theorem Fq.drew {S:Nat→Prop} {w0 w:World} {l:List (Nat × TypeId × Array Value)} (h:Fq S w0 w l):Fq S w0 w.drew l:=⟨h.kept.drew,h.box,h.low,h.inj⟩
theorem Fq.alloc {S:Nat→Prop} {w0 w:World} {l:List (Nat × TypeId × Array Value)} (h:Fq S w0 w l) (T:TypeId) (cs:Array Value):Fq S w0 (w.alloc (.cells cs T)) (l++[(w.heap.size,T,cs)]):=by
  refine ⟨h.kept.alloc _,?_,?_,?_⟩
  · intro i g T' cs' hi
    rw [List.getElem?_append] at hi
    split at hi
    · exact (h.box i g T' cs' hi).alloc _
    · obtain ⟨rfl,rfl,rfl⟩:w.heap.size=g∧T=T'∧cs=cs':=by
        have:=List.mem_of_getElem? hi
        simpa [eq_comm] using this
      exact Box.new _ _ _
  · intro i g T' cs' hi
    rw [List.getElem?_append] at hi
    split at hi
    · exact h.low i g T' cs' hi
    · obtain ⟨rfl,rfl,rfl⟩:w.heap.size=g∧T=T'∧cs=cs':=by
        have:=List.mem_of_getElem? hi
        simpa [eq_comm] using this
      exact .inl h.kept.size
  · intro i j g T1 cs1 T2 cs2 hi hj
    rw [List.getElem?_append] at hi hj
    split at hi <;> split at hj
    · exact h.inj i j g T1 cs1 T2 cs2 hi hj
    · have h1:=(h.box i g T1 cs1 hi).lt
      have h2:g=w.heap.size:=by have:=List.mem_of_getElem? hj;simp at this;exact this.1
      omega
    · have h1:=(h.box j g T2 cs2 hj).lt
      have h2:g=w.heap.size:=by have:=List.mem_of_getElem? hi;simp at this;exact this.1
      omega
    · have h1:=(List.getElem?_eq_some_iff.1 hi).1
      have h2:=(List.getElem?_eq_some_iff.1 hj).1
      simp at h1 h2
      omega
theorem Fq.set {S:Nat→Prop} {w0 w:World} {l:List (Nat × TypeId × Array Value)} (h:Fq S w0 w l) (i:Nat) {g:Nat} {T:TypeId} {cs:Array Value} (hi:l[i]?=some (g,T,cs)) (cs':Array Value):Fq S w0 (w.setRow g cs') (l.set i (g,T,cs')):=by
  have hlt:=(List.getElem?_eq_some_iff.1 hi).1
  have key:∀ (j:Nat) g1 T1 cs1,(l.set i (g,T,cs'))[j]?=some (g1,T1,cs1)→(j=i∧g1=g∧T1=T∧cs1=cs')∨(j≠i∧l[j]?=some (g1,T1,cs1)):=by
    intro j g1 T1 cs1 hj
    rw [List.getElem?_set] at hj
    by_cases e:i=j
    · subst e
      simp [hlt] at hj
      exact .inl ⟨rfl,hj.1.symm,hj.2.1.symm,hj.2.2.symm⟩
    · simp [e] at hj
      exact .inr ⟨fun h=>e h.symm,hj⟩
  refine ⟨kept_row h.kept (h.low i g T cs hi) _,?_,?_,?_⟩
  · intro j g1 T1 cs1 hj
    rcases key j g1 T1 cs1 hj with ⟨rfl,rfl,rfl,rfl⟩ | ⟨hne,hj2⟩
    · exact (h.box _ _ _ _ hi).setRow _
    · refine (h.box j g1 T1 cs1 hj2).rowNe (fun e=>hne ?_) _
      subst e
      exact h.inj j i _ _ _ _ _ hj2 hi
  · intro j g1 T1 cs1 hj
    rcases key j g1 T1 cs1 hj with ⟨rfl,rfl,rfl,rfl⟩ | ⟨hne,hj⟩
    · exact h.low _ _ _ _ hi
    · exact h.low j g1 T1 cs1 hj
  · intro j k g1 T1 cs1 T2 cs2 hj hk
    rcases key j g1 T1 cs1 hj with ⟨rfl,rfl,rfl,rfl⟩ | ⟨hne,hj2⟩ <;> rcases key k g1 T2 cs2 hk with ⟨rfl,h1,h2,h3⟩ | ⟨hne',hk2⟩
    · rfl
    · exact h.inj _ _ _ _ _ _ _ hi hk2
    · subst h1;exact h.inj _ _ _ _ _ _ _ hj2 hi
    · exact h.inj _ _ _ _ _ _ _ hj2 hk2
theorem Fq.no {S:Nat→Prop} {w0 w w':World} {l:List (Nat × TypeId × Array Value)} (h:Fq S w0 w l) (hk:Kept No w w'):Fq S w0 w' l:=
  ⟨h.kept.thenNo hk,fun i g T cs hi=>(h.box i g T cs hi).kept hk (fun e=>e),h.low,h.inj⟩
theorem Fq.ne {S:Nat→Prop} {w0 w:World} {l:List (Nat × TypeId × Array Value)} (h:Fq S w0 w l) (i j:Nat) {g g':Nat} {T T':TypeId} {cs cs':Array Value} (hi:l[i]?=some (g,T,cs)) (hj:l[j]?=some (g',T',cs')) (hne:i≠j):g≠g':=by
  rintro rfl
  exact hne (h.inj i j _ _ _ _ _ hi hj)
theorem Fq.put {S:Nat→Prop} {w0 w w':World} {l:List (Nat × TypeId × Array Value)} (h:Fq S w0 w l) (i:Nat) {g:Nat} {T:TypeId} {cs cs':Array Value} (hi:l[i]?=some (g,T,cs)) (hk:Kept (Only g) w w') (hb:Box w' g T cs'):Fq S w0 w' (l.set i (g,T,cs')):=by
  have hlt:=(List.getElem?_eq_some_iff.1 hi).1
  have key:∀ (j:Nat) g1 T1 cs1,(l.set i (g,T,cs'))[j]?=some (g1,T1,cs1)→(j=i∧g1=g∧T1=T∧cs1=cs')∨(j≠i∧l[j]?=some (g1,T1,cs1)):=by
    intro j g1 T1 cs1 hj
    rw [List.getElem?_set] at hj
    by_cases e:i=j
    · subst e
      simp [hlt] at hj
      exact .inl ⟨rfl,hj.1.symm,hj.2.1.symm,hj.2.2.symm⟩
    · simp [e] at hj
      exact .inr ⟨fun h=>e h.symm,hj⟩
  refine ⟨h.kept.trans hk (fun _ e=>e) (fun k hk' e=>by
    have e:k=g:=e
    rcases h.low i g T cs hi with h1 | h1
    · omega
    · rw [e];exact h1),?_,?_,?_⟩
  · intro j g1 T1 cs1 hj
    rcases key j g1 T1 cs1 hj with ⟨rfl,rfl,rfl,rfl⟩ | ⟨hne,hj2⟩
    · exact hb
    · refine (h.box j g1 T1 cs1 hj2).kept hk (fun e=>hne ?_)
      have e:g1=g:=e
      subst e
      exact h.inj j i _ _ _ _ _ hj2 hi
  · intro j g1 T1 cs1 hj
    rcases key j g1 T1 cs1 hj with ⟨rfl,rfl,rfl,rfl⟩ | ⟨hne,hj⟩
    · exact h.low _ _ _ _ hi
    · exact h.low j g1 T1 cs1 hj
  · intro j k g1 T1 cs1 T2 cs2 hj hk
    rcases key j g1 T1 cs1 hj with ⟨rfl,rfl,rfl,rfl⟩ | ⟨hne,hj2⟩ <;> rcases key k g1 T2 cs2 hk with ⟨rfl,h1,h2,h3⟩ | ⟨hne',hk2⟩
    · rfl
    · exact h.inj _ _ _ _ _ _ _ hi hk2
    · subst h1;exact h.inj _ _ _ _ _ _ _ hj2 hi
    · exact h.inj _ _ _ _ _ _ _ hj2 hk2
theorem Fq.add {S:Nat→Prop} {w0 w w':World} {l:List (Nat × TypeId × Array Value)} (h:Fq S w0 w l) {g:Nat} {T:TypeId} {cs:Array Value} (hk:Kept No w w') (hg:w.heap.size≤g) (hb:Box w' g T cs):Fq S w0 w' (l++[(g,T,cs)]):=by
  have h1:=h.no hk
  refine ⟨h1.kept,?_,?_,?_⟩
  · intro i g1 T1 cs1 hi
    rw [List.getElem?_append] at hi
    split at hi
    · exact h1.box i g1 T1 cs1 hi
    · obtain ⟨rfl,rfl,rfl⟩:g=g1∧T=T1∧cs=cs1:=by
        have:=List.mem_of_getElem? hi
        simpa [eq_comm] using this
      exact hb
  · intro i g1 T1 cs1 hi
    rw [List.getElem?_append] at hi
    split at hi
    · exact h1.low i g1 T1 cs1 hi
    · obtain ⟨rfl,rfl,rfl⟩:g=g1∧T=T1∧cs=cs1:=by
        have:=List.mem_of_getElem? hi
        simpa [eq_comm] using this
      exact .inl (Nat.le_trans h.kept.size hg)
  · intro i j g1 T1 cs1 T2 cs2 hi hj
    rw [List.getElem?_append] at hi hj
    split at hi <;> split at hj
    · exact h.inj i j g1 T1 cs1 T2 cs2 hi hj
    · have q1:=(h.box i g1 T1 cs1 hi).lt
      have q2:g1=g:=by have:=List.mem_of_getElem? hj;simp at this;exact this.1
      omega
    · have q1:=(h.box j g1 T2 cs2 hj).lt
      have q2:g1=g:=by have:=List.mem_of_getElem? hi;simp at this;exact this.1
      omega
    · have q1:=(List.getElem?_eq_some_iff.1 hi).1
      have q2:=(List.getElem?_eq_some_iff.1 hj).1
      simp at q1 q2
      omega
structure OwI (w:World) (base:Nat) (s:Sl) (zs:List Int):Prop where
  own:Own 3 1 w base s.a s.k s.l (zs.map (Value.int .i64))
  len:zs.length=s.l
theorem OwI.kept {S:Nat→Prop} {w w':World} {base:Nat} {s:Sl} {es:List Int} (h:OwI w base s es) (hk:Kept S w w') (hS:∀ k,At s.a k→¬ S k):OwI w' base s es:=⟨h.own.kept hk hS,h.len⟩
theorem OwI.no {w w':World} {base:Nat} {s:Sl} {es:List Int} (h:OwI w base s es) (hk:Kept No w w'):OwI w' base s es:=h.kept hk (fun _ _ e=>e)
theorem OwI.at {w:World} {base:Nat} {s:Sl} {zs:List Int} (h:OwI w base s zs) {i:Nat} (hi:i < s.l):∃ g,s.a=some ⟨g,0,none⟩∧w.cell? ⟨g,0+i*1,none⟩=some (.int .i64 (zs[i]?.getD 0)):=by
  obtain ⟨b,off,e,hc⟩:=h.own.nums h.len i (by rw [h.len];exact hi)
  rcases Own.cases h.own (by simp [h.len]) with ⟨ha,_⟩ | ⟨g,ha,_⟩
  · rw [ha] at e;cases e
  · rw [ha] at e
    cases e
    exact ⟨b,ha,by rw [Nat.mul_one];exact hc⟩
theorem Fq.sub {S:Nat→Prop} {w0 w:World} {l l':List (Nat × TypeId × Array Value)} (h:Fq S w0 w l) (f:Nat→Nat) (hl:∀ (i:Nat) x,l'[i]?=some x→l[f i]?=some x) (hf:∀ i j,i < l'.length→j < l'.length→f i=f j→i=j):Fq S w0 w l':=
  ⟨h.kept,fun i g T cs hi=>h.box _ g T cs (hl i _ hi),fun i g T cs hi=>h.low _ g T cs (hl i _ hi),fun i j g T cs T' cs' hi hj=>hf i j (List.getElem?_eq_some_iff.1 hi).1 (List.getElem?_eq_some_iff.1 hj).1 (h.inj _ _ _ _ _ _ _ (hl i _ hi) (hl j _ hj))⟩
section
variable {ops:Array Oper} {rest:List Oper} {o:Oper} {a:Act} {w:World} {Q:Exit→Act→World→Prop} {md:Region.Mode} {S:World→Prop}
end
section
end
end Go.Proofs.YtgdnofacgfjaeabGreat.Md
