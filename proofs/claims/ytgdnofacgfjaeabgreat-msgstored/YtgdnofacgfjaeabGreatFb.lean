import Derived.Test.YtgdnofacgfjaeabGreatKc
import Derived.WalkMore
import Derived.Lib.Bytealg
import Derived.Lib.Walk
namespace Go.Proofs.YtgdnofacgfjaeabGreat.Md
open Go.RowKit
set_option linter.unusedVariables false
set_option linter.unusedSimpArgs false
section
variable {ops:Array Oper} {o:Oper} {a:Act} {w w':World} {Q:Exit→Act→World→Prop} {md:Region.Mode} {S:World→Prop}
theorem exec_store (t:TypeId) (x y:Operand) (ho:o.op=.store t x y) (ad:Addr) (v:Value) (hx:a.eval x=.pointer (some ad)) (hy:a.eval y=v) (hrun:(storeVar t ad v).run Tryz.prog w=.ok () w'):(execOp a.eval o).run Tryz.prog w=.ok .skip w':=by
  simp only[execOp,ho,hx,hy,Instr.storeAt,Instr.sureAddr,Sem.run_bind,Sem.run_pure,Result.andThen_ok,hrun]
theorem any_step {i:Nat} {fuel:Nat} {listed:Array Bool} {v:Value} (hi:ops[i]?=some o) (hr:Region.ready md ops listed=[i]) (hw:Region.wanted o (yielded ops a.tmps)=true)
    (hrun:(execOp a.eval o).run Tryz.prog w=.ok (.value v) w') (hS:S w') (h:S w'→wpAnyH Tryz.prog md ops Q S fuel (listed.setIfInBounds i true) (a.put o.dst v) w'):wpAnyH Tryz.prog md ops Q S (fuel+1) listed a w:=by
  refine wpAnyH_ready hr (by simp) (AllReadyH.cons hi (fun K hK=>?_) AllReadyH.nil)
  rw [if_pos hw]
  unfold Oper.wp
  rw [hrun,Oper.upon_value]
  exact hK.out _ _ hS h
theorem any_store {i:Nat} {fuel:Nat} {listed:Array Bool} (hi:ops[i]?=some o) (hr:Region.ready md ops listed=[i]) (hw:Region.wanted o (yielded ops a.tmps)=true)
    (t:TypeId) (x y:Operand) (ho:o.op=.store t x y) (ad:Addr) (v:Value) (hx:a.eval x=.pointer (some ad)) (hy:a.eval y=v) (hrun:(storeVar t ad v).run Tryz.prog w=.ok () w') (hS:S w') (h:S w'→wpAnyH Tryz.prog md ops Q S fuel (listed.setIfInBounds i true) (a.put o.dst undef) w'):wpAnyH Tryz.prog md ops Q S (fuel+1) listed a w:=by
  refine wpAnyH_ready hr (by simp) (AllReadyH.cons hi (fun K hK=>?_) AllReadyH.nil)
  rw [if_pos hw]
  unfold Oper.wp
  rw [exec_store (w:=w) (w':=w') t x y ho ad v hx hy hrun,Oper.upon_skip]
  exact hK.out _ _ hS h
theorem any_skip {i:Nat} {oi:Oper} {fuel:Nat} {listed:Array Bool} (hi:ops[i]?=some oi)
    (hs:Region.noSelect ops=true) (hf:Region.free md ops listed i=true) (hr:(Region.ready md ops listed).contains i=true)
    (hQ:∀ c a w,Q (.panic c) (a.put oi.dst undef) w→Q (.panic c) a w) (hw:Region.wanted oi (yielded ops a.tmps)=false) (hS:S w)
    (h:wpAnyH Tryz.prog md ops Q S fuel (listed.setIfInBounds i true) (a.put oi.dst undef) w):wpAnyH Tryz.prog md ops Q S (fuel+1) listed a w:=
  wpAnyH_take hi hs hf hr hQ (.inr ⟨hw,rfl⟩) hS h
end
section
variable {ops:Array Oper} {rest:List Oper} {o:Oper} {a:Act} {w:World} {Q:Exit→Act→World→Prop}
theorem wp_skip (hw:Region.wanted o (yielded ops a.tmps)=false)
    (h:WL ops Q rest (a.put o.dst undef) w):WL ops Q (o :: rest) a w:=by
  refine ⟨?_⟩
  unfold wpList
  rw [hw]
  exact h.out
end
section
variable {ops:Array Oper} {o:Oper} {a:Act} {w w':World} {Q:Exit→Act→World→Prop} {md:Region.Mode} {S:World→Prop} {fuel:Nat} {listed:Array Bool}
end
theorem Tryz.und65:Tryz.prog.underlying 51=some (.slice 106):=by kernel_rfl
theorem Tryz.und66:Tryz.prog.underlying 52=some (.slice 108):=by kernel_rfl
theorem Tryz.info110:(Tryz.prog.info? 106).map (fun i=>(i.zero,i.size,i.bytes))=some (some (.agg enZ.cells),4,40):=by kernel_rfl
theorem Tryz.info91:(Tryz.prog.info? 108).map (fun i=>(i.zero,i.size,i.bytes))=some (some (.agg laZ.cells),7,56):=by kernel_rfl
section
variable {ops:Array Oper} {rest:List Oper} {o:Oper} {a:Act} {w:World} {Q:Exit→Act→World→Prop} {md:Region.Mode} {S:World→Prop}
theorem sK (h:WL ops Q rest (a.put o.dst undef) w) (hw:Region.wanted o (yielded ops a.tmps)=false:=by kernel_rfl):WL ops Q (o :: rest) a w:=wp_skip hw h
end
theorem enL_app (a b:List En):enL (a++b)=enL a++enL b:=by simp [enL]
theorem laL_app (a b:List La):laL (a++b)=laL a++laL b:=by simp [laL]
theorem b_leq (x y:Int) (w:World):(binOp .leq 3 (.int .i64 x) (.int .i64 y)).run Tryz.prog w=.ok (.bool (decide (x≤y))) w:=by kernel_rfl
theorem sliced_in (g off l h m c:Nat) (hl:l < m):sliced (some ⟨g,off,none⟩) l h m c=.slice (some ⟨g,off+l*c,none⟩) (h - l) (m - l):=by
  unfold sliced
  rw [if_neg (by omega)]
  simp [addr_add]
section
variable {o:Oper} {a:Act} {w:World}
theorem size_of {t:TypeId} {n:Nat} (h:(Tryz.prog.info? t).map (·.size)=some n) (w:World):(sizeOf t).run Tryz.prog w=.ok n w:=by
  cases hq:Tryz.prog.info? t with
  | none=>simp [hq] at h
  | some i=>
    have:i.size=n:=by simpa [hq] using h
    simp [sizeOf,typeInfo,hq,this]
theorem exec_slH (t:TypeId) (x hi:Operand) (ho:o.op=.slice t x none (some hi) none) (c:Nat) (ht:Tryz.prog.underlying t=some (.slice (Tryz.prog.elem t))) (hs:(Tryz.prog.info? (Tryz.prog.elem t)).map (·.size)=some c) (ad:Option Addr) (len cap l:Nat)
    (hx:a.eval x=.slice ad len cap) (hl:a.eval hi=.int .i64 (l:Int)) (h:l≤cap):(execOp a.eval o).run Tryz.prog w=.ok (.value (sliced ad 0 l cap c)) w:=by
  simp only[execOp,ho,hx,Option.map_some,Option.map_none,hl,Sem.run_bind,run_sliceAt_slice w t _ _ _ _ ht,run_slice_h w t ad len cap ht .i64 (l:Int) (by omega) (by omega),size_of hs,Result.andThen_ok,Sem.run_pure,Int.toNat_natCast]
end
theorem sliced0 (g n m c:Nat) (h:0 < m):sliced (some ⟨g,0,none⟩) 0 n m c=.slice (some ⟨g,0,none⟩) n m:=by
  rw [sliced_in g 0 0 n m c h];simp
theorem made_row (c:Nat) (z:List Value) (hz:z.length=c) (h0:0 < c) (n:Nat):madeCells z.toArray (n*c)=((List.replicate n z).flatten).toArray:=by
  have hc:∀ x∈List.replicate n z,x.length=c:=fun x hx=>by rw [(List.mem_replicate.1 hx).2];exact hz
  have hfl:((List.replicate n z).flatten).length=n*c:=by rw [flat_len c _ hc,List.length_replicate]
  apply Array.ext
  · rw [size_madeCells];simp only[List.size_toArray];exact hfl.symm
  · intro i h1 h2
    rw [size_madeCells] at h1
    have hi:i / c < n:=Nat.div_lt_of_lt_mul (by rw [Nat.mul_comm];exact h1)
    have hm:i % c < z.length:=by rw [hz];exact Nat.mod_lt _ h0
    have h3:=flat_get c _ hc (i / c) z (by simp [hi]) (i % c) z[i % c] (List.getElem?_eq_getElem hm)
    rw [show i / c*c+i % c=i by rw [Nat.mul_comm];exact Nat.div_add_mod i c] at h3
    have h4:((List.replicate n z).flatten)[i]?=some (((List.replicate n z).flatten)[i]'(by simpa using h2)):=List.getElem?_eq_getElem _
    rw [h4] at h3
    have h5:=Option.some.inj h3
    simp only[List.getElem_toArray,h5]
    simp [madeCells,hz]
    rw [List.getElem?_eq_getElem hm];rfl
theorem rep_en (n:Nat):((List.replicate n enZ.cs).flatten)=enL (List.replicate n enZ):=by simp [enL]
theorem make_en (w:World) (n:Nat) (hb:n≤3518437208883):(Instr.makeSlice 51 (.int .i64 (n:Int)) (.int .i64 (n:Int))).run Tryz.prog w=.ok (.slice (some ⟨w.heap.size,0,none⟩) n n) (w.alloc (.cells (enL (List.replicate n enZ)).toArray 106)):=by
  cases hq:Tryz.prog.info? 106 with
  | none=>have:=Tryz.info110;simp [hq] at this
  | some i=>
    have h1:=Tryz.info110
    simp only[hq,Option.map_some,Option.some.injEq,Prod.mk.injEq] at h1
    obtain ⟨hz,hs,hby⟩:=h1
    have h:=run_make (P:=Tryz.prog) w 51 106 i (.agg enZ.cells) Tryz.und65 hq hz .i64 .i64 (n:Int) (n:Int) (by omega) (by omega) (by rw [hby];omega) (by omega)
    rw [h,hs,← rep_en]
    simp only[Int.toNat_natCast]
    rw [← made_row 4 enZ.cs rfl (by omega) n]
    rfl
theorem rep_la (n:Nat):((List.replicate n laZ.cs).flatten)=laL (List.replicate n laZ):=by simp [laL]
theorem make_la (w:World) (n:Nat) (hb:n≤2513169434916):(Instr.makeSlice 52 (.int .i64 (n:Int)) (.int .i64 (n:Int))).run Tryz.prog w=.ok (.slice (some ⟨w.heap.size,0,none⟩) n n) (w.alloc (.cells (laL (List.replicate n laZ)).toArray 108)):=by
  cases hq:Tryz.prog.info? 108 with
  | none=>have:=Tryz.info91;simp [hq] at this
  | some i=>
    have h1:=Tryz.info91
    simp only[hq,Option.map_some,Option.some.injEq,Prod.mk.injEq] at h1
    obtain ⟨hz,hs,hby⟩:=h1
    have h:=run_make (P:=Tryz.prog) w 52 108 i (.agg laZ.cells) Tryz.und66 hq hz .i64 .i64 (n:Int) (n:Int) (by omega) (by omega) (by rw [hby];omega) (by omega)
    rw [h,hs,← rep_la]
    simp only[Int.toNat_natCast]
    rw [← made_row 7 laZ.cs rfl (by omega) n]
    rfl
theorem exec_make {o:Oper} {a:Act} {w w':World} {v:Value} (t:TypeId) (x y:Operand) (ho:o.op=.makeSlice t x y) (vx vy:Value) (hx:a.eval x=vx) (hy:a.eval y=vy) (hrun:(Instr.makeSlice t vx vy).run Tryz.prog w=.ok v w'):(execOp a.eval o).run Tryz.prog w=.ok (.value v) w':=by
  simp [execOp,ho,hx,hy,hrun]
theorem rs {w:World} {g off:Nat} {T ty:TypeId} {v:Value} (cur vs new:List Value) (hb:Box w g T cur.toArray) (hi:(Tryz.prog.info? ty).map (·.size)=some vs.length) (h1:∀ x∈vs,x.oneCell'=true) (hv:v.cells=vs.toArray:=by kernel_rfl) (hl:Nat.ble (off+vs.length) cur.length=true:=by kernel_rfl) (hn:putL cur off vs=new:=by kernel_rfl):(storeVar ty ⟨g,off,none⟩ v).run Tryz.prog w=.ok () (w.setRow g new.toArray):=run_store_to hb hv hi (Nat.le_of_ble_eq_true hl) h1 hn
theorem Tryz.und69:Tryz.prog.underlying 30=some (.slice 5):=by kernel_rfl
theorem b_neqB (a b:Bool) (w:World):(binOp .neq 4 (.bool a) (.bool b)).run Tryz.prog w=.ok (.bool (!(a==b))) w:=by kernel_rfl
theorem eqS_neq (a b:Sp) (w:World):(binOp .neq 35 (.agg a.cells) (.agg b.cells)).run Tryz.prog w=.ok (.bool (!eqS a b)) w:=by
  rw [run_neq_struct,eq25 9998];rfl
theorem Fq.front {S:Nat→Prop} {w0 w:World} {l m:List (Nat × TypeId × Array Value)} (h:Fq S w0 w (l++m)):Fq S w0 w l:=
  ⟨h.kept,fun i g T cs hi=>h.box i g T cs (List.getElem?_append_left (List.getElem?_eq_some_iff.1 hi).1 ▸ hi),fun i g T cs hi=>h.low i g T cs (List.getElem?_append_left (List.getElem?_eq_some_iff.1 hi).1 ▸ hi),
    fun i j g T cs T' cs' hi hj=>h.inj i j g T cs T' cs' (List.getElem?_append_left (List.getElem?_eq_some_iff.1 hi).1 ▸ hi) (List.getElem?_append_left (List.getElem?_eq_some_iff.1 hj).1 ▸ hj)⟩
section
variable {ops:Array Oper} {rest:List Oper} {o:Oper} {a:Act} {w:World} {Q:Exit→Act→World→Prop} {md:Region.Mode} {S:World→Prop}
theorem aS {i:Nat} {oi:Oper} {fuel:Nat} {listed:Array Bool} (hS:S w) (h:wpAnyH Tryz.prog md ops Q S fuel (listed.setIfInBounds i true) (a.put oi.dst undef) w)
    (hi:ops[i]?=some oi:=by rfl) (hs:Region.noSelect ops=true:=by kernel_rfl) (hf:Region.free md ops listed i=true:=by kernel_rfl) (hr:(Region.ready md ops listed).contains i=true:=by kernel_rfl)
    (hQ:∀ c a w,Q (.panic c) (a.put oi.dst undef) w→Q (.panic c) a w:=by exact fun _ _ _ h=>h) (hw:Region.wanted oi (yielded ops a.tmps)=false:=by kernel_rfl):wpAnyH Tryz.prog md ops Q S (fuel+1) listed a w:=
  any_skip hi hs hf hr hQ hw hS h
end
theorem eqS_eql (a b:Sp) (w:World):(binOp .eql 35 (.agg a.cells) (.agg b.cells)).run Tryz.prog w=.ok (.bool (eqS a b)) w:=by
  rw [run_eql_struct,eq25 9998];rfl
theorem eqC_eql (a b:Cm) (w:World):(binOp .eql 45 (.agg a.cells) (.agg b.cells)).run Tryz.prog w=.ok (.bool (eqC a b)) w:=by
  rw [run_eql_struct,eq47 9997];rfl
theorem b_gtr (x y:Int) (w:World):(binOp .gtr 3 (.int .i64 x) (.int .i64 y)).run Tryz.prog w=.ok (.bool (decide (y < x))) w:=by kernel_rfl
theorem run_appN {w:World} (T ty E:TypeId) (c by':Nat) (z:Value) (ht:Tryz.prog.underlying T=some (.slice E))
    (hinf:(Tryz.prog.info? E).map (fun i=>(i.zero,i.size,i.bytes))=some (some z,c,by')) (hzc:z.cells.size=c) (hc0:0 < c)
    (base n cap:Nat) (sa:Option Addr) (vs:List Value) (hown:Own E c w base sa cap n vs) (xa:Option Addr) (m cc:Nat) (news:List Value) (hl:news.length=m*c) (hx0:xa=none→cc=0) (hnews:∀ j u,news[j]?=some u→∃ ad,xa=some ad∧w.cell? (ad.add j)=some u) (h1:∀ u∈news,u.oneCell'=true) (hbd:(n+m) * by'≤140737488355328) (hb63:n+m≤9223372036854775807) (hbase:base≤w.heap.size) :
    ∃ a' cap' w',(Builtin.append_ #[T,T] ty #[.slice sa n cap,.slice xa m cc]).run Tryz.prog w=.ok (.slice a' (n+m) cap') w'∧Own E c w' base a' cap' (n+m) (vs++news)∧Kept (At sa) w w'∧(∀ k,At a' k→At sa k∨k=w.heap.size):=by
  obtain ⟨i0,hi,hz0,hz1,hz2⟩:=info_parts hinf
  cases xa with
  | none=>
    have hm:m=0:=by
      cases m with
      | zero=>rfl
      | succ m=>
        have h0:0 < news.length:=by rw [hl,Nat.succ_mul];omega
        obtain ⟨ad,e,_⟩:=hnews 0 news[0] (List.getElem?_eq_getElem h0)
        cases e
    subst hm
    obtain rfl:news=[]:=List.eq_nil_of_length_eq_zero (by simpa using hl)
    obtain rfl:=hx0 rfl
    have hrun:=run_append_owned_none (P:=Tryz.prog) (w:=w) base T ty E i0 c ht hi (.slice sa n cap) n vs hown
    exact ⟨sa,cap,w,hrun,by simpa using hown,Kept.refl _ _,fun k hk=>.inl hk⟩
  | some ad=>
    obtain ⟨v',w',hrun,r1,r2,_,r4⟩:=run_append_own_at (P:=Tryz.prog) (w:=w) base T ty E i0 z c by' ht hi hz0 hz1 hz2 hzc hc0 (.slice sa n cap) n vs hown ad m cc news hl (fun j u hj=>by obtain ⟨ad',e,h⟩:=hnews j u hj;cases e;exact h) h1 (by unfold maxLen;omega) hbd hbase
    have hk:Kept (At sa) w w':=(Kept.refl (At sa) w).grown r2 (fun k e hk=>by
      cases sa with
      | none=>cases e
      | some ad'=>simp only[Value.ownBlock,Option.some.injEq] at e;exact ⟨ad',rfl,e⟩)
    rcases r1.2 with ⟨e,h0⟩ | ⟨g,cap',cur,e,_⟩
    · subst e
      refine ⟨none,0,w',?_,?_,hk,fun k h=>absurd h At.none⟩
      · rw [hrun,h0]
      · have:=r1;rw [h0] at this ⊢;exact this
    · subst e
      refine ⟨some ⟨g,0,none⟩,cap',w',hrun,r1,hk,?_⟩
      rintro k ⟨ad2,e2,rfl⟩
      cases e2
      rcases r4 with e | e
      · left
        cases sa with
        | none=>simp [Value.ownBlock] at e
        | some ad'=>simp only[Value.ownBlock,Option.some.injEq] at e;exact ⟨ad',rfl,e.symm⟩
      · right;simpa [Value.ownBlock] using e
abbrev pg (g k:Nat):Value:=.pointer (some ⟨g,k,none⟩)
theorem hidC {f:FuncId} {args:Array Value} {w:World} {P:Ending→World→Prop} (h:∀ C,Hid (C=P)→Calls Tryz.prog f args w C):Calls Tryz.prog f args w P:=h P rfl
theorem pS:(∀ (a:Act) (t:Tmp) (v:Value),a.put (some t) v={ tmps:=a.tmps.setIfInBounds t v,defers:=a.defers })∧(∀ (a:Act) (v:Value),a.put none v=a)∧(∀ {α:Type} (l:List α) (i:Nat) (v:α),l.toArray.setIfInBounds i v=(l.set i v).toArray)∧(∀ {α:Type} (x:α) (l:List α) (v:α),(x :: l).set 0 v=v :: l)∧(∀ {α:Type} (x:α) (l:List α) (i:Nat) (v:α),(x :: l).set (i+1) v=x :: l.set i v):=⟨fun _ _ _=>rfl,fun _ _=>rfl,fun _ _ _=>List.setIfInBounds_toArray ..,fun _ _ _=>rfl,fun _ _ _ _=>rfl⟩
theorem lf (C:Ending→World→Prop) {w0 w:World} {l:List (Nat × TypeId × Array Value)} {b F:Bool} (HC:Hid (C=fun e w'=>e=.returned (.bool F)∧Kept No w0 w')) (HF:Hid (Fq No w0 w l)) (h:b=F):C (.returned (.bool b)) w:=by
  rw [HC.out];exact ⟨ret_bool h,HF.out.kept⟩
section
variable {ops:Array Oper} {rest:List Oper} {o:Oper} {a:Act} {w:World} {Q:Exit→Act→World→Prop}
theorem tF (h:WL ops Q rest (a.put o.dst (.bool false)) w) (hrun:(execOp a.eval o).run Tryz.prog w=.ok (.value (.bool false)) w:=by kernel_rfl) (hw:Region.wanted o (yielded ops a.tmps)=true:=by kernel_rfl):WL ops Q (o :: rest) a w:=wp_takeW _ hrun hw h
theorem tU (h:WL ops Q rest (a.put o.dst (.bool true)) w) (hrun:(execOp a.eval o).run Tryz.prog w=.ok (.value (.bool true)) w:=by kernel_rfl) (hw:Region.wanted o (yielded ops a.tmps)=true:=by kernel_rfl):WL ops Q (o :: rest) a w:=wp_takeW _ hrun hw h
theorem Nl (h:Q .normal a w):WL ops Q [] a w:=⟨wpList_nil h⟩
theorem Sg {id:Nat} {l:List Oper} (h:WL l.toArray Q l a w):(Code.region id l.toArray false).wp Tryz.prog Q a w:=wp_region_lit h.out
end
section
variable {ops:Array Oper} {rest:List Oper} {o:Oper} {a:Act} {w:World} {Q:Exit→Act→World→Prop} {S:Nat→Prop} {w0:World} {l:List (Nat × TypeId × Array Value)}
theorem cB {f:FuncId} {args:Array Value} {F b:Bool} (hc:Calls Tryz.prog f args w (fun e w'=>e=.returned (.bool F)∧Kept No w w')) (hF:F=b) (HF:Hid (Fq S w0 w l))
    (h:∀ w',Hid (Fq S w0 w' l)→WL ops Q rest (a.put o.dst (.bool b)) w')
    (hrun:(execOp a.eval o).run Tryz.prog w=.ok (.enter f args) w:=by kernel_rfl) (hw:Region.wanted o (yielded ops a.tmps)=true:=by kernel_rfl):WL ops Q (o :: rest) a w:=
  wp_callW f args hrun _ hc hw (by rintro e w' ⟨rfl,hk⟩;exact ⟨_,by rw [hF],h w' (HF.out.no hk)⟩)
theorem cV {f:FuncId} {args:Array Value} {v:Value} (hc:Calls Tryz.prog f args w (fun e w'=>e=.returned v∧Kept No w w')) (HF:Hid (Fq S w0 w l))
    (h:∀ w',Hid (Fq S w0 w' l)→WL ops Q rest (a.put o.dst v) w')
    (hrun:(execOp a.eval o).run Tryz.prog w=.ok (.enter f args) w:=by kernel_rfl) (hw:Region.wanted o (yielded ops a.tmps)=true:=by kernel_rfl):WL ops Q (o :: rest) a w:=
  wp_callW f args hrun _ hc hw (by rintro e w' ⟨rfl,hk⟩;exact ⟨_,rfl,h w' (HF.out.no hk)⟩)
theorem lD (v:Value) (HF:Hid (Fq S w0 w l)) (i k:Nat) {t:TypeId} {d:TypeDesc} (hu:Tryz.prog.underlying t=some d) {g:Nat} {Tb:TypeId} {cs:Array Value} (hi:l[i]?=some (g,Tb,cs)) (h:WL ops Q rest (a.put o.dst v) w) {x:Operand}
    (ho:o.op=.load t x:=by rfl) (hx:a.eval x=.pointer (some ⟨g,k,none⟩):=by kernel_rfl) (hc:cs[k]?=some v:=by kernel_rfl) (hd:(match d with | .struct _ | .array _ _=>true | _=>false)=false:=by kernel_rfl)
    (hw:Region.wanted o (yielded ops a.tmps)=true:=by kernel_rfl):WL ops Q (o :: rest) a w:=
  tW v (exec_load t x ho ⟨g,k,none⟩ hx v (load_one (((HF.out.box i g Tb cs hi).cell k).trans hc) hu hd)) h hw
theorem lP (sub:List Value) (HF:Hid (Fq S w0 w l)) (i k:Nat) {t:TypeId} (hu:Tryz.prog.underlying t=some (.struct (Tryz.prog.fieldsOf t))) (hs:(Tryz.prog.info? t).map (·.size)=some sub.length) {g:Nat} {Tb:TypeId} (cs:List Value) (hi:l[i]?=some (g,Tb,cs.toArray)) (h:WL ops Q rest (a.put o.dst (.agg sub.toArray)) w) {x:Operand}
    (ho:o.op=.load t x:=by rfl) (hx:a.eval x=.pointer (some ⟨g,k,none⟩):=by kernel_rfl) (hc:(cs.drop k).take sub.length=sub:=by kernel_rfl)
    (hw:Region.wanted o (yielded ops a.tmps)=true:=by kernel_rfl):WL ops Q (o :: rest) a w:=
  tW _ (exec_load t x ho ⟨g,k,none⟩ hx _ (run_load_part (cs:=cs) (sub:=sub) (HF.out.box i g Tb _ hi) (part_of hc) hu rfl hs)) h hw
theorem xB {t:TypeId} (cs:Array Value) (HF:Hid (Fq S w0 w l)) (h:∀ g w',Hid (Fq S w0 w' (l++[(g,t,cs)]))→WL ops Q rest (a.put o.dst (.pointer (some ⟨g,0,none⟩))) w') {x:Operand}
    (ho:o.op=.box t x:=by rfl) (hx:a.eval x=.agg cs:=by kernel_rfl) (hw:Region.wanted o (yielded ops a.tmps)=true:=by kernel_rfl):WL ops Q (o :: rest) a w:=
  wp_runW _ _ (exec_box t x ho cs hx) hw (h _ _ (HF.out.alloc t cs))
theorem xA {t:TypeId} (cs:Array Value) (hz:(Tryz.prog.info? t).bind (·.zero)=some (.agg cs)) (HF:Hid (Fq S w0 w l)) (h:∀ g w',Hid (Fq S w0 w' (l++[(g,t,cs)]))→WL ops Q rest (a.put o.dst (.pointer (some ⟨g,0,none⟩))) w')
    (ho:o.op=.alloc t:=by rfl) (hw:Region.wanted o (yielded ops a.tmps)=true:=by kernel_rfl):WL ops Q (o :: rest) a w:=
  wp_runW _ _ (exec_alloc t ho cs hz) hw (h _ _ (HF.out.alloc t cs))
theorem sB (new:List Value) (vs:List Value) (HF:Hid (Fq S w0 w l)) (i k:Nat) {t:TypeId} {v:Value} (hv:v.cells=vs.toArray) (hs:(Tryz.prog.info? t).map (·.size)=some vs.length) (h1:∀ x∈vs,x.oneCell'=true) {g:Nat} {Tb:TypeId} (cur:List Value) (hi:l[i]?=some (g,Tb,cur.toArray))
    (h:∀ w',Hid (Fq S w0 w' (l.set i (g,Tb,new.toArray)))→WL ops Q rest (a.put o.dst undef) w') {x y:Operand}
    (ho:o.op=.store t x y:=by rfl) (hx:a.eval x=.pointer (some ⟨g,k,none⟩):=by kernel_rfl) (hy:a.eval y=v:=by kernel_rfl) (hl:k+vs.length≤cur.length:=by exact Nat.le_of_ble_eq_true (by kernel_rfl)) (hn:putL cur k vs=new:=by kernel_rfl)
    (hw:Region.wanted o (yielded ops a.tmps)=true:=by kernel_rfl):WL ops Q (o :: rest) a w:=
  wp_storeW t x y ho ⟨g,k,none⟩ v hx hy _ (run_store_to (HF.out.box i g Tb _ hi) hv hs hl h1 hn) hw (h _ (HF.out.set i hi _))
theorem bN {b:BinOp} {t:TypeId} {vx vy v:Value} (hrun:∀ w,(binOp b t vx vy).run Tryz.prog w=.ok v w) (h:WL ops Q rest (a.put o.dst v) w) {s:TypeId} {x y:Operand}
    (ho:o.op=.binOp b t x y s:=by rfl) (hx:a.eval x=vx:=by kernel_rfl) (hy:a.eval y=vy:=by kernel_rfl) (hgd:(eqGuard b t x y vx vy).run Tryz.prog w=.ok () w:=by kernel_rfl) (hw:Region.wanted o (yielded ops a.tmps)=true:=by kernel_rfl):WL ops Q (o :: rest) a w:=
  tW v (exec_bin b t s x y ho vx vy v hx hy hgd (hrun w)) h hw
theorem bD {t:TypeId} (cs:Array Value) (h:WL ops Q rest (a.put o.dst (.agg cs)) w) {parts:Array (Nat × Operand)} (ho:o.op=.build t parts:=by rfl) (hf:Tryz.prog.built t (parts.map fun (i,x)=>(i,a.eval x)).toList=some cs:=by kernel_rfl) (hw:Region.wanted o (yielded ops a.tmps)=true:=by kernel_rfl):WL ops Q (o :: rest) a w:=
  tW _ (exec_build t parts ho cs hf) h hw
end
theorem eI {a b:Int} {c:Bool} (h:(a==b)=c) (w:World):(binOp .eql 3 (.int .i64 a) (.int .i64 b)).run Tryz.prog w=.ok (.bool c) w:=by rw [b_eql,h]
theorem nI0 {a b:Int} (h:(a==b)=false) (w:World):(binOp .neq 3 (.int .i64 a) (.int .i64 b)).run Tryz.prog w=.ok (.bool true) w:=by rw [b_neq,h];rfl
theorem nI1 {a b:Int} (h:(a==b)=true) (w:World):(binOp .neq 3 (.int .i64 a) (.int .i64 b)).run Tryz.prog w=.ok (.bool false) w:=by rw [b_neq,h];rfl
theorem lI {a b:Int} {c:Bool} (h:decide (a < b)=c) (w:World):(binOp .lss 3 (.int .i64 a) (.int .i64 b)).run Tryz.prog w=.ok (.bool c) w:=by rw [b_lss,h]
theorem gI {a b:Int} {c:Bool} (h:decide (b < a)=c) (w:World):(binOp .gtr 3 (.int .i64 a) (.int .i64 b)).run Tryz.prog w=.ok (.bool c) w:=by rw [b_gtr,h]
theorem leI {a b:Int} {c:Bool} (h:decide (a≤b)=c) (w:World):(binOp .leq 3 (.int .i64 a) (.int .i64 b)).run Tryz.prog w=.ok (.bool c) w:=by rw [b_leq,h]
def blZ:Bl:=⟨spZ,slZ⟩
structure Fi where
  c:Int
  o:Int
def fiZ:Fi:=⟨0,0⟩
def Fi.cs (f:Fi):List Value:=[.int .i64 f.c,.int .i64 f.o]
def Fi.cells (f:Fi):Array Value:=f.cs.toArray
def eqFi (a b:Fi):Bool:=a.c==b.c&&a.o==b.o
theorem eqFi_at (a b:Fi) (w:World):(Op.equalIn (9998+2) 43 (.agg a.cells) (.agg b.cells)).run Tryz.prog w=.ok (eqFi a b) w:=eq45 9998 a.c a.o b.c b.o w
theorem eqFi_eql (a b:Fi) (w:World):(binOp .eql 43 (.agg a.cells) (.agg b.cells)).run Tryz.prog w=.ok (.bool (eqFi a b)) w:=by
  rw [run_eql_struct,eqFi_at];rfl
structure Cg where
  sv:Sl
  f:Int
  po:Int
  bu:Int
  bl:Int
  rm:Int
def Cg.cs (c:Cg):List Value:=[c.sv.v,.int .i64 c.f,.int .i64 c.po,.int .i64 c.bu,.int .i64 c.bl,.int .i64 c.rm]
def Cg.cells (c:Cg):Array Value:=c.cs.toArray
theorem Fi.oneL (s:Fi):∀ v∈s.cs,v.oneCell'=true:=by simp [Fi.cs,Value.oneCell']
theorem Cg.oneL (s:Cg):∀ v∈s.cs,v.oneCell'=true:=by simp [Cg.cs,Sl.v,Value.oneCell']
section
variable {ops:Array Oper} {rest:List Oper} {o:Oper} {a:Act} {w:World} {Q:Exit→Act→World→Prop} {S:Nat→Prop} {w0:World} {l:List (Nat × TypeId × Array Value)}
theorem iS {s:Sl} {b off i n:Nat} {t:TypeId} (hsl:s.v=.slice (some ⟨b,off,none⟩) s.l s.k) (hu:Tryz.prog.underlying t=some (.slice (Tryz.prog.elem t))) (hs:(Tryz.prog.info? (Tryz.prog.elem t)).map (·.size)=some n) (hi:i < s.l)
    (h:WL ops Q rest (a.put o.dst (.pointer (some ⟨b,off+i*n,none⟩))) w) {x y:Operand} (ho:o.op=.indexAddr t x y:=by rfl) (hx:a.eval x=s.v:=by kernel_rfl) (hy:a.eval y=.int .i64 (i:Int):=by kernel_rfl)
    (hw:Region.wanted o (yielded ops a.tmps)=true:=by kernel_rfl):WL ops Q (o :: rest) a w:=
  tW _ (exec_ixA t n hu hs x y ho b off s.l s.k i (hx.trans hsl) hy hi) h hw
theorem lR {v:Value} {t:TypeId} {ad:Addr} (hrun:(loadVar t ad).run Tryz.prog w=.ok v w) (h:WL ops Q rest (a.put o.dst v) w) {x:Operand} (ho:o.op=.load t x:=by rfl) (hx:a.eval x=.pointer (some ad):=by kernel_rfl)
    (hw:Region.wanted o (yielded ops a.tmps)=true:=by kernel_rfl):WL ops Q (o :: rest) a w:=tW v (exec_load t x ho ad hx v hrun) h hw
end
theorem b_mulw (x y z:Int) (h:IntKind.i64.wrap (x*y)=z) (w:World):(binOp .mul 3 (.int .i64 x) (.int .i64 y)).run Tryz.prog w=.ok (.int .i64 z) w:=by rw [← h];kernel_rfl
theorem nU {a b:Int} {c:Bool} (h:(a != b)=c) (w:World):(binOp .neq 5 (.int .u8 a) (.int .u8 b)).run Tryz.prog w=.ok (.bool c) w:=by rw [← h];kernel_rfl
theorem eIE {a b:Int} {c:Bool} (h:(a==b)=c) (w:World):(binOp .eql 31 (.int .i64 a) (.int .i64 b)).run Tryz.prog w=.ok (.bool c) w:=by rw [← h];kernel_rfl
def ltS (a b:ByteArray):Bool:=Op.bytesLess a.toList b.toList
theorem bl_tri:∀ a b:List UInt8,(Op.bytesLess a b||a==b)=!Op.bytesLess b a
  | [],[]=>rfl
  | [],y :: ys=>rfl
  | x :: xs,[]=>rfl
  | x :: xs,y :: ys=>by
    have ih:=bl_tri xs ys
    unfold Op.bytesLess
    by_cases h1:x < y
    · have h2:¬ y < x:=fun h=>absurd (UInt8.lt_trans h1 h) (UInt8.lt_irrefl _)
      have h3:(y==x)=false:=by
        rw [beq_eq_false_iff_ne];rintro rfl;exact absurd h1 (UInt8.lt_irrefl _)
      simp [h1,h2,h3]
    · by_cases h2:y < x
      · have h3:(x==y)=false:=by
          rw [beq_eq_false_iff_ne];rintro rfl;exact absurd h2 (UInt8.lt_irrefl _)
        have h4:(x :: xs==y :: ys)=false:=by
          rw [beq_eq_false_iff_ne];intro e;cases e;exact absurd h2 (UInt8.lt_irrefl _)
        simp [h1,h2,h3,h4]
      · have:x=y:=UInt8.le_antisymm (UInt8.not_lt.1 h2) (UInt8.not_lt.1 h1)
        subst this
        have h4:(x :: xs==x :: ys)=(xs==ys):=by simp
        rw [h4]
        simp [h1,ih]
theorem leN {a b:ByteArray} {c:Bool} (h:(!ltS b a)=c) (w:World):(binOp .leq 9 (.string a) (.string b)).run Tryz.prog w=.ok (.bool c) w:=by
  rw [← h]
  have e:(binOp .leq 9 (.string a) (.string b)).run Tryz.prog w=.ok (.bool (Op.bytesLess a.toList b.toList||a.toList==b.toList)) w:=by kernel_rfl
  rw [e,bl_tri];rfl
theorem qeS {a b:Sp} {c:Bool} (h:eqS a b=c) (w:World):(binOp .eql 35 (.agg a.cells) (.agg b.cells)).run Tryz.prog w=.ok (.bool c) w:=by rw [eqS_eql,h]
theorem qnS {a b:Sp} {c:Bool} (h:eqS a b=c) (w:World):(binOp .neq 35 (.agg a.cells) (.agg b.cells)).run Tryz.prog w=.ok (.bool (!c)) w:=by rw [eqS_neq,h]
theorem qn1S {a b:Sp} (h:eqS a b=true) (w:World):(binOp .neq 35 (.agg a.cells) (.agg b.cells)).run Tryz.prog w=.ok (.bool false) w:=qnS h w
theorem qeC {a b:Cm} {c:Bool} (h:eqC a b=c) (w:World):(binOp .eql 45 (.agg a.cells) (.agg b.cells)).run Tryz.prog w=.ok (.bool c) w:=by rw [eqC_eql,h]
theorem qnE {a b:En} {c:Bool} (h:eqE a b=c) (w:World):(binOp .neq 106 (.agg a.cells) (.agg b.cells)).run Tryz.prog w=.ok (.bool (!c)) w:=by rw [eqE_neq,h]
theorem qn1E {a b:En} (h:eqE a b=true) (w:World):(binOp .neq 106 (.agg a.cells) (.agg b.cells)).run Tryz.prog w=.ok (.bool false) w:=qnE h w
theorem qnL {a b:La} {c:Bool} (h:eqL a b=c) (w:World):(binOp .neq 108 (.agg a.cells) (.agg b.cells)).run Tryz.prog w=.ok (.bool (!c)) w:=by rw [eqL_neq,h]
theorem qn1L {a b:La} (h:eqL a b=true) (w:World):(binOp .neq 108 (.agg a.cells) (.agg b.cells)).run Tryz.prog w=.ok (.bool false) w:=qnL h w
theorem qeFi {a b:Fi} {c:Bool} (h:eqFi a b=c) (w:World):(binOp .eql 43 (.agg a.cells) (.agg b.cells)).run Tryz.prog w=.ok (.bool c) w:=by rw [eqFi_eql,h]
theorem qn1B {a b:Bool} (h:(a==b)=true) (w:World):(binOp .neq 4 (.bool a) (.bool b)).run Tryz.prog w=.ok (.bool false) w:=by rw [b_neqB,h];rfl
theorem qn0U {a b:Int} (h:(a==b)=false) (w:World):(binOp .neq 5 (.int .u8 a) (.int .u8 b)).run Tryz.prog w=.ok (.bool true) w:=nU (by rw [bne,h];rfl) w
theorem qn1U {a b:Int} (h:(a==b)=true) (w:World):(binOp .neq 5 (.int .u8 a) (.int .u8 b)).run Tryz.prog w=.ok (.bool false) w:=nU (by rw [bne,h];rfl) w
theorem leN0 {a b:ByteArray} (h:ltS b a=false) (w:World):(binOp .leq 9 (.string a) (.string b)).run Tryz.prog w=.ok (.bool true) w:=leN (by rw [h];rfl) w
theorem leN1 {a b:ByteArray} (h:ltS b a=true) (w:World):(binOp .leq 9 (.string a) (.string b)).run Tryz.prog w=.ok (.bool false) w:=leN (by rw [h];rfl) w
structure RdI (w:World) (s:Sl) (zs:List Int):Prop where
  row:Nums .i64 w s.a zs
  len:zs.length=s.l
theorem RdI.no {w w':World} {s:Sl} {zs:List Int} (h:RdI w s zs) (hk:Kept No w w'):RdI w' s zs:=⟨h.row.no hk,h.len⟩
theorem RdI.at {w:World} {s:Sl} {zs:List Int} (h:RdI w s zs) {i:Nat} (hi:i < s.l):∃ b off,s.v=.slice (some ⟨b,off,none⟩) s.l s.k∧w.cell? ⟨b,off+i*1,none⟩=some (.int .i64 (zs[i]?.getD 0)):=by
  obtain ⟨b,off,ha,hc⟩:=h.row i (by rw [h.len];exact hi)
  exact ⟨b,off,by unfold Sl.v;rw [ha],by rw [Nat.mul_one];exact hc⟩
theorem RdB.at {w:World} {s:Sl} {bs:List Int} (h:RdB w s bs) {i:Nat} (hi:i < s.l):∃ b off,s.v=.slice (some ⟨b,off,none⟩) s.l s.k∧w.cell? ⟨b,off+i*1,none⟩=some (.int .u8 (bs[i]?.getD 0)):=by
  obtain ⟨b,off,ha,hc⟩:=h.row i (by rw [h.len];exact hi)
  exact ⟨b,off,by unfold Sl.v;rw [ha],by rw [Nat.mul_one];exact hc⟩
theorem RdE.at' {w:World} {s:Sl} {es:List En} (h:RdE w s es) {i:Nat} (hi:i < s.l):∃ b off,s.v=.slice (some ⟨b,off,none⟩) s.l s.k∧∀ (j:Nat) v,(eAt es i).cs[j]?=some v→w.cell? ⟨b,off+i*4+j,none⟩=some v:=by
  obtain ⟨b,off,ha,hc⟩:=Es.at h.row (i:=i) (by rw [h.len];exact hi)
  exact ⟨b,off,by unfold Sl.v;rw [ha],hc⟩
theorem RdL.at' {w:World} {s:Sl} {es:List La} (h:RdL w s es) {i:Nat} (hi:i < s.l):∃ b off,s.v=.slice (some ⟨b,off,none⟩) s.l s.k∧∀ (j:Nat) v,(lAt es i).cs[j]?=some v→w.cell? ⟨b,off+i*7+j,none⟩=some v:=by
  obtain ⟨b,off,ha,hc⟩:=Ls.at h.row (i:=i) (by rw [h.len];exact hi)
  exact ⟨b,off,by unfold Sl.v;rw [ha],hc⟩
theorem RdC.at' {w:World} {s:Sl} {es:List Cm} (h:RdC w s es) {i:Nat} (hi:i < s.l):∃ b off,s.v=.slice (some ⟨b,off,none⟩) s.l s.k∧∀ (j:Nat) v,(cAt es i).cs[j]?=some v→w.cell? ⟨b,off+i*9+j,none⟩=some v:=by
  obtain ⟨b,off,ha,hc⟩:=Cs.at h.row (i:=i) (by rw [h.len];exact hi)
  exact ⟨b,off,by unfold Sl.v;rw [ha],hc⟩
theorem bsq:(∀ b,(true&&b)=b)∧(∀ b,(false&&b)=false)∧(∀ b,(b&&true)=b)∧(∀ b,(b&&false)=false)∧(∀ b,(true||b)=true)∧(∀ b,(false||b)=b)∧(∀ b,(b||true)=true)∧(∀ b,(b||false)=b)∧(!true)=false∧(!false)=true∧(∀ a b:Bool,cond true a b=a)∧(∀ a b:Bool,cond false a b=b):=by
  refine ⟨fun b=>rfl,fun b=>rfl,?_,?_,fun b=>rfl,fun b=>rfl,?_,?_,rfl,rfl,fun a b=>rfl,fun a b=>rfl⟩ <;> intro b <;> cases b <;> rfl
theorem Z54:(Tryz.prog.info? 54).bind (·.zero)=some (.agg (Bv.cells bvZ)):=by kernel_rfl
theorem Z45:(Tryz.prog.info? 45).bind (·.zero)=some (.agg (Cm.cells cZ)):=by kernel_rfl
theorem Z106:(Tryz.prog.info? 106).bind (·.zero)=some (.agg (En.cells enZ)):=by kernel_rfl
theorem Z108:(Tryz.prog.info? 108).bind (·.zero)=some (.agg (La.cells laZ)):=by kernel_rfl
theorem Z37:(Tryz.prog.info? 37).bind (·.zero)=some (.agg (Bl.cells blZ)):=by kernel_rfl
theorem S9:(Tryz.prog.info? 9).map (·.size)=some 1:=by kernel_rfl
def wn (n lo hi:Int):Bool:=decide (lo≤n)&&decide (n≤hi)
def oneS (s:Sp):Bool:=wn s.n 1 1099511627776&&wn s.c 1 255
def abvS (a b:Sp):Bool:=decide (b.n < a.n)||(a.n==b.n&&decide (b.c < a.c))
def filB (f:Fi):Bool:=wn f.c 1 255&&wn f.o 1 1099511627776
def szB (B n:Int):Bool:=wn n 0 (1048576 * B)
def idxB (nm:ByteArray) (c:UInt8):Int:=Lib.indexByte nm.data.toList c
def nameP (nm:ByteArray):Bool:=wn ((nm.size:Nat):Int) 1 255&&(decide (idxB nm 0 < 0)&&decide (idxB nm 47 < 0))
def badAt (nm:ByteArray) (i:Nat):Bool:=(((nm[i]?.getD 1).toNat:Int)==0)||(((nm[i]?.getD 1).toNat:Int)==47)
def nameR (nm:ByteArray):Bool:=!(decide (((nm.size:Nat):Int) < 1)||decide (255 < ((nm.size:Nat):Int)))&&(List.range nm.size).all (fun i=>!badAt nm i)
def empK (b:Bv):Bool:=b.up==0&&(((b.e.l:Nat):Int)==0&&((b.l.l:Nat):Int)==0)
def chgP (B:Int) (x:Cm):Bool:=nameP x.nm&&(filB ⟨x.f0,x.f1⟩&&szB B x.sz)
def cmdP (B:Int) (x:Cm):Bool:=
  bif !wn x.cl 1 255||!wn x.op 1 1099511627776 then false else
  bif x.k==1||(x.k==2||x.k==3) then eqC x ⟨x.k,x.cl,x.op,x.nm,0,0,0,0,0⟩&&nameP x.nm else
  bif x.k==4 then eqC x ⟨x.k,x.cl,x.op,⟨#[]⟩,0,0,0,0,0⟩ else
  bif x.k==5||x.k==6 then eqFi ⟨x.g0,x.g1⟩ fiZ&&chgP B x else
  bif x.k==7 then filB ⟨x.g0,x.g1⟩&&chgP B x else false
def cmdR (B:Int) (x:Cm):Bool:=
  bif !wn x.k 1 7||(!wn x.cl 1 255||!wn x.op 1 1099511627776) then false else
  bif (x.k==4&&!eqN x.nm ⟨#[]⟩)||(!(x.k==4)&&!nameR x.nm) then false else
  bif decide (x.k < 5) then eqFi ⟨x.f0,x.f1⟩ fiZ&&(eqFi ⟨x.g0,x.g1⟩ fiZ&&x.sz==0) else
  bif (x.k==7&&!filB ⟨x.g0,x.g1⟩)||(!(x.k==7)&&!eqFi ⟨x.g0,x.g1⟩ fiZ) then false else
  filB ⟨x.f0,x.f1⟩&&szB B x.sz
def ansP (B:Int) (l:La):Bool:=
  bif l.er==0||(l.er==101||l.er==104) then filB ⟨l.f0,l.f1⟩&&szB B l.sz else
  bif l.er==102||l.er==103 then eqFi ⟨l.f0,l.f1⟩ fiZ&&l.sz==0 else false
def allZ (bs:List Int):Bool:=bs.all (fun z=>z==0)
def blkB (B:Int) (x:Bl) (bs:List Int):Bool:=((x.d.l:Nat):Int)==B&&(oneS x.s||(eqS x.s spZ&&allZ bs))
def heldP (B:Int) (p a:Sp) (x:Cm):Bool:=bif eqS a spZ then eqC x cZ else oneS a&&(!abvS a p&&cmdP B x)
def hasB (zs:List Int) (n:Int):Bool:=zs.contains n
set_option maxRecDepth 100000
set_option maxHeartbeats 4000000
theorem p_within (n lo hi:Int) (w:World):Calls Tryz.prog 92 #[.int .i64 n,.int .i64 lo,.int .i64 hi] w (fun e w'=>e=.returned (.bool (wn n lo hi))∧Kept No w w'):=by
  refine hidC fun C HC=>?_;have HF:Hid (Fq No w w []):=Fq.start _ _;go_enter Tryz.func92,Tryz.ntmps92;go_upto_region 0 with fail;refine Sg<|tF<|Nl ?_;simp only[pS];go_upto_region 1 with fail;refine Sg<|tK (.int .i64 lo)<|tK (.int .i64 n)<|?_;simp only[pS];cases q1:(decide (lo≤n))
  ·refine bN (leI q1)<|tF<|sK<|sK<|sK<|tF<|tF<|Nl ?_;simp only[pS];go_wp2;exact lf C HC HF (by simp only[*,wn,bsq])
  refine bN (leI q1)<|tU<|tK (.int .i64 n)<|tK (.int .i64 hi)<|?_;simp only[pS];cases q2:(decide (n≤hi))
  ·refine bN (leI q2)<|tF<|tF<|Nl ?_;simp only[pS];go_wp2;exact lf C HC HF (by simp only[*,wn,bsq])
  refine bN (leI q2)<|tU<|tU<|Nl ?_;simp only[pS];go_wp2;exact lf C HC HF (by simp only[*,wn,bsq])
theorem p_rightId (n:Int) (w:World):Calls Tryz.prog 117 #[.int .i64 n] w (fun e w'=>e=.returned (.bool (wn n 1 255))∧Kept No w w'):=by
  refine hidC fun C HC=>?_;have HF:Hid (Fq No w w []):=Fq.start _ _;go_enter Tryz.func117,Tryz.ntmps117;go_upto_region 0 with fail;refine Sg<|tF<|Nl ?_;simp only[pS];go_upto_region 1 with fail;refine Sg<|tK (.int .i64 n)<|?_;simp only[pS];cases q1:(wn n 1 255)
  ·refine cB (p_within n 1 255 _) q1 HF fun w1 HF=>tF<|Nl ?_;simp only[pS];go_wp2;rw [HC.out];exact ⟨ret_bool (q1.symm),HF.out.kept⟩
  refine cB (p_within n 1 255 _) q1 HF fun w2 HF=>tU<|Nl ?_;simp only[pS];go_wp2;rw [HC.out];exact ⟨ret_bool (q1.symm),HF.out.kept⟩
theorem p_rightNum (n:Int) (w:World):Calls Tryz.prog 118 #[.int .i64 n] w (fun e w'=>e=.returned (.bool (wn n 1 1099511627776))∧Kept No w w'):=by
  refine hidC fun C HC=>?_;have HF:Hid (Fq No w w []):=Fq.start _ _;go_enter Tryz.func118,Tryz.ntmps118;go_upto_region 0 with fail;refine Sg<|tF<|Nl ?_;simp only[pS];go_upto_region 1 with fail;refine Sg<|tK (.int .i64 n)<|?_;simp only[pS];cases q1:(wn n 1 1099511627776)
  ·refine cB (p_within n 1 1099511627776 _) q1 HF fun w1 HF=>tF<|Nl ?_;simp only[pS];go_wp2;rw [HC.out];exact ⟨ret_bool (q1.symm),HF.out.kept⟩
  refine cB (p_within n 1 1099511627776 _) q1 HF fun w2 HF=>tU<|Nl ?_;simp only[pS];go_wp2;rw [HC.out];exact ⟨ret_bool (q1.symm),HF.out.kept⟩
theorem p_isOne (x:Sp) (w:World):Calls Tryz.prog 73 #[.agg (Sp.cells x)] w (fun e w'=>e=.returned (.bool (oneS x))∧Kept No w w'):=by
  refine hidC fun C HC=>?_;have HF:Hid (Fq No w w []):=Fq.start _ _;go_enter Tryz.func73,Tryz.ntmps73;go_upto_region 0 with fail;refine Sg<|xB (Sp.cells x) HF fun g1 w2 HF=>tF<|Nl ?_;simp only[pS];go_upto_region 1 with fail;refine Sg<|tK (pg g1 0)<|lD (.int .i64 x.n) HF 0 0 U3 rfl<|?_;simp only[pS];cases q1:(wn x.n 1 1099511627776)
  ·refine cB (p_rightNum x.n _) q1 HF fun w3 HF=>tF<|sK<|sK<|sK<|tF<|tF<|Nl ?_;simp only[pS];go_wp2;exact lf C HC HF (by simp only[*,oneS,bsq])
  refine cB (p_rightNum x.n _) q1 HF fun w4 HF=>tU<|tK (pg g1 1)<|lD (.int .i64 x.c) HF 0 1 U3 rfl<|?_;simp only[pS];cases q2:(wn x.c 1 255)
  ·refine cB (p_rightId x.c _) q2 HF fun w5 HF=>tF<|tF<|Nl ?_;simp only[pS];go_wp2;exact lf C HC HF (by simp only[*,oneS,bsq])
  refine cB (p_rightId x.c _) q2 HF fun w6 HF=>tU<|tU<|Nl ?_;simp only[pS];go_wp2;exact lf C HC HF (by simp only[*,oneS,bsq])
theorem p_isNone (x:Sp) (w:World):Calls Tryz.prog 74 #[.agg (Sp.cells x)] w (fun e w'=>e=.returned (.bool (eqS x spZ))∧Kept No w w'):=by
  refine hidC fun C HC=>?_;have HF:Hid (Fq No w w []):=Fq.start _ _;go_enter Tryz.func74,Tryz.ntmps74;go_upto_region 0 with fail;refine Sg<|xB (Sp.cells x) HF fun g1 w2 HF=>tF<|Nl ?_;simp only[pS];go_upto_region 1 with fail;refine Sg<|lP (Sp.cs x) HF 0 0 U35 S35 (Sp.cs x) rfl<|bD (Sp.cells spZ)<|?_;simp only[pS];cases q1:(eqS x spZ)
  ·refine bN (qeS q1)<|tF<|Nl ?_;simp only[pS];go_wp2;rw [HC.out];exact ⟨ret_bool (q1.symm),HF.out.kept⟩
  refine bN (qeS q1)<|tU<|Nl ?_;simp only[pS];go_wp2;rw [HC.out];exact ⟨ret_bool (q1.symm),HF.out.kept⟩
theorem p_isFile (x:Fi) (w:World):Calls Tryz.prog 121 #[.agg (Fi.cells x)] w (fun e w'=>e=.returned (.bool (filB x))∧Kept No w w'):=by
  refine hidC fun C HC=>?_;have HF:Hid (Fq No w w []):=Fq.start _ _;go_enter Tryz.func121,Tryz.ntmps121;go_upto_region 0 with fail;refine Sg<|xB (Fi.cells x) HF fun g1 w2 HF=>tF<|Nl ?_;simp only[pS];go_upto_region 1 with fail;refine Sg<|tK (pg g1 0)<|lD (.int .i64 x.c) HF 0 0 U3 rfl<|?_;simp only[pS];cases q1:(wn x.c 1 255)
  ·refine cB (p_rightId x.c _) q1 HF fun w3 HF=>tF<|sK<|sK<|sK<|tF<|tF<|Nl ?_;simp only[pS];go_wp2;exact lf C HC HF (by simp only[*,filB,bsq])
  refine cB (p_rightId x.c _) q1 HF fun w4 HF=>tU<|tK (pg g1 1)<|lD (.int .i64 x.o) HF 0 1 U3 rfl<|?_;simp only[pS];cases q2:(wn x.o 1 1099511627776)
  ·refine cB (p_rightNum x.o _) q2 HF fun w5 HF=>tF<|tF<|Nl ?_;simp only[pS];go_wp2;exact lf C HC HF (by simp only[*,filB,bsq])
  refine cB (p_rightNum x.o _) q2 HF fun w6 HF=>tU<|tU<|Nl ?_;simp only[pS];go_wp2;exact lf C HC HF (by simp only[*,filB,bsq])
theorem p_emptyBucket (x:Bv) (w:World):Calls Tryz.prog 91 #[.agg (Bv.cells x)] w (fun e w'=>e=.returned (.bool (empK x))∧Kept No w w'):=by
  refine hidC fun C HC=>?_;have HF:Hid (Fq No w w []):=Fq.start _ _;go_enter Tryz.func91,Tryz.ntmps91;go_upto_region 0 with fail;refine Sg<|xB (Bv.cells x) HF fun g1 w2 HF=>tF<|Nl ?_;simp only[pS];go_upto_region 1 with fail;refine Sg<|tK (pg g1 0)<|lD (.int .i64 x.up) HF 0 0 U3 rfl<|?_;simp only[pS];cases q1:(x.up==0)
  ·refine bN (eI q1)<|tF<|sK<|sK<|sK<|sK<|tF<|tF<|sK<|sK<|sK<|sK<|tF<|tF<|Nl ?_;simp only[pS];go_wp2;exact lf C HC HF (by simp only[*,empK,bsq])
  refine bN (eI q1)<|tU<|tK (pg g1 1)<|lD (x.e.v) HF 0 1 U51 rfl<|tK (.int .i64 ((x.e.l:Nat):Int))<|?_;simp only[pS];cases q2:(((x.e.l:Nat):Int)==0)
  ·refine bN (eI q2)<|tF<|tF<|sK<|sK<|sK<|sK<|tF<|tF<|Nl ?_;simp only[pS];go_wp2;exact lf C HC HF (by simp only[*,empK,bsq])
  refine bN (eI q2)<|tU<|tU<|tK (pg g1 2)<|lD (x.l.v) HF 0 2 U52 rfl<|tK (.int .i64 ((x.l.l:Nat):Int))<|?_;simp only[pS];cases q3:(((x.l.l:Nat):Int)==0)
  ·refine bN (eI q3)<|tF<|tF<|Nl ?_;simp only[pS];go_wp2;exact lf C HC HF (by simp only[*,empK,bsq])
  refine bN (eI q3)<|tU<|tU<|Nl ?_;simp only[pS];go_wp2;exact lf C HC HF (by simp only[*,empK,bsq])
theorem p_above (a b:Sp) (w:World):Calls Tryz.prog 135 #[.agg (Sp.cells a),.agg (Sp.cells b)] w (fun e w'=>e=.returned (.bool (abvS a b))∧Kept No w w'):=by
  refine hidC fun C HC=>?_;have HF:Hid (Fq No w w []):=Fq.start _ _;go_enter Tryz.func135,Tryz.ntmps135;go_upto_region 0 with fail;refine Sg<|xB (Sp.cells a) HF fun g1 w2 HF=>xB (Sp.cells b) HF fun g3 w4 HF=>tF<|Nl ?_;simp only[pS];go_upto_region 1 with fail;refine Sg<|tK (pg g1 0)<|lD (.int .i64 a.n) HF 0 0 U3 rfl<|tK (pg g3 0)<|lD (.int .i64 b.n) HF 1 0 U3 rfl<|?_;simp only[pS];cases q1:(decide (b.n < a.n));rotate_left
  ·refine bN (gI q1)<|tU<|sK<|sK<|sK<|sK<|sK<|sK<|sK<|sK<|sK<|sK<|sK<|sK<|tU<|tU<|Nl ?_;simp only[pS];go_wp2;exact lf C HC HF (by simp only[*,abvS,bsq])
  refine bN (gI q1)<|tF<|tK (pg g1 0)<|lD (.int .i64 a.n) HF 0 0 U3 rfl<|tK (pg g3 0)<|lD (.int .i64 b.n) HF 1 0 U3 rfl<|?_;simp only[pS];cases q2:(a.n==b.n)
  ·refine bN (eI q2)<|tF<|sK<|sK<|sK<|sK<|sK<|tF<|tF<|tF<|Nl ?_;simp only[pS];go_wp2;exact lf C HC HF (by simp only[*,abvS,bsq])
  refine bN (eI q2)<|tU<|tK (pg g1 1)<|lD (.int .i64 a.c) HF 0 1 U3 rfl<|tK (pg g3 1)<|lD (.int .i64 b.c) HF 1 1 U3 rfl<|?_;simp only[pS];cases q3:(decide (b.c < a.c))
  ·refine bN (gI q3)<|tF<|tF<|tF<|Nl ?_;simp only[pS];go_wp2;exact lf C HC HF (by simp only[*,abvS,bsq])
  refine bN (gI q3)<|tU<|tU<|tU<|Nl ?_;simp only[pS];go_wp2;exact lf C HC HF (by simp only[*,abvS,bsq])
theorem p_rightSize (n:Int) (c:Cg) (w:World) (hb:0≤c.bl∧c.bl≤4096):Calls Tryz.prog 136 #[.int .i64 n,.agg (Cg.cells c)] w (fun e w'=>e=.returned (.bool (szB c.bl n))∧Kept No w w'):=by
  refine hidC fun C HC=>?_;have HB:Hid (0≤c.bl∧c.bl≤4096):=hb;clear hb;have HF:Hid (Fq No w w []):=Fq.start _ _;go_enter Tryz.func136,Tryz.ntmps136;go_upto_region 0 with fail;refine Sg<|xB (Cg.cells c) HF fun g1 w2 HF=>tF<|Nl ?_;simp only[pS];go_upto_region 1 with fail;refine Sg<|tK (.int .i64 n)<|tK (pg g1 4)<|lD (.int .i64 c.bl) HF 0 4 U3 rfl<|bN (v:=.int .i64 (1048576*c.bl)) (b_mulw 1048576 c.bl (1048576*c.bl) (by rw [IntKind.wrap_i64];have:=HB.out;omega))<|?_;simp only[pS];cases q1:(wn n 0 (1048576*c.bl))
  ·refine cB (p_within n 0 (1048576*c.bl) _) q1 HF fun w3 HF=>tF<|Nl ?_;simp only[pS];go_wp2;exact lf C HC HF (by simp only[*,szB,bsq])
  refine cB (p_within n 0 (1048576*c.bl) _) q1 HF fun w4 HF=>tU<|Nl ?_;simp only[pS];go_wp2;exact lf C HC HF (by simp only[*,szB,bsq])
theorem p_indexS (s:ByteArray) (c:Nat) (hc:c < 256) (w:World):Calls Tryz.prog 183 #[.string s,.int .u8 (c:Int)] w (fun e w'=>e=.returned (.int .i64 (Lib.indexByte s.data.toList (c:Int).toNat.toUInt8))∧Kept No w w'):=by
  go_enter Tryz.func183,Tryz.ntmps183
  go_wp2
  rw [run_callFunc_extern (fn:=Tryz.f212) (by kernel_rfl) (by kernel_rfl) (by kernel_rfl) (by kernel_rfl) (e:=Extern.BytealgIndexByte.indexByte) (by kernel_rfl),Lib.run_indexByteString]
  simp only[Result.andThen]
  rw [Oper.upon_value]
  go_wp2
  go_ret
  exact ⟨rfl,Kept.refl No w⟩
theorem p_indexT (s:ByteArray) (c:Nat) (hc:c < 256) (w:World):Calls Tryz.prog 157 #[.string s,.int .u8 (c:Int)] w (fun e w'=>e=.returned (.int .i64 (Lib.indexByte s.data.toList (c:Int).toNat.toUInt8))∧Kept No w w'):=by
  have H:=p_indexS s c hc
  go_enter Tryz.func157,Tryz.ntmps157
  go_wp2_with (go_at_call 183;refine (H _).mono ?_;rintro e w' ⟨rfl,hk⟩)
  go_ret
  exact ⟨rfl,hk⟩
theorem p_indexB (s:ByteArray) (c:Nat) (w:World) (hc:c < 256:=by decide):Calls Tryz.prog 157 #[.string s,.int .u8 (c:Int)] w (fun e w'=>e=.returned (.int .i64 (idxB s c.toUInt8))∧Kept No w w'):=p_indexT s c hc w
end Go.Proofs.YtgdnofacgfjaeabGreat.Md
