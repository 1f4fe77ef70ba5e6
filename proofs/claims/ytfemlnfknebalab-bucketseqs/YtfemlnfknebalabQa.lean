import Derived.Test.YtfemlnfknebalabUa
import Derived.Test.YtfemlnfknebalabSb
import Derived.Test.YtfemlnfknebalabTe
import Derived.Test.YtfemlnfknebalabXa
import Derived.RangeFuncNested
import Derived.RangeFuncBound
import Derived.RangeFuncCalls
import Derived.RangeFuncLeaves
import Derived.RangeFuncBox
import Derived.Shelf.Abstract
import Derived.Sort.QuietTacIn
import Derived.Shelf.RegionOpen
import Derived.OwnWalkIn
import Derived.TacticsInMore
import Derived.LoopNIn
import Derived.LoopN
import Derived.LoopIn
import Derived.Sort.CutIn
import Derived.Deep.CutBlock
import Derived.Sort.QuietLawsIn
namespace Go.Proofs.Ytfemlnfknebalab
open Go.RowKit Go.Shelf
set_option linter.unusedVariables false
set_option linter.unusedSimpArgs false

attribute [local go_sem] Oper.semAt_some
structure WI (F : Fence) (n : Nat) (ops : Array Oper) (Q : Exit → Act → World → Prop) (l : List Oper) (a : Act) (w : World) : Prop where
  out : wpListIn F n Try.prog ops Q l a w
section
variable {F : Fence} {n : Nat} {ops : Array Oper} {rest : List Oper} {o : Oper} {a : Act} {w w' : World} {Q : Exit → Act → World → Prop}
theorem WI.nil (h : Q .normal a w) : WI F n ops Q [] a w := ⟨wpListIn_nil h⟩
theorem WI.start {id : Nat} {l : List Oper} (h : WI F n l.toArray Q l a w) : (Code.region id l.toArray false).wpIn F n Try.prog Q a w := wpIn_region_lit h.out
theorem wi_run (v : Value) (w' : World) (hrun : (execOp a.eval o).run Try.prog w = .ok (.value v) w') (hw : Region.wanted o (yielded ops a.tmps) = true) (h : WI F n ops Q rest (a.put o.dst v) w')
    (hd : ∀ c, o.op ≠ .defer c := by intro c h; cases h) (hb : o.about Try.prog w a.eval = none := by kernel_rfl) : WI F n ops Q (o :: rest) a w := by
  refine ⟨wpListIn_step fun K hK => ?_⟩
  rw [if_pos hw]
  refine ⟨fun f e => by rw [hb] at e; (cases e), ?_⟩
  rw [Oper.semAt_eq _ _ _ hd, hrun]
  exact hK _ _ h.out
theorem iW (v : Value) (hrun : (execOp a.eval o).run Try.prog w = .ok (.value v) w) (h : WI F n ops Q rest (a.put o.dst v) w) (hw : Region.wanted o (yielded ops a.tmps) = true := by kernel_rfl)
    (hd : ∀ c, o.op ≠ .defer c := by intro c h; cases h) (hb : o.about Try.prog w a.eval = none := by kernel_rfl) : WI F n ops Q (o :: rest) a w := wi_run v w hrun hw h hd hb
theorem iK (v : Value) (h : WI F n ops Q rest (a.put o.dst v) w) (hrun : (execOp a.eval o).run Try.prog w = .ok (.value v) w := by kernel_rfl) (hw : Region.wanted o (yielded ops a.tmps) = true := by kernel_rfl)
    (hd : ∀ c, o.op ≠ .defer c := by intro c h; cases h) (hb : o.about Try.prog w a.eval = none := by kernel_rfl) : WI F n ops Q (o :: rest) a w := wi_run v w hrun hw h hd hb
theorem iZ (h : WI F n ops Q rest (a.put o.dst undef) w) (hw : Region.wanted o (yielded ops a.tmps) = false := by kernel_rfl) (hb : o.about Try.prog w a.eval = none := by kernel_rfl) : WI F n ops Q (o :: rest) a w := ⟨wpListIn_skip hw hb h.out⟩
theorem wi_store (t : TypeId) (x y : Operand) (ho : o.op = .store t x y) (ad : Addr) (v : Value) (hx : a.eval x = .pointer (some ad)) (hy : a.eval y = v) (w' : World) (hrun : (storeVar t ad v).run Try.prog w = .ok () w') (hw : Region.wanted o (yielded ops a.tmps) = true) (h : WI F n ops Q rest (a.put o.dst undef) w')
    (hb : o.about Try.prog w a.eval = none := by kernel_rfl) : WI F n ops Q (o :: rest) a w := by
  refine ⟨wpListIn_step fun K hK => ?_⟩
  rw [if_pos hw]
  refine ⟨fun f e => by rw [hb] at e; (cases e), ?_⟩
  rw [Oper.semAt_eq _ _ _ (fun c e => by rw [ho] at e; cases e), exec_store t x y ho ad v hx hy hrun]
  exact hK _ _ h.out
end
theorem alloc_set (w : World) (cs cs' : Array Value) (t : TypeId) : (w.alloc (.cells cs t)).setRow w.heap.size cs' = w.alloc (.cells cs' t) := by
  unfold World.setRow World.alloc
  congr 1
  apply Array.ext
  · simp
  · intro k h1 h2
    simp only [Array.getElem_modify, Array.getElem_push]
    simp at h1
    by_cases hk : k < w.heap.size
    · simp [hk, show ¬ w.heap.size = k by omega]
    · have : w.heap.size = k := by omega
      simp [this]
theorem keepsRow {W : World} {g : Nat} {t : TypeId} {cs : Array Value} (h : Box W g t cs) (cs' : Array Value) : KeepsOthers W (W.setRow g cs') :=
  ⟨by simp [World.setRow], fun k o hk hc => by
    rw [setRow_other W g k cs' (fun e => by subst e; unfold Box at h; rw [h] at hk; cases hk; cases hc)]; exact hk⟩
theorem part_of {cs sub : List Value} {off : Nat} (h : (cs.drop off).take sub.length = sub) : Part cs off sub := fun j v hj => by
  have hlt := (List.getElem?_eq_some_iff.1 hj).1
  rw [← h, List.getElem?_take_of_lt hlt, List.getElem?_drop] at hj
  exact hj
theorem run_store_to {w : World} {g off : Nat} {T ty : TypeId} {cur vs new : List Value} {v : Value} (hb : Box w g T cur.toArray) (hv : v.cells = vs.toArray) (hi : (Try.prog.info? ty).map (·.size) = some vs.length)
    (hl : off + vs.length ≤ cur.length) (h1 : ∀ x ∈ vs, x.oneCell' = true) (hn : putL cur off vs = new) : (storeVar ty ⟨g, off, none⟩ v).run Try.prog w = .ok () (w.setRow g new.toArray) := by
  rw [run_store_at hb hv hi hl h1, hn]
theorem exec_box1 {o : Oper} {a : Act} {w : World} (t : TypeId) (x : Operand) (ho : o.op = .box t x) (v : Value) (hx : a.eval x = v) (hv : v.cells = #[v]) : (execOp a.eval o).run Try.prog w = .ok (.value (.pointer (some ⟨w.heap.size, 0, none⟩))) (w.alloc (.cells #[v] t)) := by
  simp only [execOp, ho, hx, Instr.box, Sem.run_bind, Result.andThen_ok, newVar, newRow, run_newObj_alloc, Sem.run_pure, hv]
def noDefer (l : List Oper) : Bool := l.all fun o => match o.op with | .defer _ => false | _ => true
theorem noDefer_at {l : List Oper} (h : noDefer l = true) {i : Nat} {o : Oper} (ho : l.toArray[i]? = some o) (c : Call) : o.op ≠ .defer c := by
  intro e
  have hm : o ∈ l := List.mem_of_getElem? (by simpa using ho)
  have := List.all_eq_true.1 h o hm
  rw [e] at this
  cases this

/-- An operation that does not defer is run in a round as elsewhere. -/
theorem oper_round {F : Fence} {n : Nat} {P : Program} {l : Nat} {o : Oper} {a : Act} {w : World} {K K' : Act → World → Prop} {Q : Exit → Act → World → Prop} (hro : F.round = none) (hd : ∀ c, o.op ≠ .defer c)
    (h : ∀ a w, K a w → K' a w) (hh : o.wpIn F n P a w K Q) : o.wpIn (F.inRound l) n P a w K' Q := by
  have hh := Oper.wpIn_mono h hh
  unfold Oper.wpIn at *
  refine ⟨hh.1, ?_⟩
  have hh := hh.2
  rw [hro, Oper.semAt_none] at hh
  rw [Fence.inRound_round, Oper.semAt_some _ _ _ hd]
  generalize (execOp a.eval o).run P w = r at *
  cases r with
  | ok x w' => cases x <;> simp only [Oper.uponIn] at hh ⊢ <;> exact hh
  | halt x w' => cases x <;> simp only [Oper.uponIn] at hh ⊢ <;> exact hh

theorem any_round {F : Fence} {n : Nat} {P : Program} {l : Nat} {md : Region.Mode} {ol : List Oper} {Q : Exit → Act → World → Prop} (hro : F.round = none) (hnd : noDefer ol = true) : ∀ (fuel : Nat) (listed : Array Bool) (a : Act) (w : World),
    wpAnyIn F n P md ol.toArray Q fuel listed a w → wpAnyIn (F.inRound l) n P md ol.toArray Q fuel listed a w
  | 0, _, _, _, h => h
  | fuel + 1, listed, a, w, h => by
    refine ⟨h.1, fun i hi => ?_⟩
    have h2 := h.2 i hi
    unfold wpOpIn at h2 ⊢
    split
    · rename_i ho; simp only [ho] at h2; exact any_round hro hnd fuel _ _ _ h2
    · rename_i o ho
      simp only [ho] at h2
      split
      · rename_i hw; simp only [hw, if_true] at h2; exact oper_round hro (noDefer_at hnd ho) (fun a w => any_round hro hnd fuel _ a w) h2
      · rename_i hw; simp only [hw] at h2; exact ⟨h2.1, any_round hro hnd fuel _ _ _ h2.2⟩

/-- A region that draws its order and only reads, in a round. -/
theorem region_round {F : Fence} {n : Nat} {P : Program} {id l : Nat} {Q : Exit → Act → World → Prop} {a : Act} {w : World} {ol : List Oper} (hro : F.round = none) (hm : P.follows .mixedOrders = true) (hB : Region.lexB .any ol.toArray = true) (hnd : noDefer ol = true)
    (h : wpQuietIn F n P ol.toArray (fun w' => ∃ n, w' = w.drewN n) (fun a' => ∀ w', (∃ n, w' = w.drewN n) → Q .normal a' w') ol a) : (Code.region id ol.toArray true).wpIn (F.inRound l) n P Q a w := by
  simp only [Region.lexB, Bool.and_eq_true] at hB
  refine wpIn_region_any hm (any_round hro hnd _ _ _ _ (wpAnyIn_of_quiet (C := fun w' => ∃ n, w' = w.drewN n) (Q := fun a' => ∀ w', (∃ n, w' = w.drewN n) → Q .normal a' w') hro (fun _ w' hw' h => h w' hw') _ _ _ _ ⟨1, rfl⟩ ?_))
  have := wpAnyQIn_lex (F := F) (n := n) (C := fun w' => ∃ n, w' = w.drewN n) (md := .any) hB.1 ol.toArray.toList 0 (Array.replicate ol.toArray.size false) a (by simp) (by simpa using hB.2) (by simpa using h)
  simpa using this

def DefAt (W : World) (D : Nat) : Prop := W.heap[D]? = some (.deferred (some []))
theorem DefAt.kept {S : Nat → Prop} {W W' : World} {D : Nat} (h : DefAt W D) (hk : Kept S W W') (hS : ¬ S D) : DefAt W' D := (hk.block D (Array.getElem?_eq_some_iff.1 h).1 hS).trans h
theorem DefAt.no {W W' : World} {D : Nat} (h : DefAt W D) (hk : Kept No W W') : DefAt W' D := h.kept hk (fun e => e)
theorem DefAt.ne {W : World} {D g : Nat} {T : TypeId} {cs : Array Value} (h : DefAt W D) (hb : Box W g T cs) : D ≠ g := fun e => by
  subst e
  unfold DefAt at h
  unfold Box at hb
  rw [h] at hb; cases hb
theorem Try.und56f : Try.prog.underlying 56 = some (.func #[75] #[] false) := by kernel_rfl
theorem Try.size56f : (Try.prog.info? 56).map (·.size) = some 1 := by kernel_rfl
theorem zero56f : (Try.prog.info? 56).bind (·.zero) = some .nilFunc := by kernel_rfl
theorem zero4 : (Try.prog.info? 4).bind (·.zero) = some (.bool false) := by kernel_rfl
theorem zero3 : (Try.prog.info? 3).bind (·.zero) = some (.int .i64 0) := by kernel_rfl
section
variable {F : Fence} {n : Nat} {ops : Array Oper} {C : World → Prop} {Q : Act → Prop} {o : Oper} {rest : List Oper} {a : Act}
theorem qT (v : Value) (hrun : ∀ w', C w' → (execOp a.eval o).run Try.prog w' = .ok (.value v) w') (h : wpQuietIn F n Try.prog ops C Q rest (a.put o.dst v)) (hw : Region.wanted o (yielded ops a.tmps) = true := by kernel_rfl) (hb : ∀ w, o.about Try.prog w a.eval = none := by intro _; kernel_rfl) : wpQuietIn F n Try.prog ops C Q (o :: rest) a :=
  wpQuietIn_step (fun w _ f e => by rw [hb w] at e; cases e) (fun K hK => by rw [if_pos hw]; exact ⟨v, fun w' hw' => by unfold Oper.quietAtIn; rw [hrun w' hw']; exact ⟨rfl, rfl⟩, hK _ h⟩)
theorem qK (v : Value) (h : wpQuietIn F n Try.prog ops C Q rest (a.put o.dst v)) (hrun : ∀ w', (execOp a.eval o).run Try.prog w' = .ok (.value v) w' := by intro _; kernel_rfl) (hw : Region.wanted o (yielded ops a.tmps) = true := by kernel_rfl) (hb : ∀ w, o.about Try.prog w a.eval = none := by intro _; kernel_rfl) : wpQuietIn F n Try.prog ops C Q (o :: rest) a :=
  qT v (fun w' _ => hrun w') h hw hb
theorem qS (h : wpQuietIn F n Try.prog ops C Q rest (a.put o.dst undef)) (hw : Region.wanted o (yielded ops a.tmps) = false := by kernel_rfl) (hb : ∀ w, o.about Try.prog w a.eval = none := by intro _; kernel_rfl) : wpQuietIn F n Try.prog ops C Q (o :: rest) a :=
  wpQuietIn_step (fun w _ f e => by rw [hb w] at e; cases e) (fun K hK => by rw [if_neg (by rw [hw]; exact Bool.false_ne_true)]; exact hK _ h)
end
section
variable {F : Fence} {n : Nat} {P : Program}
theorem rf_BN {α : Type} {g : Operand} {ps : Array Tmp} {assign body : Code} {Q : Exit → Act → World → Prop} {a : Act} {w : World}
    {l₀ : Nat} {r₀ : Loop} (hro : F.round = some l₀) (hl₀ : w.heap[l₀]? = some (.loop r₀)) (h1 : 1 ≤ n) {gf : Nat} {lb : Array Value} (hg : a.eval g = .func (.func gf) #[] lb) (hFg : F.fn gf) (eg : ∀ args w, (callFunc gf args).run P w = .ok (.enter gf args) w)
    {encs : α → Array Value} {Kp : World → World → Prop} {S Sp : List α → Prop} {N : Nat} {w0 : World} (hseq : SeqStopsK F (n - 1) P gf lb encs Kp S Sp N w0)
    (hKt : ∀ {A B C : World}, Kp A B → Kp B C → Kp A C) (hKb : ∀ (W : World) (l : Nat) (o o' : Obj), w.heap.size ≤ l → W.heap[l]? = some o → o.isCells = false → o.isWalk = false → Kp W (W.putObj l o')) (hb0 : Below w0.heap.size w0 w) (hps : ∀ x, (encs x).size = ps.size)
    (I : List α → World → Prop) (Ix : Code → List α → World → Prop) (hI : OwnFrom w.heap.size I) (hIx : ∀ c, OwnFrom w.heap.size (Ix c)) (h0 : I [] w) (hKa : ∀ W o, Kp W (W.alloc o)) (T : TypeId) (cs : α → Array Value) (a₁ : α → Nat → Act)
    (hassign : ∀ (l : Nat) (x : α) (W : World) (K : Act → World → Prop) (vb : Nat), vb = W.heap.size → K (a₁ x vb) (W.alloc (.cells (cs x) T)) →
      assign.wpIn (F.inRound l) (n - 1 - 1) P (Exit.then K (fun _ _ _ => False)) { tmps := (ps.zip (encs x)).foldl (fun t (p, v) => t.setIfInBounds p v) a.tmps, defers := [] } W)
    (hbody : ∀ (l : Nat) (pre : List α) (x : α) (vb : Nat) (W : World), w.heap.size ≤ l → (∃ r, W.heap[l]? = some (.loop r)) → I pre W → Box W vb T (cs x) → pre.length < N → body.wpIn (F.inRound l) (n - 1 - 1) P (ownPostG w.heap.size Kp I Ix (pre ++ [x]) W) (a₁ x vb) W)
    (hdone : ∀ (xs : List α) (W : World), S xs → I xs W → Q .normal a W)
    (hstop : ∀ (c : Code) (pre : List α) (W : World), Sp pre → Ix c pre W → c.wpIn F n P Q a W) :
    (Code.rangeFunc g ps assign body).wpIn F n P Q a w :=
  wpIn_rangeFunc_ownN hro hl₀ h1 hg hFg eg hseq (fun h k => hKt h k) hKb hb0 hps I Ix hI hIx h0 (fun x a' W => ∃ vb, a' = a₁ x vb ∧ Box W vb T (cs x))
    (fun x a' _ A B row hs hg hr => by
      obtain ⟨vb, h1, h2⟩ := hs
      exact ⟨vb, h1, box_cells h2 hg (fun r e => by obtain ⟨_, o, h, h'⟩ := hr r e; exact ⟨o, h, h'⟩)⟩)
    (fun l pre x W K hi hK => hassign l x W K _ rfl (hK _ _ ((KeepsOthers.alloc W _).from _) (hKa W _) (hI.alloc _ hi) ⟨_, rfl, Box.new _ _ _⟩)) (fun l pre x a' W h1 h2 hi e => by obtain ⟨vb, e, hb⟩ := e; subst e; exact hbody l pre x vb W h1 h2 hi hb) hdone hstop
end
/-- All that stands while the turns go. -/
structure Sq (w : World) (l : List (Nat × TypeId × Array Value)) (lb : Nat) (sa : Option Addr) (sc : Nat) (ma : Option Addr) (mc : Nat) (ns : List En) (ds : List Nat) (W : World) : Prop where
  fr : Fr No w W l
  sq : SeqAt W lb sa sc ns
  wt : OwE W w.heap.size ⟨ma, ns.length, mc⟩ ns
  df : ∀ D ∈ ds, DefAt W D
theorem Fr.grown {w0 W W' : World} {l : List (Nat × TypeId × Array Value)} {row : Option Nat} (h : Fr No w0 W l) (hg : W.grownBy W' row) {B : Nat} (hr : ∀ r, row = some r → B ≤ r ∧ ∃ o : Obj, W.heap[r]? = some o ∧ o.isCells = false) (hB : w0.heap.size ≤ B) : Fr No w0 W' l :=
  ⟨h.kept.grown hg (fun k e hk => by have := (hr k e).1; omega), fun i g T cs hi => box_cells (h.box i g T cs hi) hg (fun r e => by obtain ⟨_, o, h1, h2⟩ := hr r e; exact ⟨o, h1, h2⟩), h.low, h.inj⟩
theorem Sq.grown {w : World} {l : List (Nat × TypeId × Array Value)} {lb : Nat} {sa : Option Addr} {sc : Nat} {ma : Option Addr} {mc : Nat} {ns : List En} {ds : List Nat} {W W' : World} {row : Option Nat} (h : Sq w l lb sa sc ma mc ns ds W) (hg : W.grownBy W' row) {B : Nat} (hr : ∀ r, row = some r → B ≤ r ∧ ∃ o : Obj, W.heap[r]? = some o ∧ o.isCells = false) (hB : w.heap.size ≤ B) (hD : ∀ D ∈ ds, D < B) : Sq w l lb sa sc ma mc ns ds W' := by
  have hr' : ∀ r, row = some r → ∃ o : Obj, W.heap[r]? = some o ∧ o.isCells = false := fun r e => by obtain ⟨_, o, h1, h2⟩ := hr r e; exact ⟨o, h1, h2⟩
  refine ⟨h.fr.grown hg hr hB, ⟨box_cells h.sq.box hg hr', own_cells h.sq.row hg hr'⟩, ⟨own_cells h.wt.own hg hr', h.wt.len⟩, fun D hD' => ?_⟩
  have hk : Kept (fun k => row = some k) W W' := (Kept.refl _ W).grown hg (fun k e _ => e)
  exact (h.df D hD').kept hk (fun e => by have h1 := (hr D e).1; have h2 := hD D hD'; omega)
theorem Sq.own {w : World} {β : Type} {l : β → List (Nat × TypeId × Array Value)} {lb : Nat} {sa : Option Addr} {sc : Nat} {ma : Option Addr} {mc : Nat} {ns : List En} {ds : List Nat} {B : Nat} (hB : w.heap.size ≤ B) (hD : ∀ D ∈ ds, D < B) : OwnFrom B (fun s W => Sq w (l s) lb sa sc ma mc ns ds W) :=
  fun s W W' row h hg hr => h.grown hg hr hB hD
theorem Sq.no {w : World} {l : List (Nat × TypeId × Array Value)} {lb : Nat} {sa : Option Addr} {sc : Nat} {ma : Option Addr} {mc : Nat} {ns : List En} {ds : List Nat} {W W' : World} (h : Sq w l lb sa sc ma mc ns ds W) (hk : Kept No W W') : Sq w l lb sa sc ma mc ns ds W' :=
  ⟨h.fr.no hk, h.sq.kept hk (fun _ _ e => e), h.wt.no hk, fun D hD => (h.df D hD).no hk⟩
theorem Sq.alloc {w : World} {l : List (Nat × TypeId × Array Value)} {lb : Nat} {sa : Option Addr} {sc : Nat} {ma : Option Addr} {mc : Nat} {ns : List En} {ds : List Nat} {W : World} (h : Sq w l lb sa sc ma mc ns ds W) (T : TypeId) (cs : Array Value) : Sq w (l ++ [(W.heap.size, T, cs)]) lb sa sc ma mc ns ds (W.alloc (.cells cs T)) := by
  have h2 := h.no ((Kept.refl No W).alloc (.cells cs T))
  exact ⟨h.fr.alloc T cs, h2.sq, h2.wt, h2.df⟩
theorem Sq.set {w : World} {l : List (Nat × TypeId × Array Value)} {lb : Nat} {sa : Option Addr} {sc : Nat} {ma : Option Addr} {mc : Nat} {ns : List En} {ds : List Nat} {W : World} (h : Sq w l lb sa sc ma mc ns ds W) (i : Nat) {g : Nat} {T : TypeId} {cs : Array Value} (hi : l[i]? = some (g, T, cs)) (hT : T = 3 ∨ T = 4) (cs' : Array Value) : Sq w (l.set i (g, T, cs')) lb sa sc ma mc ns ds (W.setRow g cs') ∧ Kept (NB lb sa) W (W.setRow g cs') := by
  have hb := h.fr.box i g T cs hi
  have n1 : lb ≠ g := box_ne h.sq.box hb (by rcases hT with e | e <;> rw [e] <;> decide)
  have n2 : ¬ At sa g := h.sq.row.notBox hb (by rcases hT with e | e <;> rw [e] <;> decide)
  have n3 : ¬ At ma g := h.wt.own.notBox hb (by rcases hT with e | e <;> rw [e] <;> decide)
  have hk := Kept.setRow W g cs'
  have hnb : ∀ k, SB lb sa k → ¬ Only g k := fun k e f => by
    have f : k = g := f
    subst f
    rcases e with e | e
    · exact n1 e.symm
    · exact n2 e
  exact ⟨⟨h.fr.set i hi cs', h.sq.kept hk hnb, h.wt.kept hk (fun k e f => by have f : k = g := f; subst f; exact n3 e), fun D hD => (h.df D hD).kept hk (fun e => (h.df D hD).ne hb e)⟩, hk.mono (fun k _ e f => hnb k f e)⟩
theorem Sq.front {w : World} {l m : List (Nat × TypeId × Array Value)} {lb : Nat} {sa : Option Addr} {sc : Nat} {ma : Option Addr} {mc : Nat} {ns : List En} {ds : List Nat} {W : World} (h : Sq w (l ++ m) lb sa sc ma mc ns ds W) : Sq w l lb sa sc ma mc ns ds W := ⟨h.fr.front, h.sq, h.wt, h.df⟩
def CutD (a : Act) (J : Nat → World → Prop) : Exit → Act → World → Prop := fun e a' W => e = .normal ∧ ∃ D, a' = { a with defers := { target := .collected D, args := #[] } :: a.defers } ∧ J D W
theorem cut_defer {c : Code} {K : Exit → Act → World → Prop} {a : Act} {w : World} (J : Nat → World → Prop) (h1 : c.wp Try.prog (CutD a J) a w) (h2 : ∀ D W, J D W → K .normal { a with defers := { target := .collected D, args := #[] } :: a.defers } W) : c.wp Try.prog K a w :=
  Code.wp_mono (fun e a' W ⟨e1, D, e2, hj⟩ => by subst e1; subst e2; exact h2 D W hj) h1
theorem flat_set (c : Nat) (xs : List (List Value)) (hc : ∀ x ∈ xs, x.length = c) (sp : List Value) (i : Nat) (y : List Value) (hy : y.length = c) (hi : i < xs.length) : putL (xs.flatten ++ sp) (i * c) y = (xs.set i y).flatten ++ sp := by
  have h : xs = xs.take i ++ ([xs[i]] ++ xs.drop (i + 1)) := by simp
  have h2 : xs.set i y = xs.take i ++ ([y] ++ xs.drop (i + 1)) := by rw [List.set_eq_take_append_cons_drop]; simp [hi]
  have hl : (xs.take i).flatten.length = i * c := by
    rw [flat_len c _ (fun x hx => hc x (List.mem_of_mem_take hx)), List.length_take]; congr 1; omega
  have hxi : (xs[i]).length = c := hc _ (List.getElem_mem hi)
  have h3 : xs.flatten = (xs.take i).flatten ++ (xs[i] ++ (xs.drop (i + 1)).flatten) := by
    have e := congrArg List.flatten h
    rw [List.flatten_append, List.flatten_append, List.flatten_cons, List.flatten_nil, List.append_nil] at e
    exact e
  rw [h2, h3]
  simp only [List.flatten_append, List.flatten_cons, List.flatten_nil, List.append_nil, List.append_assoc]
  unfold putL
  rw [← hl, List.take_left', ← List.drop_drop, List.drop_left', hy, ← hxi, List.drop_left']
  all_goals rfl
theorem Own.setN {T ty : TypeId} {c : Nat} {W : World} {base : Nat} {a : Option Addr} {cap n : Nat} {xs : List (List Value)} (h : Own T c W base a cap n xs.flatten) (hc : ∀ x ∈ xs, x.length = c) (hl : xs.length = n) {i g : Nat} (hi : i < n) (ha : a = some ⟨g, 0, none⟩) {v : Value} {y : List Value} (hv : v.cells = y.toArray) (hz : (Try.prog.info? ty).map (·.size) = some y.length) (h1 : ∀ x ∈ y, x.oneCell' = true) (hy : y.length = c) :
    ∃ cs', (storeVar ty ⟨g, 0 + i * c, none⟩ v).run Try.prog W = .ok () (W.setRow g cs') ∧ Own T c (W.setRow g cs') base a cap n (xs.set i y).flatten := by
  rcases h.2 with ⟨hv2, hn⟩ | ⟨g', cap', cur, hv2, hb, hg, hle, hm, hs, ht⟩
  · omega
  · simp only [Value.slice.injEq] at hv2
    obtain ⟨ea, -, rfl⟩ := hv2
    rw [ea] at ha
    cases ha
    obtain ⟨cur, rfl⟩ : ∃ l : List Value, cur = l.toArray := ⟨cur.toList, by simp⟩
    have hbox : Box W g T cur.toArray := hg
    have hs : cur.length = cap * c := by simpa using hs
    have ht : cur.take (n * c) = xs.flatten := by simpa using ht
    have hnc : n * c ≤ cap * c := Nat.mul_le_mul_right _ hle
    have hic : i * c + c ≤ n * c := by rw [← Nat.succ_mul]; exact Nat.mul_le_mul_right _ hi
    have hcur : cur = xs.flatten ++ cur.drop (n * c) := by rw [← ht, List.take_append_drop]
    have hfl : xs.flatten.length = n * c := by rw [flat_len c xs hc, hl]
    refine ⟨(putL cur (0 + i * c) y).toArray, run_store_at hbox hv hz (by rw [hy, Nat.zero_add, hs]; omega) h1, ?_⟩
    rw [Nat.zero_add, ea]
    have hp : putL cur (i * c) y = (xs.set i y).flatten ++ cur.drop (n * c) := by
      conv => lhs; rw [hcur]
      exact flat_set c xs hc _ i y hy (by omega)
    rw [hp]
    have hsl : ((xs.set i y).flatten).length = n * c := by
      rw [flat_len c _ (fun x hx => by rcases List.mem_or_eq_of_mem_set hx with hx | hx; exact hc x hx; rw [hx]; exact hy), List.length_set, hl]
    exact Own.shut hb (Box.setRow hbox _) hle (by unfold maxLen at hm; omega) (by rw [List.length_append, hsl, List.length_drop, hs]; omega) (by rw [← hsl]; exact List.take_left' rfl)
theorem OwE.set {W : World} {base : Nat} {s : Sl} {cur : List En} (h : OwE W base s cur) {i g : Nat} (hi : i < s.l) (ha : s.a = some ⟨g, 0, none⟩) (y : En) : ∃ cs', (storeVar 34 ⟨g, 0 + i * 4, none⟩ (.agg (En.cells y))).run Try.prog W = .ok () (W.setRow g cs') ∧ OwE (W.setRow g cs') base s (cur.set i y) := by
  obtain ⟨cs', h1, h2⟩ := Own.setN (ty := 34) (y := y.cs) h.own (enL_c cur) (by rw [List.length_map, h.len]) hi ha (v := .agg y.cells) rfl Try.size54 y.oneL rfl
  exact ⟨cs', h1, ⟨by rw [← List.map_set] at h2; exact h2, by rw [List.length_set]; exact h.len⟩⟩
theorem Own.some {t : TypeId} {c : Nat} {w : World} {base : Nat} {a : Option Addr} {cap n : Nat} {vs : List Value} (h : Own t c w base a cap n vs) (h0 : 0 < n) : ∃ g, a = some ⟨g, 0, none⟩ := by
  obtain ⟨g, _, e, _⟩ := h.op h0
  exact ⟨g, e⟩
theorem Own.le {t : TypeId} {c : Nat} {w : World} {base : Nat} {a : Option Addr} {cap n : Nat} {vs : List Value} (h : Own t c w base a cap n vs) : n ≤ cap := by
  by_cases h0 : 0 < n
  · obtain ⟨_, _, _, _, _, hl, _⟩ := h.op h0
    exact hl
  · omega
theorem qk {W w' : World} (h : ∃ n, w' = W.drewN n) : Kept No W w' := by
  obtain ⟨n, rfl⟩ := h
  exact Kept.no_drewN W n
theorem keepsN (W : World) (n : Nat) : KeepsOthers W (W.drewN n) := ⟨Nat.le_refl _, fun _ _ h _ => h⟩
theorem DefAt.lt {W : World} {D : Nat} (h : DefAt W D) : D < W.heap.size := (Array.getElem?_eq_some_iff.1 h).1
theorem Fr.lent {S : Nat → Prop} {w0 w w' : World} {l : List (Nat × TypeId × Array Value)} (h : Fr No w0 w l) (hk : Kept S w w') (hlow : ∀ k, S k → w0.heap.size ≤ k) (hne : ∀ x ∈ l, ¬ S x.1) : Fr No w0 w' l :=
  ⟨h.kept.trans hk (fun _ e => e) (fun i hi e => absurd (hlow i e) (by omega)), fun i g T cs hi => (h.box i g T cs hi).kept hk (hne _ (List.mem_of_getElem? hi)), h.low, h.inj⟩
theorem names_len (es : List En) (n : ByteArray) : (namesS es n).length ≤ es.length := by
  unfold namesS
  have h1 := (List.takeWhile_sublist (l := es.drop (eIx es n)) (fun e : En => hasP e.nm n)).length_le
  have h2 := (List.drop_sublist (eIx es n) es).length_le
  omega
theorem SeqAt.no {W W' : World} {lb cap : Nat} {a : Option Addr} {ps : List En} (h : SeqAt W lb a cap ps) (hk : Kept No W W') : SeqAt W' lb a cap ps := h.kept hk (fun _ _ e => e)
theorem b_addw (x y z : Int) (h : IntKind.i64.wrap (x + y) = z) (w : World) : (binOp .add 3 (.int .i64 x) (.int .i64 y)).run Try.prog w = .ok (.int .i64 z) w := by rw [← h]; kernel_rfl
theorem b_subw (x y z : Int) (h : IntKind.i64.wrap (x - y) = z) (w : World) : (binOp .sub 3 (.int .i64 x) (.int .i64 y)).run Try.prog w = .ok (.int .i64 z) w := by rw [← h]; kernel_rfl
theorem results_one {fn : Func} {p : Tmp} {t : TypeId} {v : Value} (h : fn.results = #[.cell p t]) (tmps : Array Value) (w : World) (g : Nat) (hp : tmps.getD p undef = .pointer (some ⟨g, 0, none⟩)) (hrun : (loadVar t ⟨g, 0, none⟩).run Try.prog w = .ok v w) : (results fn tmps).run Try.prog w = .ok v w := by
  have hp' : tmps[p]?.getD undef = .pointer (some ⟨g, 0, none⟩) := by simpa using hp
  simp [results, h, hp', asAddr, hrun]
theorem Sq.take {w : World} {l : List (Nat × TypeId × Array Value)} {lb : Nat} {sa : Option Addr} {sc : Nat} {ma : Option Addr} {mc : Nat} {ns : List En} {ds : List Nat} {D : Nat} {W : World} (h : Sq w l lb sa sc ma mc ns (D :: ds) W) (hD : w.heap.size ≤ D) (hn : D ∉ ds) : Sq w l lb sa sc ma mc ns ds (W.putObj D (.deferred none)) := by
  have hg := grownBy_putObj' W D (.deferred none)
  have hd := h.df D (by simp)
  have hr' : ∀ r, some D = some r → ∃ o : Obj, W.heap[r]? = some o ∧ o.isCells = false := fun r e => by cases e; exact ⟨_, hd, rfl⟩
  refine ⟨h.fr.grown hg (B := D) (fun r e => by cases e; exact ⟨Nat.le_refl _, _, hd, rfl⟩) hD, ⟨box_cells h.sq.box hg hr', own_cells h.sq.row hg hr'⟩, ⟨own_cells h.wt.own hg hr', h.wt.len⟩, fun D2 hD2 => ?_⟩
  have hk : Kept (fun k => some D = some k) W (W.putObj D (.deferred none)) := (Kept.refl _ W).grown hg (fun k e _ => e)
  exact (h.df D2 (List.mem_cons_of_mem _ hD2)).kept hk (fun e => by cases e; exact hn hD2)
theorem kf_mono {B B' : Nat} {W W' : World} (h : KeepsFrom B W W') (hB : B ≤ B') : KeepsFrom B' W W' := ⟨h.size, fun k o hk => h.same k o (Nat.le_trans hB hk)⟩
theorem pre_is {ns : List En} {pre : List En} {x : En} (h : pre ++ [x] <+: ns) : ns[pre.length]? = some x := by
  obtain ⟨t, rfl⟩ := h
  simp

end Go.Proofs.Ytfemlnfknebalab
