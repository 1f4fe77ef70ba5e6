import Derived.RangeFuncNested
import Derived.RangeFuncBound
import Derived.RangeFuncCalls
import Derived.RangeFuncLeaves
import Derived.RangeFuncBox
import Derived.Shelf.Abstract
import Derived.Sort.QuietTacIn
import Derived.Shelf.RegionOpen
import Derived.OwnWalkIn
import Derived.TacticsInMore
import Derived.LoopNIn
import Derived.LoopIn
import Derived.Sort.CutIn
import Derived.Test.YtcgnbpaaalmkoabJ
namespace Go.Proofs.Ytcgnbpaaalmkoab
open Go.RowKit Go.Shelf
set_option linter.unusedVariables false
set_option linter.unusedSimpArgs false

attribute [local go_sem] Oper.semAt_some
theorem box_cells {W W' : World} {row : Option Nat} {b t : Nat} {cs : Array Value} (hb : Box W b t cs) (hg : W.grownBy W' row) (hr : ∀ r, row = some r → ∃ o : Obj, W.heap[r]? = some o ∧ o.isCells = false) : Box W' b t cs :=
  (hg.block b hb.lt (fun e => by
    obtain ⟨o, ho', hc⟩ := hr b e.symm
    unfold Box at hb
    rw [hb] at ho'; cases ho'; cases hc)).trans hb



section
variable {F : Fence} {n : Nat} {P : Program}
/-- The library's law, with the frame behind the assignments as a function. -/
theorem rf_H {α : Type} {g : Operand} {ps : Array Tmp} {assign body : Code} {Q : Exit → Act → World → Prop} {a : Act} {w : World}
    (hro : F.round = none) (h1 : 1 ≤ n) {gf : Nat} {lb : Array Value} (hg : a.eval g = .func (.func gf) #[] lb) (hFg : F.fn gf) (eg : ∀ args w, (callFunc gf args).run P w = .ok (.enter gf args) w)
    {encs : α → Array Value} {Kp : World → World → Prop} {S Sp : List α → Prop} {N : Nat} {w0 : World} (hseq : SeqStopsK F (n - 1) P gf lb encs Kp S Sp N w0)
    (hKt : ∀ {A B C : World}, Kp A B → Kp B C → Kp A C) (hKb : ∀ (W : World) (l : Nat) (o o' : Obj), w.heap.size ≤ l → W.heap[l]? = some o → o.isCells = false → o.isWalk = false → Kp W (W.putObj l o')) (hb0 : Below w0.heap.size w0 w) (hps : ∀ x, (encs x).size = ps.size)
    (I : List α → World → Prop) (Ix : Code → List α → World → Prop) (hI : OwnFrom w.heap.size I) (hIx : ∀ c, OwnFrom w.heap.size (Ix c)) (h0 : I [] w) (hKr : ∀ W, Kp W W) (a₁ : α → Act)
    (hassign : ∀ (l : Nat) (x : α) (W : World) (K : Act → World → Prop), K (a₁ x) W →
      assign.wpIn (F.inRound l) (n - 1 - 1) P (Exit.then K (fun _ _ _ => False)) { tmps := (ps.zip (encs x)).foldl (fun t (p, v) => t.setIfInBounds p v) a.tmps, defers := [] } W)
    (hbody : ∀ (l : Nat) (pre : List α) (x : α) (W : World), w.heap.size ≤ l → (∃ r, W.heap[l]? = some (.loop r)) → I pre W → pre.length < N → body.wpIn (F.inRound l) (n - 1 - 1) P (ownPostG w.heap.size Kp I Ix (pre ++ [x]) W) (a₁ x) W)
    (hdone : ∀ (D : Nat) (xs : List α) (W : World), w.heap.size ≤ D → S xs → I xs W → W.heap[D]? = some (.deferred (some [])) → Q .normal { a with defers := { target := .collected D, args := #[] } :: a.defers } W)
    (hstop : ∀ (D : Nat) (c : Code) (pre : List α) (W : World), w.heap.size ≤ D → Sp pre → Ix c pre W → W.heap[D]? = some (.deferred (some [])) → c.wpIn F n P Q { a with defers := { target := .collected D, args := #[] } :: a.defers } W) :
    (Code.rangeFunc g ps assign body).wpIn F n P Q a w :=
  wpIn_rangeFunc_ownH hro h1 hg hFg eg hseq (fun h k => hKt h k) hKb hb0 hps I Ix hI hIx h0 (fun x a' _ => a' = a₁ x) (fun _ _ _ _ _ _ hs _ _ => hs)
    (fun l pre x W K hi hK => hassign l x W K (hK _ _ (KeepsFrom.refl _ _) (hKr W) hi rfl)) (fun l pre x a' W h1 h2 hi e => by subst e; exact hbody l pre x W h1 h2 hi) hdone hstop

/-- The same where the round's variable is laid down. -/
theorem rf_B {α : Type} {g : Operand} {ps : Array Tmp} {assign body : Code} {Q : Exit → Act → World → Prop} {a : Act} {w : World}
    (hro : F.round = none) (h1 : 1 ≤ n) {gf : Nat} {lb : Array Value} (hg : a.eval g = .func (.func gf) #[] lb) (hFg : F.fn gf) (eg : ∀ args w, (callFunc gf args).run P w = .ok (.enter gf args) w)
    {encs : α → Array Value} {Kp : World → World → Prop} {S Sp : List α → Prop} {N : Nat} {w0 : World} (hseq : SeqStopsK F (n - 1) P gf lb encs Kp S Sp N w0)
    (hKt : ∀ {A B C : World}, Kp A B → Kp B C → Kp A C) (hKb : ∀ (W : World) (l : Nat) (o o' : Obj), w.heap.size ≤ l → W.heap[l]? = some o → o.isCells = false → o.isWalk = false → Kp W (W.putObj l o')) (hb0 : Below w0.heap.size w0 w) (hps : ∀ x, (encs x).size = ps.size)
    (I : List α → World → Prop) (Ix : Code → List α → World → Prop) (hI : OwnFrom w.heap.size I) (hIx : ∀ c, OwnFrom w.heap.size (Ix c)) (h0 : I [] w) (hKa : ∀ W o, Kp W (W.alloc o)) (T : TypeId) (cs : α → Array Value) (a₁ : α → Nat → Act)
    (hassign : ∀ (l : Nat) (x : α) (W : World) (K : Act → World → Prop) (vb : Nat), vb = W.heap.size → K (a₁ x vb) (W.alloc (.cells (cs x) T)) →
      assign.wpIn (F.inRound l) (n - 1 - 1) P (Exit.then K (fun _ _ _ => False)) { tmps := (ps.zip (encs x)).foldl (fun t (p, v) => t.setIfInBounds p v) a.tmps, defers := [] } W)
    (hbody : ∀ (l : Nat) (pre : List α) (x : α) (vb : Nat) (W : World), w.heap.size ≤ l → (∃ r, W.heap[l]? = some (.loop r)) → I pre W → Box W vb T (cs x) → pre.length < N → body.wpIn (F.inRound l) (n - 1 - 1) P (ownPostG w.heap.size Kp I Ix (pre ++ [x]) W) (a₁ x vb) W)
    (hdone : ∀ (D : Nat) (xs : List α) (W : World), w.heap.size ≤ D → S xs → I xs W → W.heap[D]? = some (.deferred (some [])) → Q .normal { a with defers := { target := .collected D, args := #[] } :: a.defers } W)
    (hstop : ∀ (D : Nat) (c : Code) (pre : List α) (W : World), w.heap.size ≤ D → Sp pre → Ix c pre W → W.heap[D]? = some (.deferred (some [])) → c.wpIn F n P Q { a with defers := { target := .collected D, args := #[] } :: a.defers } W) :
    (Code.rangeFunc g ps assign body).wpIn F n P Q a w :=
  wpIn_rangeFunc_ownH hro h1 hg hFg eg hseq (fun h k => hKt h k) hKb hb0 hps I Ix hI hIx h0 (fun x a' W => ∃ vb, a' = a₁ x vb ∧ Box W vb T (cs x))
    (fun x a' _ A B row hs hg hr => by
      obtain ⟨vb, h1, h2⟩ := hs
      exact ⟨vb, h1, box_cells h2 hg (fun r e => by obtain ⟨_, o, h, h'⟩ := hr r e; exact ⟨o, h, h'⟩)⟩)
    (fun l pre x W K hi hK => hassign l x W K _ rfl (hK _ _ ((KeepsOthers.alloc W _).from _) (hKa W _) (hI.alloc _ hi) ⟨_, rfl, Box.new _ _ _⟩)) (fun l pre x a' W h1 h2 hi e => by obtain ⟨vb, e, hb⟩ := e; subst e; exact hbody l pre x vb W h1 h2 hi hb) hdone hstop


end

theorem below_keptN {w W : World} (h : Below w.heap.size w W) : Kept (fun k => w.heap.size ≤ k) w W := ⟨h.os, h.tape, h.output, h.size, fun k hk _ => h.block k hk⟩
abbrev Dm (ps : List Pl) := { x : Int × Cm // x ∈ decd ps }
theorem seq_mem (F : Fence) (n : Nat) (h37 : F.fn 43) (hro : F.round = none) (hn : 1 ≤ n) (lb m : Nat) (s : Sl) (ps : List Pl) (hm : m ≤ 10000000000000) (hl : s.l = m) (w : World) (hS : SeqD w lb s ps) :
    SeqStopsK F n Try.prog 43 #[.pointer (some ⟨lb, 0, none⟩)] (fun x : Dm ps => #[Value.int .i64 x.1.1, Value.agg (Cm.cells x.1.2)]) (Kept (NB lb s.a)) (fun ys => ys.map Subtype.val = decd ps) (fun pre => pre.map Subtype.val <+: decd ps) m w := fun l J Jx W hW hJ _ hY h0 => by
  show CallsIn F n Try.prog 43 #[.func (.yield l) #[] #[], .pointer (some ⟨lb, 0, none⟩)] W _
  refine (it_in F n h37 hro hn l lb m s ps hm hl (fun q W => ∃ pre : List (Dm ps), pre.map Subtype.val = q ∧ J pre W) (fun q W => ∃ pre : List (Dm ps), pre.map Subtype.val = q ∧ Jx pre W) W ?_ ?_ (hS.kept (below_keptN hW) (fun k hk e => by have := hS.slt hk; omega)) ⟨[], rfl, h0⟩).mono ?_
  · rintro q A B row ⟨pre, e, h⟩ hg hr
    exact ⟨pre, e, hJ pre A B row h hg hr⟩
  · rintro q x W1 hx ⟨pre, rfl, h⟩ hlen
    obtain ⟨fn, tmps, assign, body, h1, h2⟩ := hY pre ⟨x, hx⟩ W1 h (by simpa using hlen)
    refine ⟨fn, tmps, assign, body, h1, h2.mono ?_⟩
    rintro e W' (⟨h3, h4, h5⟩ | ⟨h3, h4⟩)
    · exact .inl ⟨h3, ⟨_, by simp, h4⟩, h5⟩
    · exact .inr ⟨h3, ⟨_, by simp, h4⟩⟩
  · rintro e W' ⟨h1, ⟨ys, h2, pre, h3, h4⟩ | ⟨q, h2, pre, h3, h4⟩⟩
    · exact ⟨h1, .inl ⟨pre, h3.trans h2, h4⟩⟩
    · exact ⟨h1, .inr ⟨pre, by show _ <+: _; rw [h3]; exact h2, h4⟩⟩
theorem nb_t {lb : Nat} {a : Option Addr} {A B C : World} (h : Kept (NB lb a) A B) (k : Kept (NB lb a) B C) : Kept (NB lb a) A C := h.then k
theorem nb_b {lb : Nat} {s : Sl} {w w0 : World} {ps : List Pl} (hS : SeqD w0 lb s ps) (hs : w0.heap.size ≤ w.heap.size) (W : World) (l : Nat) (o o' : Obj) (hl : w.heap.size ≤ l) (h : W.heap[l]? = some o) (_ : o.isCells = false) (_ : o.isWalk = false) : Kept (NB lb s.a) W (W.putObj l o') :=
  (Kept.refl _ W).grown (grownBy_putObj' W l o') (fun k e hk hb => by cases e; have := hS.slt hb; omega)

/-- Up to where nothing is lacking; the last one. -/
def chn (a : Int) : List (Int × Cm) → Option Int
  | [] => some a
  | x :: r => if x.1 = a + 1 then chn x.1 r else none
def edgeF (a : Int) : List (Int × Cm) → Int
  | [] => a
  | x :: r => if x.1 = a + 1 then edgeF x.1 r else a
theorem chn_snoc : ∀ (l : List (Int × Cm)) (a v : Int) (x : Int × Cm), chn a l = some v → x.1 = v + 1 → chn a (l ++ [x]) = some x.1
  | [], a, v, x, h, hx => by simp [chn] at h; subst h; simp [chn, hx]
  | y :: r, a, v, x, h, hx => by
    unfold chn at h
    split at h
    · rename_i e; simp only [List.cons_append, chn, e, if_true]; rw [← e]; exact chn_snoc r _ v x h hx
    · cases h
theorem chn_edge : ∀ (l : List (Int × Cm)) (a v : Int), chn a l = some v → edgeF a l = v
  | [], a, v, h => by simp [chn] at h; exact h
  | y :: r, a, v, h => by
    unfold chn at h
    split at h
    · rename_i e; simp only [edgeF, e, if_true]; rw [← e]; exact chn_edge r _ v h
    · cases h
theorem chn_stop : ∀ (l : List (Int × Cm)) (a v : Int) (x : Int × Cm) (t : List (Int × Cm)), chn a l = some v → ¬ x.1 = v + 1 → edgeF a (l ++ x :: t) = v
  | [], a, v, x, t, h, hx => by simp [chn] at h; subst h; simp [edgeF, hx]
  | y :: r, a, v, x, t, h, hx => by
    unfold chn at h
    split at h
    · rename_i e; simp only [List.cons_append, edgeF, e, if_true]; rw [← e]; exact chn_stop r _ v x t h hx
    · cases h
def topF (a : Int) (l : List (Int × Cm)) : Int := l.foldl (fun _ x => x.1) a
theorem topF_snoc (a : Int) (l : List (Int × Cm)) (x : Int × Cm) : topF a (l ++ [x]) = x.1 := by simp [topF]
def vals {ps : List Pl} (l : List (Dm ps)) : List (Int × Cm) := l.map Subtype.val
theorem vals_snoc {ps : List Pl} (l : List (Dm ps)) (x : Dm ps) : vals (l ++ [x]) = vals l ++ [x.1] := by simp [vals]
/-- Numbers that do not wrap. -/
def Rng (a : Int) (ps : List Pl) : Prop := (-4611686018427387904 ≤ a ∧ a ≤ 4611686018427387904) ∧ ∀ x ∈ decd ps, -4611686018427387904 ≤ x.1 ∧ x.1 ≤ 4611686018427387904
def DecOut (w : World) (s : Sl) (ps : List Pl) (e : Ending) (w' : World) : Prop := ∃ lb, e = .returned (.func (.func 43) #[] #[.pointer (some ⟨lb, 0, none⟩)]) ∧ SeqD w' lb s ps ∧ w.heap.size ≤ lb ∧ Kept No w w'
set_option maxRecDepth 100000 in
set_option maxHeartbeats 4000000 in
theorem decided_any (s : Sl) (ps : List Pl) (w : World) (hr : RdP w s ps) (hlt : ∀ k, At s.a k → k < w.heap.size) : Calls Try.prog 42 #[s.v] w (DecOut w s ps) := by
  obtain ⟨C, hC⟩ : ∃ C : Ending → World → Prop, C = (DecOut w s ps) := ⟨_, rfl⟩
  have HC : Hid (C = (DecOut w s ps)) := hC
  rw [← hC]
  clear hC
  have HR : Hid (RdP w s ps) := hr
  have HLt : Hid (∀ k, At s.a k → k < w.heap.size) := hlt
  clear hr hlt
  have HF : Hid (Fr No w w []) := Fr.start _ _
  go_enter Try.func42, Try.ntmps42
  go_upto_region 0 with fail
  refine WL.start ?_
  refine wp_runW (.pointer (some ⟨w.heap.size, 0, none⟩)) (w.alloc (.cells (#[s.v]) 47)) (exec_box1 47 _ rfl (s.v) (by kernel_rfl) (by kernel_rfl)) (by kernel_rfl) ?_
  try simp only [pS]
  have HF : Hid (Fr No w _ [(w.heap.size, 47, #[s.v])]) := HF.out.alloc _ _
  generalize w.alloc (.cells (#[s.v]) 47) = wk2 at HF ⊢
  generalize w.heap.size = gk1 at HF ⊢
  refine tK (.nilFunc) ?_
  try simp only [pS]
  refine WL.nil ?_
  try simp only [pS]
  go_upto_region 1 with fail
  refine WL.start ?_
  refine tK (.func (.func 43) #[] #[.pointer (some ⟨gk1, 0, none⟩)]) ?_
  refine tK (.func (.func 43) #[] #[.pointer (some ⟨gk1, 0, none⟩)]) ?_
  try simp only [pS]
  refine WL.nil ?_
  try simp only [pS]
  go_wp2
  rw [HC.out]
  exact ⟨_, rfl, ⟨HF.out.box 0 _ _ _ rfl, HR.out.no HF.out.kept, fun k e => Nat.lt_of_lt_of_le (HLt.out k e) HF.out.kept.size⟩, HF.out.low 0 _ _ _ rfl, HF.out.kept⟩
theorem chn_mem : ∀ (l : List (Int × Cm)) (a v : Int), chn a l = some v → v = a ∨ ∃ y ∈ l, v = y.1
  | [], a, v, h => by simp [chn] at h; exact .inl h.symm
  | y :: r, a, v, h => by
    unfold chn at h
    split at h
    · rcases chn_mem r _ v h with h1 | ⟨z, h1, h2⟩
      · exact .inr ⟨y, by simp, h1⟩
      · exact .inr ⟨z, by simp [h1], h2⟩
    · cases h
set_option maxRecDepth 100000 in
set_option maxHeartbeats 4000000 in
theorem edge_any (h : Hd) (ps : List Pl) (w : World) (hr : RdP w h.r ps) (hlt : ∀ k, At h.r.a k → k < w.heap.size) (hm : ps.length ≤ 10000000000000) (hg : Rng h.k.up ps) : Calls Try.prog 36 #[.agg (Hd.cells h)] w (fun e w' => e = .returned (.int .i64 (edgeF h.k.up (decd ps))) ∧ Kept No w w') := by
  obtain ⟨C, hC⟩ : ∃ C : Ending → World → Prop, C = (fun e w' => e = .returned (.int .i64 (edgeF h.k.up (decd ps))) ∧ Kept No w w') := ⟨_, rfl⟩
  have HC : Hid (C = (fun e w' => e = .returned (.int .i64 (edgeF h.k.up (decd ps))) ∧ Kept No w w')) := hC
  rw [← hC]
  clear hC
  have HR : Hid (RdP w h.r ps) := hr
  have HLt : Hid (∀ k, At h.r.a k → k < w.heap.size) := hlt
  have HG : Hid (Rng h.k.up ps) := hg
  have HM : Hid (h.r.l ≤ 10000000000000) := by show _ ≤ _; rw [← hr.len]; exact hm
  clear hr hlt hg hm
  have HF : Hid (Fr No w w []) := Fr.start _ _
  refine (callsIn_wide (n := 3)).1 ?_
  refine callsIn_of_wp_marks Try.func36 rfl trivial ?_ rfl
  refine wpIn_wide.2 ?_
  simp only [Try.ntmps36, List.size_toArray, List.length_cons, List.length_nil, Nat.reduceAdd, Nat.reduceSub, Array.replicate_succ, Array.replicate_zero, List.push_toArray, List.append_toArray, List.nil_append, List.cons_append]
  go_upto_region 0 with fail
  refine WL.start ?_
  refine wp_runW (.pointer (some ⟨w.heap.size, 0, none⟩)) (w.alloc (.cells (Hd.cells h) 49)) (exec_box 49 _ rfl (Hd.cells h) (by kernel_rfl)) (by kernel_rfl) ?_
  try simp only [pS]
  have HF : Hid (Fr No w _ [(w.heap.size, 49, Hd.cells h)]) := HF.out.alloc _ _
  generalize w.alloc (.cells (Hd.cells h) 49) = wk2 at HF ⊢
  generalize w.heap.size = gk1 at HF ⊢
  refine tK (.int .i64 0) ?_
  try simp only [pS]
  refine WL.nil ?_
  try simp only [pS]
  go_upto_region 1 with fail
  refine WL.start ?_
  refine tK (.pointer (some ⟨gk1, 3, none⟩)) ?_
  refine tK (.pointer (some ⟨gk1, 3, none⟩)) ?_
  refine tW (.int .i64 h.k.up) (eL 3 _ rfl ⟨gk1, 3, none⟩ (load_one ((HF.out.box 0 _ _ _ rfl).cell 3 |>.trans (by kernel_rfl)) Try.und3 rfl)) ?_
  try simp only [pS]
  refine wp_runW (.pointer (some ⟨wk2.heap.size, 0, none⟩)) (wk2.alloc (.cells (#[.int .i64 0]) 3)) (exec_alloc1 3 rfl (.int .i64 0) rfl zero3) (by kernel_rfl) ?_
  try simp only [pS]
  have HF : Hid (Fr No w _ [(gk1, 49, Hd.cells h), (wk2.heap.size, 3, #[.int .i64 0])]) := HF.out.alloc _ _
  generalize wk2.alloc (.cells (#[.int .i64 0]) 3) = wk4 at HF ⊢
  generalize wk2.heap.size = gk3 at HF ⊢
  refine wp_storeW 3 _ _ rfl ⟨gk3, 0, none⟩ (.int .i64 h.k.up) (by kernel_rfl) (by kernel_rfl) (wk4.setRow gk3 (#[.int .i64 h.k.up])) (run_store_to (cur := [.int .i64 0]) (vs := [.int .i64 h.k.up]) (new := [.int .i64 h.k.up]) (HF.out.box 1 _ _ _ rfl) (by kernel_rfl) Try.size3 (Nat.le_of_ble_eq_true (by kernel_rfl)) (by simp [Value.oneCell', Sl.v]) (by kernel_rfl)) (by kernel_rfl) ?_
  try simp only [pS]
  have HF : Hid (Fr No w _ [(gk1, 49, Hd.cells h), (gk3, 3, #[.int .i64 h.k.up])]) := HF.out.set 1 rfl _
  generalize wk4.setRow gk3 (#[.int .i64 h.k.up]) = wk5 at HF ⊢
  refine WL.nil ?_
  try simp only [pS]
  have HF2 : Hid (Fr No w (wk5) [(gk1, 49, Hd.cells h), (gk3, 3, #[.int .i64 h.k.up])]) := HF.out
  go_upto_region 2 with fail
  refine WL.start ?_
  refine tK (.pointer (some ⟨gk1, 6, none⟩)) ?_
  refine tW (h.r.v) (eL 47 _ rfl ⟨gk1, 6, none⟩ (load_one ((HF.out.box 0 _ _ _ rfl).cell 6 |>.trans (by kernel_rfl)) Try.und38 rfl)) ?_
  try simp only [pS]
  refine wp_callW 42 #[h.r.v] (by kernel_rfl) _ (decided_any h.r ps _ (HR.out.no HF.out.kept) (fun k e => Nat.lt_of_lt_of_le (HLt.out k e) HF.out.kept.size)) (by kernel_rfl) ?_
  rintro e wk6 ⟨lb, rfl, hsq, hlb, hk⟩
  have HF : Hid (Fr No w (wk6) [(gk1, 49, Hd.cells h), (gk3, 3, #[.int .i64 h.k.up])]) := HF.out.no hk
  have HSq : Hid (SeqD wk6 lb h.r ps) := hsq
  have HLb : Hid (wk5.heap.size ≤ lb) := hlb
  clear hsq hlb
  clear hk
  refine ⟨.func (.func 43) #[] #[.pointer (some ⟨lb, 0, none⟩)], rfl, ?_⟩
  try simp only [pS]
  refine WL.nil ?_
  try simp only [pS]
  have HBl : Hid (gk3 < lb) := Nat.lt_of_lt_of_le (HF2.out.box 1 _ _ _ rfl).lt HLb.out
  have HNA : Hid (¬ At h.r.a gk3) := fun e => by have h1 := HLt.out _ e; have h2 := HF.out.low 1 _ _ _ rfl; omega
  have HB5 : Hid (Box wk6 gk3 3 #[.int .i64 h.k.up]) := HF.out.box 1 _ _ _ rfl
  have HK5 : Hid (Kept No w wk6) := HF.out.kept
  have HBw : Hid (w.heap.size ≤ gk3) := HF.out.low 1 _ _ _ rfl
  clear HF HF2 HLb
  go_wp2
  refine (wpIn_wide (n := 3)).1 ?_
  refine' rf_H (F := Fence.wide) rfl (by omega) (gf := 43) (lb := #[.pointer (some ⟨lb, 0, none⟩)]) rfl trivial (enters_of Try.func43 (by kernel_rfl) rfl)
    (seq_mem Fence.wide (3 - 1) trivial rfl (by omega) lb h.r.l h.r ps HM.out rfl wk6 HSq.out) nb_t (nb_b HSq.out (Nat.le_refl _)) (Below.refl _ _) (fun _ => rfl)
    (fun pre W => ∃ v, chn h.k.up (vals pre) = some v ∧ Box W gk3 3 #[.int .i64 v] ∧ Kept No w W)
    (fun c pre W => c = .exit 0 ∧ ∃ v, (∀ t, edgeF h.k.up (vals pre ++ t) = v) ∧ Box W gk3 3 #[.int .i64 v] ∧ Kept No w W) ?own ?ownx ⟨h.k.up, rfl, HB5.out, HK5.out⟩ (fun W => Kept.refl _ W) _ ?assign ?body ?done ?stop
  case own =>
    rintro pre A' B' row ⟨v, h0, h1, h4⟩ hg hr
    have hr' : ∀ r, row = some r → ∃ o : Obj, A'.heap[r]? = some o ∧ o.isCells = false := fun r e => by obtain ⟨_, o, h, h'⟩ := hr r e; exact ⟨o, h, h'⟩
    exact ⟨v, h0, box_cells h1 hg hr', h4.grown hg (fun k e hk => by have := (hr k e).1; have := HK5.out.size; omega)⟩
  case ownx =>
    rintro c pre A' B' row ⟨hc, v, h0, h1, h4⟩ hg hr
    have hr' : ∀ r, row = some r → ∃ o : Obj, A'.heap[r]? = some o ∧ o.isCells = false := fun r e => by obtain ⟨_, o, h, h'⟩ := hr r e; exact ⟨o, h, h'⟩
    exact ⟨hc, v, h0, box_cells h1 hg hr', h4.grown hg (fun k e hk => by have := (hr k e).1; have := HK5.out.size; omega)⟩
  case assign =>
    intro l x W K hK
    gi_wp2
    exact hK
  
  case stop =>
    rintro D c pre W hD hpre ⟨rfl, v, hv, hb, hk⟩ hK
    obtain ⟨t, ht⟩ := hpre
    have hv : v = edgeF h.k.up (decd ps) := by rw [← ht]; exact (hv t).symm
    subst hv
    have e1 : W.cell? ⟨gk3, 0, none⟩ = some (.int .i64 (edgeF h.k.up (decd ps))) := hb.cell 0
    have HKW : Hid (Kept No w W) := hk
    have HD : Hid (W.heap[D]? = some (.deferred (some [])) ∧ wk6.heap.size ≤ D) := ⟨hK, hD⟩
    clear hb hk hK hD
    refine wpIn_wide.2 ?_
    go_wp2
    rw [HC.out]
    have hgr := grownBy_putObj' W D (.deferred none)
    have h5 := HK5.out.size
    have hDw := HD.out.2
    refine ⟨by simp, .inl ⟨_, _, rfl, run_takeDeferred HD.out.1, ?_⟩⟩
    refine ⟨.int .i64 (edgeF h.k.up (decd ps)), ?_, ?_⟩
    · exact results_tmp (fn := Try.f36) rfl _ _ _
    · exact ⟨rfl, HKW.out.grown hgr (fun k e hk => by cases e; omega)⟩
  
  case done =>
    rintro D ys W hD hys ⟨v, hv, hb, hk⟩ hK
    have hys : vals ys = decd ps := hys
    replace hv : v = edgeF h.k.up (decd ps) := by rw [← hys]; exact (chn_edge _ _ _ hv).symm
    subst hv
    have e1 : W.cell? ⟨gk3, 0, none⟩ = some (.int .i64 (edgeF h.k.up (decd ps))) := hb.cell 0
    have HKW : Hid (Kept No w W) := hk
    have HKd : True := trivial
    have HD : Hid (W.heap[D]? = some (.deferred (some [])) ∧ wk6.heap.size ≤ D) := ⟨hK, hD⟩
    clear hb hk hK hD
    go_wp2
    rw [HC.out]
    have hgr := grownBy_putObj' W D (.deferred none)
    have h5 := HK5.out.size
    have hDw := HD.out.2
    refine ⟨by simp, .inl ⟨_, _, rfl, run_takeDeferred HD.out.1, ?_⟩⟩
    refine ⟨.int .i64 (edgeF h.k.up (decd ps)), ?_, ?_⟩
    · exact results_tmp (fn := Try.f36) rfl _ _ _
    · exact ⟨rfl, HKW.out.grown hgr (fun k e hk => by cases e; omega)⟩
  case body =>
    rintro l pre ⟨⟨x1, x2⟩, hx⟩ W hl hlo ⟨v, hv, hb, hk⟩ hlen
    have HV : Hid (chn h.k.up (vals pre) = some v) := hv
    have HB : Hid (Box W gk3 3 #[.int .i64 v]) := hb
    have HKW : Hid (Kept No w W) := hk
    have e1 : W.cell? ⟨gk3, 0, none⟩ = some (.int .i64 v) := hb.cell 0
    have f1 : W.frozen? ⟨gk3, 0, none⟩ = false := hb.frozen 0
    clear hb hk hv
    have HKs : ∀ u, Kept (NB lb h.r.a) W (W.setCell ⟨gk3, 0, none⟩ u) := fun u => (Kept.refl _ W).setCell (p := ⟨gk3, 0, none⟩) (fun _ e => by
      rcases e with e | e
      · have := HBl.out; have e : gk3 = lb := e; omega
      · exact HNA.out e) u
    have HKn : ∀ u, Kept No w (W.setCell ⟨gk3, 0, none⟩ u) := fun u => HKW.out.setCell (p := ⟨gk3, 0, none⟩) (fun e => by have h1 := HBw.out; have e : gk3 < w.heap.size := e; omega) u
  
    have HRg : Hid (-4611686018427387904 ≤ v ∧ v ≤ 4611686018427387904) := by
      have h1 := chn_mem _ _ _ HV.out
      rcases h1 with h1 | ⟨y, hy, h1⟩
      · rw [h1]; exact HG.out.1
      · rw [h1]
        obtain ⟨z, _, rfl⟩ := List.mem_map.1 hy
        exact HG.out.2 _ z.2
    have hw1 : IntKind.i64.wrap (v + 1) = v + 1 := by have := HRg.out; rw [IntKind.wrap_i64]; omega
    by_cases hq : x1 = v + 1
    · subst hq
      gi_wp2
      exact ⟨(KeepsOthers.setCell _ _ _).from _, HKs _, v + 1, by rw [vals_snoc]; exact chn_snoc _ _ _ _ HV.out rfl, HB.out.set 0 _, HKn _⟩
    · have hq' : (x1 == v + 1) = false := by simpa using hq
      gi_wp2
      exact ⟨(KeepsOthers.refl _).from _, rfl, v, fun t => by rw [vals_snoc, List.append_assoc]; exact chn_stop _ _ _ _ _ HV.out hq, HB.out, HKW.out⟩
set_option maxRecDepth 100000 in
set_option maxHeartbeats 4000000 in
theorem top_any (h : Hd) (ps : List Pl) (w : World) (hr : RdP w h.r ps) (hlt : ∀ k, At h.r.a k → k < w.heap.size) (hm : ps.length ≤ 10000000000000) (hg : Rng h.k.up ps) : Calls Try.prog 39 #[.agg (Hd.cells h)] w (fun e w' => e = .returned (.int .i64 (topF h.k.up (decd ps))) ∧ Kept No w w') := by
  obtain ⟨C, hC⟩ : ∃ C : Ending → World → Prop, C = (fun e w' => e = .returned (.int .i64 (topF h.k.up (decd ps))) ∧ Kept No w w') := ⟨_, rfl⟩
  have HC : Hid (C = (fun e w' => e = .returned (.int .i64 (topF h.k.up (decd ps))) ∧ Kept No w w')) := hC
  rw [← hC]
  clear hC
  have HR : Hid (RdP w h.r ps) := hr
  have HLt : Hid (∀ k, At h.r.a k → k < w.heap.size) := hlt
  have HG : Hid (Rng h.k.up ps) := hg
  have HM : Hid (h.r.l ≤ 10000000000000) := by show _ ≤ _; rw [← hr.len]; exact hm
  clear hr hlt hg hm
  have HF : Hid (Fr No w w []) := Fr.start _ _
  refine (callsIn_wide (n := 3)).1 ?_
  refine callsIn_of_wp_marks Try.func39 rfl trivial ?_ rfl
  refine wpIn_wide.2 ?_
  simp only [Try.ntmps39, List.size_toArray, List.length_cons, List.length_nil, Nat.reduceAdd, Nat.reduceSub, Array.replicate_succ, Array.replicate_zero, List.push_toArray, List.append_toArray, List.nil_append, List.cons_append]
  go_upto_region 0 with fail
  refine WL.start ?_
  refine wp_runW (.pointer (some ⟨w.heap.size, 0, none⟩)) (w.alloc (.cells (Hd.cells h) 49)) (exec_box 49 _ rfl (Hd.cells h) (by kernel_rfl)) (by kernel_rfl) ?_
  try simp only [pS]
  have HF : Hid (Fr No w _ [(w.heap.size, 49, Hd.cells h)]) := HF.out.alloc _ _
  generalize w.alloc (.cells (Hd.cells h) 49) = wk2 at HF ⊢
  generalize w.heap.size = gk1 at HF ⊢
  refine tK (.int .i64 0) ?_
  try simp only [pS]
  refine WL.nil ?_
  try simp only [pS]
  go_upto_region 1 with fail
  refine WL.start ?_
  refine tK (.pointer (some ⟨gk1, 3, none⟩)) ?_
  refine tK (.pointer (some ⟨gk1, 3, none⟩)) ?_
  refine tW (.int .i64 h.k.up) (eL 3 _ rfl ⟨gk1, 3, none⟩ (load_one ((HF.out.box 0 _ _ _ rfl).cell 3 |>.trans (by kernel_rfl)) Try.und3 rfl)) ?_
  try simp only [pS]
  refine wp_runW (.pointer (some ⟨wk2.heap.size, 0, none⟩)) (wk2.alloc (.cells (#[.int .i64 0]) 3)) (exec_alloc1 3 rfl (.int .i64 0) rfl zero3) (by kernel_rfl) ?_
  try simp only [pS]
  have HF : Hid (Fr No w _ [(gk1, 49, Hd.cells h), (wk2.heap.size, 3, #[.int .i64 0])]) := HF.out.alloc _ _
  generalize wk2.alloc (.cells (#[.int .i64 0]) 3) = wk4 at HF ⊢
  generalize wk2.heap.size = gk3 at HF ⊢
  refine wp_storeW 3 _ _ rfl ⟨gk3, 0, none⟩ (.int .i64 h.k.up) (by kernel_rfl) (by kernel_rfl) (wk4.setRow gk3 (#[.int .i64 h.k.up])) (run_store_to (cur := [.int .i64 0]) (vs := [.int .i64 h.k.up]) (new := [.int .i64 h.k.up]) (HF.out.box 1 _ _ _ rfl) (by kernel_rfl) Try.size3 (Nat.le_of_ble_eq_true (by kernel_rfl)) (by simp [Value.oneCell', Sl.v]) (by kernel_rfl)) (by kernel_rfl) ?_
  try simp only [pS]
  have HF : Hid (Fr No w _ [(gk1, 49, Hd.cells h), (gk3, 3, #[.int .i64 h.k.up])]) := HF.out.set 1 rfl _
  generalize wk4.setRow gk3 (#[.int .i64 h.k.up]) = wk5 at HF ⊢
  refine WL.nil ?_
  try simp only [pS]
  have HF2 : Hid (Fr No w (wk5) [(gk1, 49, Hd.cells h), (gk3, 3, #[.int .i64 h.k.up])]) := HF.out
  go_upto_region 2 with fail
  refine WL.start ?_
  refine tK (.pointer (some ⟨gk1, 6, none⟩)) ?_
  refine tW (h.r.v) (eL 47 _ rfl ⟨gk1, 6, none⟩ (load_one ((HF.out.box 0 _ _ _ rfl).cell 6 |>.trans (by kernel_rfl)) Try.und38 rfl)) ?_
  try simp only [pS]
  refine wp_callW 42 #[h.r.v] (by kernel_rfl) _ (decided_any h.r ps _ (HR.out.no HF.out.kept) (fun k e => Nat.lt_of_lt_of_le (HLt.out k e) HF.out.kept.size)) (by kernel_rfl) ?_
  rintro e wk6 ⟨lb, rfl, hsq, hlb, hk⟩
  have HF : Hid (Fr No w (wk6) [(gk1, 49, Hd.cells h), (gk3, 3, #[.int .i64 h.k.up])]) := HF.out.no hk
  have HSq : Hid (SeqD wk6 lb h.r ps) := hsq
  have HLb : Hid (wk5.heap.size ≤ lb) := hlb
  clear hsq hlb
  clear hk
  refine ⟨.func (.func 43) #[] #[.pointer (some ⟨lb, 0, none⟩)], rfl, ?_⟩
  try simp only [pS]
  refine WL.nil ?_
  try simp only [pS]
  have HBl : Hid (gk3 < lb) := Nat.lt_of_lt_of_le (HF2.out.box 1 _ _ _ rfl).lt HLb.out
  have HNA : Hid (¬ At h.r.a gk3) := fun e => by have h1 := HLt.out _ e; have h2 := HF.out.low 1 _ _ _ rfl; omega
  have HB5 : Hid (Box wk6 gk3 3 #[.int .i64 h.k.up]) := HF.out.box 1 _ _ _ rfl
  have HK5 : Hid (Kept No w wk6) := HF.out.kept
  have HBw : Hid (w.heap.size ≤ gk3) := HF.out.low 1 _ _ _ rfl
  clear HF HF2 HLb
  go_wp2
  refine (wpIn_wide (n := 3)).1 ?_
  refine' rf_H (F := Fence.wide) rfl (by omega) (gf := 43) (lb := #[.pointer (some ⟨lb, 0, none⟩)]) rfl trivial (enters_of Try.func43 (by kernel_rfl) rfl)
    (seq_mem Fence.wide (3 - 1) trivial rfl (by omega) lb h.r.l h.r ps HM.out rfl wk6 HSq.out) nb_t (nb_b HSq.out (Nat.le_refl _)) (Below.refl _ _) (fun _ => rfl)
    (fun pre W => ∃ v, v = topF h.k.up (vals pre) ∧ Box W gk3 3 #[.int .i64 v] ∧ Kept No w W)
    (fun c pre W => False) ?own ?ownx ⟨h.k.up, rfl, HB5.out, HK5.out⟩ (fun W => Kept.refl _ W) _ ?assign ?body ?done ?stop
  case own =>
    rintro pre A' B' row ⟨v, h0, h1, h4⟩ hg hr
    have hr' : ∀ r, row = some r → ∃ o : Obj, A'.heap[r]? = some o ∧ o.isCells = false := fun r e => by obtain ⟨_, o, h, h'⟩ := hr r e; exact ⟨o, h, h'⟩
    exact ⟨v, h0, box_cells h1 hg hr', h4.grown hg (fun k e hk => by have := (hr k e).1; have := HK5.out.size; omega)⟩
  case ownx =>
    exact fun _ _ _ _ _ hs _ _ => hs
  case assign =>
    intro l x W K hK
    gi_wp2
    exact hK
  
  case stop =>
    rintro D c pre W hD hpre h _
    exact h.elim
  case done =>
    rintro D ys W hD hys ⟨v, hv, hb, hk⟩ hK
    have hys : vals ys = decd ps := hys
    replace hv : v = topF h.k.up (decd ps) := by rw [hv, hys]
    subst hv
    have e1 : W.cell? ⟨gk3, 0, none⟩ = some (.int .i64 (topF h.k.up (decd ps))) := hb.cell 0
    have HKW : Hid (Kept No w W) := hk
    have HKd : True := trivial
    have HD : Hid (W.heap[D]? = some (.deferred (some [])) ∧ wk6.heap.size ≤ D) := ⟨hK, hD⟩
    clear hb hk hK hD
    go_wp2
    rw [HC.out]
    have hgr := grownBy_putObj' W D (.deferred none)
    have h5 := HK5.out.size
    have hDw := HD.out.2
    refine ⟨by simp, .inl ⟨_, _, rfl, run_takeDeferred HD.out.1, ?_⟩⟩
    refine ⟨.int .i64 (topF h.k.up (decd ps)), ?_, ?_⟩
    · exact results_tmp (fn := Try.f39) rfl _ _ _
    · exact ⟨rfl, HKW.out.grown hgr (fun k e hk => by cases e; omega)⟩
  case body =>
    rintro l pre ⟨⟨x1, x2⟩, hx⟩ W hl hlo ⟨v, hv, hb, hk⟩ hlen
    have HV : Hid (v = topF h.k.up (vals pre)) := hv
    have HB : Hid (Box W gk3 3 #[.int .i64 v]) := hb
    have HKW : Hid (Kept No w W) := hk
    have e1 : W.cell? ⟨gk3, 0, none⟩ = some (.int .i64 v) := hb.cell 0
    have f1 : W.frozen? ⟨gk3, 0, none⟩ = false := hb.frozen 0
    clear hb hk hv
    have HKs : ∀ u, Kept (NB lb h.r.a) W (W.setCell ⟨gk3, 0, none⟩ u) := fun u => (Kept.refl _ W).setCell (p := ⟨gk3, 0, none⟩) (fun _ e => by
      rcases e with e | e
      · have := HBl.out; have e : gk3 = lb := e; omega
      · exact HNA.out e) u
    have HKn : ∀ u, Kept No w (W.setCell ⟨gk3, 0, none⟩ u) := fun u => HKW.out.setCell (p := ⟨gk3, 0, none⟩) (fun e => by have h1 := HBw.out; have e : gk3 < w.heap.size := e; omega) u
  
    gi_wp2
    exact ⟨(KeepsOthers.setCell _ _ _).from _, HKs _, x1, by rw [vals_snoc, topF_snoc], HB.out.set 0 _, HKn _⟩

end Go.Proofs.Ytcgnbpaaalmkoab
