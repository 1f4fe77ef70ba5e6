import Derived.Test.YtfemlnfknebalabO
import Derived.Deep.CutRange
import Derived.StillTailTactics
import Derived.RangeFuncNested
import Derived.RangeFuncBound
import Derived.RangeFuncCalls
import Derived.RangeFuncLeaves
import Derived.RangeFuncBox
import Derived.Shelf.Abstract
import Derived.Sort.QuietTacIn
import Derived.Shelf.RegionOpen
import Derived.OwnWalkIn
import Derived.TacticsInMore
import Derived.LoopNIn
import Derived.LoopIn
namespace Go.Proofs.Ytfemlnfknebalab
open Go.RowKit Go.Shelf
set_option linter.unusedVariables false
set_option linter.unusedSimpArgs false

attribute [local go_sem] Oper.semAt_some
theorem wpIn_appV {F : Fence} {nf : Nat} {ops : Array Oper} {rest : List Oper} {o : Oper} {a : Act} {w : World} {Q : Exit → Act → World → Prop} (hg : o.guard = none) (s x : Operand) (T E : TypeId) (c by' : Nat) (z : Value) (ht : Try.prog.underlying T = some (.slice E))
    (hinf : (Try.prog.info? E).map (fun i => (i.zero, i.size, i.bytes)) = some (some z, c, by')) (hzc : z.cells.size = c) (hc0 : 0 < c) (ho : o.op = .call { callee := Callee.builtin Builtin.append, args := #[s, x], argTypes := #[T, T] })
    (base n cap : Nat) (sa : Option Addr) (vs : List Value) (hs : a.eval s = .slice sa n cap) (hown : Own E c w base sa cap n vs) (ad : Addr) (m cc : Nat) (news : List Value) (hx : a.eval x = .slice (some ad) m cc) (hl : news.length = m * c) (hnews : ∀ j u, news[j]? = some u → w.cell? (ad.add j) = some u) (h1 : ∀ u ∈ news, u.oneCell' = true) (hbd : (n + m) * by' ≤ 140737488355328) (hb63 : n + m ≤ 9223372036854775807) (hm : 0 < m) (hbase : base ≤ w.heap.size) (k : Nat) (hk : n + m = k)
    (h : ∀ g' cap' w', Hid (Own E c w' base (some ⟨g', 0, none⟩) cap' k (vs ++ news)) → Hid (Kept (At sa) w w') → Hid (KeepsOthers w w') → Hid (At sa g' ∨ g' = w.heap.size) → wpListIn F nf Try.prog ops Q rest (a.put o.dst (.slice (some ⟨g', 0, none⟩) k cap')) w') : wpListIn F nf Try.prog ops Q (o :: rest) a w := by
  subst hk
  obtain ⟨i0, hi, hz0, hz1, hz2⟩ := info_parts hinf
  obtain ⟨v', w', hrun, r1, r2, _, r4⟩ := run_append_own_at (P := Try.prog) (w := w) base T o.type E i0 z c by' ht hi hz0 hz1 hz2 hzc hc0 (.slice sa n cap) n vs hown ad m cc news hl hnews h1 (by unfold maxLen; omega) hbd hbase
  have hk : Kept (At sa) w w' := (Kept.refl (At sa) w).grown r2 (fun k e hk => by
    cases sa with
    | none => cases e
    | some ad' => simp only [Value.ownBlock, Option.some.injEq] at e; exact ⟨ad', rfl, e⟩)
  have hko : KeepsOthers w w' := KeepsOthers.of_grownBy r2 fun j o ej hj => by
    rcases hown.2 with ⟨e, _⟩ | ⟨g, cap, cur, e, _, hgb, _⟩
    · rw [e] at ej; simp [Value.ownBlock] at ej
    · rw [e] at ej
      obtain rfl : g = j := by simpa [Value.ownBlock] using ej
      rw [hgb] at hj; cases hj; rfl
  rcases r1.2 with ⟨e, h0⟩ | ⟨g, cap', cur, e, _⟩
  · omega
  · subst e
    have h4 : At sa g ∨ g = w.heap.size := by
      rcases r4 with e | e
      · left
        cases sa with
        | none => simp [Value.ownBlock] at e
        | some ad' => simp only [Value.ownBlock, Option.some.injEq] at e; exact ⟨ad', rfl, e.symm⟩
      · right; simpa [Value.ownBlock] using e
    refine wpListIn_plain hg fun K hK' => ?_
    unfold Oper.wpIn
    refine ⟨?_, ?_⟩
    · simp [Oper.about, ho, resolve, Target.leads, Sem.run_pure]
    · rw [Oper.semAt_plain F _ _ (by rw [ho]; intro c hc'; cases hc')]
      simp [execOp, ho, resolve, invoke, builtin, hs, hx, hrun, Result.andThen]
      exact hK' _ _ (h g cap' w' r1 hk hko h4)

theorem own_cells {W W' : World} {row : Option Nat} {e c n₀ n cap : Nat} {a : Option Addr} {vs : List Value} (ho : Own e c W n₀ a cap n vs) (hg : W.grownBy W' row) (hr : ∀ r, row = some r → ∃ o : Obj, W.heap[r]? = some o ∧ o.isCells = false) : Own e c W' n₀ a cap n vs := by
  refine ho.kept (S := fun k => row = some k) ⟨hg.os, hg.tape, hg.output, hg.size, fun k hk hS => hg.block k hk (fun e => hS e.symm)⟩ (fun k hk e => ?_)
  obtain ⟨o, ho', hc⟩ := hr k e
  obtain ⟨ad, rfl, rfl⟩ := hk
  rcases ho.2 with ⟨e', _⟩ | ⟨g, cap', cur, e', _, hgb, _⟩
  · cases e'
  · cases e'
    rw [hgb] at ho'; cases ho'; cases hc
theorem box_cells {W W' : World} {row : Option Nat} {b t : Nat} {cs : Array Value} (hb : Box W b t cs) (hg : W.grownBy W' row) (hr : ∀ r, row = some r → ∃ o : Obj, W.heap[r]? = some o ∧ o.isCells = false) : Box W' b t cs :=
  (hg.block b hb.lt (fun e => by
    obtain ⟨o, ho', hc⟩ := hr b e.symm
    unfold Box at hb
    rw [hb] at ho'; cases ho'; cases hc)).trans hb



section
variable {F : Fence} {n : Nat} {P : Program}
/-- The same where the round's variable is laid down. -/
theorem rf_B {α : Type} {g : Operand} {ps : Array Tmp} {assign body : Code} {Q : Exit → Act → World → Prop} {a : Act} {w : World}
    (hro : F.round = none) (h1 : 1 ≤ n) {gf : Nat} {lb : Array Value} (hg : a.eval g = .func (.func gf) #[] lb) (hFg : F.fn gf) (eg : ∀ args w, (callFunc gf args).run P w = .ok (.enter gf args) w)
    {encs : α → Array Value} {Kp : World → World → Prop} {S Sp : List α → Prop} {N : Nat} {w0 : World} (hseq : SeqStopsK F (n - 1) P gf lb encs Kp S Sp N w0)
    (hKt : ∀ {A B C : World}, Kp A B → Kp B C → Kp A C) (hKb : ∀ (W : World) (l : Nat) (o o' : Obj), w.heap.size ≤ l → W.heap[l]? = some o → o.isCells = false → o.isWalk = false → Kp W (W.putObj l o')) (hb0 : Below w0.heap.size w0 w) (hps : ∀ x, (encs x).size = ps.size)
    (I : List α → World → Prop) (Ix : Code → List α → World → Prop) (hI : OwnFrom w.heap.size I) (hIx : ∀ c, OwnFrom w.heap.size (Ix c)) (h0 : I [] w) (hKa : ∀ W o, Kp W (W.alloc o)) (T : TypeId) (cs : α → Array Value) (a₁ : α → Nat → Act)
    (hassign : ∀ (l : Nat) (x : α) (W : World) (K : Act → World → Prop) (vb : Nat), vb = W.heap.size → K (a₁ x vb) (W.alloc (.cells (cs x) T)) →
      assign.wpIn (F.inRound l) (n - 1 - 1) P (Exit.then K (fun _ _ _ => False)) { tmps := (ps.zip (encs x)).foldl (fun t (p, v) => t.setIfInBounds p v) a.tmps, defers := [] } W)
    (hbody : ∀ (l : Nat) (pre : List α) (x : α) (vb : Nat) (W : World), w.heap.size ≤ l → (∃ r, W.heap[l]? = some (.loop r)) → I pre W → Box W vb T (cs x) → pre.length < N → body.wpIn (F.inRound l) (n - 1 - 1) P (ownPostG w.heap.size Kp I Ix (pre ++ [x]) W) (a₁ x vb) W)
    (hdone : ∀ (D : Nat) (xs : List α) (W : World), w.heap.size ≤ D → S xs → I xs W → W.heap[D]? = some (.deferred (some [])) → Q .normal { a with defers := { target := .collected D, args := #[] } :: a.defers } W)
    (hstop : ∀ (D : Nat) (c : Code) (pre : List α) (W : World), w.heap.size ≤ D → Sp pre → Ix c pre W → W.heap[D]? = some (.deferred (some [])) → c.wpIn F n P Q { a with defers := { target := .collected D, args := #[] } :: a.defers } W) :
    (Code.rangeFunc g ps assign body).wpIn F n P Q a w :=
  wpIn_rangeFunc_ownH hro h1 hg hFg eg hseq (fun h k => hKt h k) hKb hb0 hps I Ix hI hIx h0 (fun x a' W => ∃ vb, a' = a₁ x vb ∧ Box W vb T (cs x))
    (fun x a' _ A B row hs hg hr => by
      obtain ⟨vb, h1, h2⟩ := hs
      exact ⟨vb, h1, box_cells h2 hg (fun r e => by obtain ⟨_, o, h, h'⟩ := hr r e; exact ⟨o, h, h'⟩)⟩)
    (fun l pre x W K hi hK => hassign l x W K _ rfl (hK _ _ ((KeepsOthers.alloc W _).from _) (hKa W _) (hI.alloc _ hi) ⟨_, rfl, Box.new _ _ _⟩)) (fun l pre x a' W h1 h2 hi e => by obtain ⟨vb, e, hb⟩ := e; subst e; exact hbody l pre x vb W h1 h2 hi hb) hdone hstop


end
theorem take_next {ps : List En} {k : Nat} (h : k < ps.length) : ps.take k ++ [eAt ps k] = ps.take (k + 1) := by
  rw [List.take_succ_eq_append_getElem h, eAt, List.getElem?_eq_getElem h]; rfl
def SB (lb : Nat) (a : Option Addr) : Nat → Prop := fun k => k = lb ∨ At a k
def NB (lb : Nat) (a : Option Addr) : Nat → Prop := fun k => ¬ SB lb a k
theorem SeqAt.kept {S : Nat → Prop} {W W' : World} {lb cap : Nat} {a : Option Addr} {ps : List En} (h : SeqAt W lb a cap ps) (hk : Kept S W W') (hS : ∀ k, SB lb a k → ¬ S k) : SeqAt W' lb a cap ps :=
  ⟨h.box.kept hk (hS _ (.inl rfl)), h.row.kept hk (fun k e => hS k (.inr e))⟩
theorem SeqAt.nb {W W' : World} {lb cap : Nat} {a : Option Addr} {ps : List En} (h : SeqAt W lb a cap ps) (hk : Kept (NB lb a) W W') : SeqAt W' lb a cap ps := h.kept hk (fun _ e f => f e)
theorem SeqAt.lt {W : World} {lb cap : Nat} {a : Option Addr} {ps : List En} (h : SeqAt W lb a cap ps) {k : Nat} (hk : SB lb a k) : k < W.heap.size := by
  rcases hk with rfl | hk
  · exact h.box.lt
  · exact h.row.lt hk
theorem SeqAt.at {W : World} {lb cap : Nat} {a : Option Addr} {ps : List En} (h : SeqAt W lb a cap ps) {i : Nat} (hi : i < ps.length) :
    ∃ pg, a = some ⟨pg, 0, none⟩ ∧ W.cell? ⟨pg, i * 4, none⟩ = some (.string (eAt ps i).nm) ∧ W.cell? ⟨pg, i * 4 + 1, none⟩ = some (.int .i64 (eAt ps i).f0) ∧ W.cell? ⟨pg, i * 4 + 2, none⟩ = some (.int .i64 (eAt ps i).f1) ∧ W.cell? ⟨pg, i * 4 + 3, none⟩ = some (.int .i64 (eAt ps i).sz) := by
  obtain ⟨g, cur, rfl, _⟩ := Own.op h.row (by omega)
  obtain ⟨b, off, e, hc⟩ := Es.at (Own.rows h.row (enL_c ps) (by omega)) hi
  cases e
  have h0 := hc 0 _ rfl
  have h1 := hc 1 _ rfl
  have h2 := hc 2 _ rfl
  have h3 := hc 3 _ rfl
  simp only [Nat.zero_add, Nat.add_zero] at h0 h1 h2 h3
  exact ⟨g, rfl, h0, h1, h2, h3⟩
set_option maxRecDepth 100000 in
set_option maxHeartbeats 2000000 in
theorem it_in (F : Fence) (n : Nat) (h37 : F.fn 30) (hro : F.round = none) (hn : 1 ≤ n) (l lb cap m : Nat) (a : Option Addr) (ps : List En) (hm : m ≤ 10000000000000) (hl : ps.length = m) (J Jx : List En → World → Prop) (W : World) (hJ : AbidesFrom W.heap.size J)
    (hY : ∀ pre x W1, x ∈ ps → J pre W1 → pre.length < m → YieldAt F (n - 1) Try.prog l #[.agg #[.string x.nm, .int .i64 x.f0, .int .i64 x.f1, .int .i64 x.sz]] W1 fun e W' =>
      (e = .returned (.bool true) ∧ J (pre ++ [x]) W' ∧ Kept (NB lb a) W1 W') ∨ (e = .returned (.bool false) ∧ Jx (pre ++ [x]) W'))
    (hS : SeqAt W lb a cap ps) (h0 : J [] W) :
    CallsIn F n Try.prog 30 #[.func (.yield l) #[] #[], .pointer (some ⟨lb, 0, none⟩)] W fun e W' => (∃ v, e = .returned v) ∧
      ((∃ ys, ys = ps ∧ J ys W') ∨ (∃ pre, pre <+: ps ∧ Jx pre W')) := by
  have HS : Hid (SeqAt W lb a cap ps) := hS
  have HL : Hid (ps.length = m) := hl
  have HJ : Hid (AbidesFrom W.heap.size J) := hJ
  have HY : Hid (∀ pre x W1, x ∈ ps → J pre W1 → pre.length < m → YieldAt F (n - 1) Try.prog l #[.agg #[.string x.nm, .int .i64 x.f0, .int .i64 x.f1, .int .i64 x.sz]] W1 fun e W' =>
      (e = .returned (.bool true) ∧ J (pre ++ [x]) W' ∧ Kept (NB lb a) W1 W') ∨ (e = .returned (.bool false) ∧ Jx (pre ++ [x]) W')) := hY
  have hBs := hS.box.cell 0
  simp only [List.getElem?_toArray, List.getElem?_cons_zero] at hBs
  rw [hl] at hBs
  clear hl hJ hY hS
  refine callsIn_of_wp Try.func30 rfl h37 ?_ hro
  simp only [Try.ntmps30, List.size_toArray, List.length_cons, List.length_nil, Nat.reduceAdd, Nat.reduceSub, Array.replicate_succ, Array.replicate_zero, List.push_toArray, List.append_toArray, List.nil_append, List.cons_append]
  gi_wp2
  gi_loopw [7] (fun i wr => ∃ k : Nat, k ≤ m ∧ i = .int .i64 k ∧ Hid (J (ps.take k) wr) ∧ Hid (Kept (NB lb a) W wr)) (fun i _ => m - (intOf i).toNat)
  case atStart => exact ⟨0, Nat.zero_le _, rfl, h0, Kept.refl _ _⟩
  case round =>
    obtain ⟨k, hk, rfl, HJs, HB⟩ := hrel
    clear hBs
    by_cases hlt : k < m
    · obtain ⟨pg, rfl, c0, c1, c2, c3⟩ := (HS.out.nb HB.out).at (i := k) (by rw [HL.out]; exact hlt)
      have HTk : Hid (ps.take k ++ [eAt ps k] = ps.take (k + 1)) := take_next (by rw [HL.out]; exact hlt)
      have hlen : (ps.take k).length < m := by rw [List.length_take, HL.out]; omega
      have HMm : Hid (eAt ps k ∈ ps) := by
        have hk : k < ps.length := by rw [HL.out]; exact hlt
        show _ ∈ _
        have := eAt_some hk
        exact List.mem_of_getElem? this
      generalize eAt ps k = x at HMm c0 c1 c2 c3 HTk
      obtain ⟨w5, hw5⟩ : ∃ w5, w5 = wr.alloc (.cells #[.string x.nm, .int .i64 x.f0, .int .i64 x.f1, .int .i64 x.sz] 34) := ⟨_, rfl⟩
      have hJ5 : J (ps.take k) w5 := by rw [hw5]; exact HJ.out _ wr _ none HJs.out (World.grownBy_alloc wr _ none) (fun r e => by cases e)
      have HB5 : Hid (Kept (NB lb (some ⟨pg, 0, none⟩)) W w5) := by rw [hw5]; exact HB.out.alloc _
      obtain ⟨fn, tmps, assign, body, hy, hR⟩ := HY.out _ x w5 HMm.out hJ5 hlen
      have hlt' : (k : Int) < (m : Int) := by omega
      clear hlen hJ5
      rw [hw5] at hy hR
      gi_wp2
      refine hR.mono ?_
      rw [← hw5]
      rintro e W3 (⟨rfl, hJ3, hk3⟩ | ⟨rfl, hJx3⟩)
      · rw [HTk.out] at hJ3
        have HJ3 : Hid (J (ps.take (k + 1)) W3) := hJ3
        have HB3 : Hid (Kept (NB lb (some ⟨pg, 0, none⟩)) W W3) := HB5.out.then hk3
        clear hJ3 hk3 hy hR HJs HB c0 c1 c2 c3
        gi_wp2
        go_roundw
        case rel => exact ⟨k + 1, by omega, by go_num, HJ3, HB3⟩
        case measure => simp [intOf]; omega
      · rw [HTk.out] at hJx3
        have HJ3 : Hid (Jx (ps.take (k + 1)) W3) := hJx3
        clear hJx3 hy hR HJs HB c0 c1 c2 c3
        gi_wp2
        refine bodyPost_ret (results_none rfl _ _ _) rfl ?_
        exact ⟨⟨_, rfl⟩, .inr ⟨_, List.take_prefix _ _, HJ3.out⟩⟩
    · obtain rfl : k = m := by omega
      have hlt' : ¬ (k : Int) < (k : Int) := by omega
      gi_wp2
      go_end0
      have hJe := HJs.out
      rw [List.take_of_length_le (by rw [HL.out]; omega)] at hJe
      exact ⟨⟨_, rfl⟩, .inl hJe⟩

theorem seq_mem (F : Fence) (n : Nat) (h37 : F.fn 30) (hro : F.round = none) (hn : 1 ≤ n) (lb cap m : Nat) (a : Option Addr) (ps : List En) (hm : m ≤ 10000000000000) (hl : ps.length = m) (w : World) (hS : SeqAt w lb a cap ps) :
    SeqStopsK F n Try.prog 30 #[.pointer (some ⟨lb, 0, none⟩)] (fun x : { x : En // x ∈ ps } => #[Value.agg #[.string x.1.nm, .int .i64 x.1.f0, .int .i64 x.1.f1, .int .i64 x.1.sz]]) (Kept (NB lb a)) (fun ys => ys.map Subtype.val = ps) (fun pre => pre.map Subtype.val <+: ps) m w := fun l J Jx W hW hJ _ hY h0 => by
  refine (it_in F n h37 hro hn l lb cap m a ps hm hl (fun q W => ∃ pre : List { x : En // x ∈ ps }, pre.map Subtype.val = q ∧ J pre W) (fun q W => ∃ pre : List { x : En // x ∈ ps }, pre.map Subtype.val = q ∧ Jx pre W) W ?_ ?_ (hS.kept (below_kept hW) (fun k hk e => by have := hS.lt hk; omega)) ⟨[], rfl, h0⟩).mono ?_
  · rintro q A B row ⟨pre, e, h⟩ hg hr
    exact ⟨pre, e, hJ pre A B row h hg hr⟩
  · rintro q x W1 hx ⟨pre, rfl, h⟩ hlen
    obtain ⟨fn, tmps, assign, body, h1, h2⟩ := hY pre ⟨x, hx⟩ W1 h (by simpa using hlen)
    refine ⟨fn, tmps, assign, body, h1, h2.mono ?_⟩
    rintro e W' (⟨h3, h4, h5⟩ | ⟨h3, h4⟩)
    · exact .inl ⟨h3, ⟨_, by simp, h4⟩, h5⟩
    · exact .inr ⟨h3, ⟨_, by simp, h4⟩⟩
  · rintro e W' ⟨h1, ⟨ys, h2, pre, h3, h4⟩ | ⟨q, h2, pre, h3, h4⟩⟩
    · exact ⟨h1, .inl ⟨pre, h3.trans h2, h4⟩⟩
    · exact ⟨h1, .inr ⟨pre, by show _ <+: _; rw [h3]; exact h2, h4⟩⟩

theorem nb_t {lb : Nat} {a : Option Addr} {A B C : World} (h : Kept (NB lb a) A B) (k : Kept (NB lb a) B C) : Kept (NB lb a) A C := h.then k
theorem nb_b {lb cap : Nat} {a : Option Addr} {w w0 : World} {ps : List En} (hS : SeqAt w0 lb a cap ps) (hs : w0.heap.size ≤ w.heap.size) (W : World) (l : Nat) (o o' : Obj) (hl : w.heap.size ≤ l) (h : W.heap[l]? = some o) (_ : o.isCells = false) (_ : o.isWalk = false) : Kept (NB lb a) W (W.putObj l o') :=
  (Kept.refl _ W).grown (grownBy_putObj' W l o') (fun k e hk hb => by cases e; have := hS.lt hb; omega)

theorem bs_false (p : Nat → Bool) : ∀ (f lo hi : Nat), hi - lo ≤ f → (∀ i, p i = false) → lo ≤ hi → bs p f lo hi = lo
  | 0, lo, hi, _, _, _ => rfl
  | f + 1, lo, hi, hf, hp, hl => by
    unfold bs
    split
    · rw [hp]
      exact bs_false p f _ _ (by omega) hp (by omega)
    · rfl
theorem cmpB_empty (a : ByteArray) : ¬ cmpB a ⟨#[]⟩ < 0 := by
  unfold cmpB
  cases h : a.data.toList <;> simp [Lib.compareBytes]
theorem hasP_empty (a : ByteArray) : hasP a ⟨#[]⟩ = true := by
  have h1 : (⟨#[]⟩ : ByteArray).size = 0 := rfl
  unfold hasP
  rw [h1, decide_eq_true (Nat.zero_le _), Bool.true_and, eqN_iff]
  apply ByteArray.ext
  simp
theorem takeWhile_all {α : Type} (p : α → Bool) (h : ∀ x, p x = true) : ∀ l : List α, l.takeWhile p = l
  | [] => rfl
  | x :: l => by rw [List.takeWhile_cons_of_pos (h x), takeWhile_all p h l]
theorem names_every (es : List En) (z : ByteArray) (h1 : ∀ a, ¬ cmpB a z < 0) (h2 : ∀ a, hasP a z = true) : namesS es z = es := by
  unfold namesS
  have h0 : eIx es z = 0 := bs_false _ _ _ _ (by omega) (fun i => decide_eq_false (h1 _)) (by omega)
  rw [h0, List.drop_zero]
  exact takeWhile_all _ (fun x => h2 x.nm) es
theorem namesS_all (es : List En) : namesS es ⟨#[]⟩ = es := names_every es _ cmpB_empty hasP_empty
theorem box_row {W : World} {b t : Nat} {cs : Array Value} (hb : Box W b t cs) {e c n0 n cap : Nat} {a : Option Addr} {vs : List Value} (hne : t ≠ e) (ho : Own e c W n0 a cap n vs) {k : Nat} (hk : At a k) : k ≠ b := fun h => ho.notBox hb (fun e => hne e.symm) (h ▸ hk)
def vals {es : List En} (pre : List { x : En // x ∈ es }) : List En := pre.map Subtype.val
theorem vals_snoc {es : List En} (pre : List { x : En // x ∈ es }) (x : { x : En // x ∈ es }) : vals (pre ++ [x]) = vals pre ++ [x.1] := by simp [vals]
theorem vals_len {es : List En} (pre : List { x : En // x ∈ es }) : (vals pre).length = pre.length := by simp [vals]
def One (n₀ ba s5 : Nat) (bs : List En) (W : World) : Prop := ∃ a c, Box W ba 23 #[.slice a bs.length c] ∧ Own 34 4 W n₀ a c bs.length (enL bs) ∧ ∀ k, At a k → s5 ≤ k
def AllOut (w : World) (es : List En) (e : Ending) (w' : World) : Prop := ∃ sx : Sl, e = .returned sx.v ∧ OwE w' w.heap.size sx es ∧ Kept No w w'
set_option maxRecDepth 100000 in
set_option maxHeartbeats 4000000 in
theorem all_any (up : Int) (a : Option Addr) (m cap : Nat) (sl : Sl) (es : List En) (w : World) (hm : es.length = m) (hb : (m + 1) * 40 ≤ 140737488355328) (hr : RdE w ⟨a, m, cap⟩ es) (hmc : m ≤ cap) : Calls Try.prog 37 #[.agg (Bv.cells ⟨up, ⟨a, m, cap⟩, sl⟩)] w (AllOut w es) := by
  obtain ⟨C, hC⟩ : ∃ C : Ending → World → Prop, C = (AllOut w es) := ⟨_, rfl⟩
  have HC : Hid (C = (AllOut w es)) := hC
  rw [← hC]
  clear hC
  have HX : Hid (∀ W, Kept No w W → Calls Try.prog 17 #[.agg (Bv.cells ⟨up, ⟨a, m, cap⟩, sl⟩), .string ⟨#[]⟩] W (NamOut W es ⟨#[]⟩)) := fun W hk => names_any up a m cap sl es ⟨#[]⟩ W hm (by omega) (hr.no hk) hmc
  have HM : Hid (es.length = m) := hm
  have HNS : Hid (namesS es ⟨#[]⟩ = es) := namesS_all es
  clear hm hr
  have HF : Hid (Fr No w w []) := Fr.start _ _
  refine (callsIn_wide (n := 3)).1 ?_
  refine callsIn_of_wp_marks Try.func37 rfl trivial ?_ rfl
  refine wpIn_wide.2 ?_
  simp only [Try.ntmps37, List.size_toArray, List.length_cons, List.length_nil, Nat.reduceAdd, Nat.reduceSub, Array.replicate_succ, Array.replicate_zero, List.push_toArray, List.append_toArray, List.nil_append, List.cons_append]
  go_upto_region 0 with fail
  refine WL.start ?_
  refine wp_runW (.pointer (some ⟨w.heap.size, 0, none⟩)) (w.alloc (.cells (Bv.cells ⟨up, ⟨a, m, cap⟩, sl⟩) 26)) (exec_box 26 _ rfl (Bv.cells ⟨up, ⟨a, m, cap⟩, sl⟩) (by kernel_rfl)) (by kernel_rfl) ?_
  try simp only [pA, pB, p1, p2, p3]
  have HF : Hid (Fr No w (w.alloc (.cells (Bv.cells ⟨up, ⟨a, m, cap⟩, sl⟩) 26)) [(w.heap.size, 26, Bv.cells ⟨up, ⟨a, m, cap⟩, sl⟩)]) := HF.out.alloc _ _
  generalize w.alloc (.cells (Bv.cells ⟨up, ⟨a, m, cap⟩, sl⟩) 26) = wk2 at HF ⊢
  generalize w.heap.size = gk1 at HF ⊢
  refine tK (.slice none 0 0) ?_
  try simp only [pA, pB, p1, p2, p3]
  refine WL.nil ?_
  try simp only [pA, pB, p1, p2, p3]
  go_upto_region 1 with fail
  refine WL.start ?_
  refine wp_runW (.pointer (some ⟨wk2.heap.size, 0, none⟩)) (wk2.alloc (.cells (#[.slice none 0 0]) 23)) (exec_alloc1 23 rfl (.slice none 0 0) rfl zero22) (by kernel_rfl) ?_
  try simp only [pA, pB, p1, p2, p3]
  have HF : Hid (Fr No w (wk2.alloc (.cells (#[.slice none 0 0]) 23)) [(gk1, 26, Bv.cells ⟨up, ⟨a, m, cap⟩, sl⟩), (wk2.heap.size, 23, #[.slice none 0 0])]) := HF.out.alloc _ _
  generalize wk2.alloc (.cells (#[.slice none 0 0]) 23) = wk4 at HF ⊢
  generalize wk2.heap.size = gk3 at HF ⊢
  refine WL.nil ?_
  try simp only [pA, pB, p1, p2, p3]
  have HF4 : Hid (Fr No w (wk4) [(gk1, 26, Bv.cells ⟨up, ⟨a, m, cap⟩, sl⟩), (gk3, 23, #[.slice none 0 0])]) := HF.out
  go_upto_region 2 with fail
  refine WL.start ?_
  refine tW (.agg (Bv.cells ⟨up, ⟨a, m, cap⟩, sl⟩)) (exec_load 26 _ rfl ⟨gk1, 0, none⟩ (by kernel_rfl) (.agg (Bv.cells ⟨up, ⟨a, m, cap⟩, sl⟩)) (ld25 (HF.out.box 0 _ _ _ rfl))) ?_
  try simp only [pA, pB, p1, p2, p3]
  refine wp_callW 17 #[.agg (Bv.cells ⟨up, ⟨a, m, cap⟩, sl⟩), .string ⟨#[]⟩] (by kernel_rfl) _ (HX.out _ HF.out.kept) (by kernel_rfl) ?_
  rintro e wk5 ⟨lb, sa, sc, rfl, hsq, hlb, hsb, hk⟩
  have HF : Hid (Fr No w (wk5) [(gk1, 26, Bv.cells ⟨up, ⟨a, m, cap⟩, sl⟩), (gk3, 23, #[.slice none 0 0])]) := HF.out.no hk
  have HSq : Hid (SeqAt wk5 lb sa sc es) := by rw [HNS.out] at hsq; exact hsq
  have HSqb : Hid (∀ k, SB lb sa k → wk4.heap.size ≤ k) := fun k hk => by
    rcases hk with rfl | hk
    · exact hlb
    · exact hsb k hk
  clear hsq hlb hsb
  clear hk
  refine ⟨.func (.func 30) #[] #[.pointer (some ⟨lb, 0, none⟩)], rfl, ?_⟩
  try simp only [pA, pB, p1, p2, p3]
  refine WL.nil ?_
  try simp only [pA, pB, p1, p2, p3]
  have HBl : Hid (gk3 < wk4.heap.size) := by have h := HF4.out.box 1 _ _ _ rfl; exact h.lt
  clear HX HNS
  have HB5 : Hid (Box wk5 gk3 23 #[.slice none 0 0]) := HF.out.box 1 _ _ _ rfl
  have HK5 : Hid (Kept No w wk5) := HF.out.kept
  have HBw : Hid (w.heap.size ≤ gk3) := HF.out.low 1 _ _ _ rfl
  clear HF HF4
  generalize wk4.heap.size = s4 at HSqb HBl
  have hm2 : m ≤ 10000000000000 := by omega
  go_wp2
  refine (wpIn_wide (n := 3)).1 ?_
  refine' rf_B (F := Fence.wide) rfl (by omega) (gf := 30) (lb := #[.pointer (some ⟨lb, 0, none⟩)]) rfl trivial (enters_of Try.func30 (by kernel_rfl) rfl)
    (seq_mem Fence.wide (3 - 1) trivial rfl (by omega) lb sc m sa es hm2 HM.out wk5 HSq.out) nb_t (nb_b HSq.out (Nat.le_refl _)) (Below.refl _ _) (fun _ => rfl)
    (fun pre W => One w.heap.size gk3 wk5.heap.size (vals pre) W ∧ Kept No w W)
    (fun _ _ _ => False) ?own (fun _ _ _ _ _ hs _ _ => hs) ⟨⟨none, 0, HB5.out, Own.nil _ _ _ _, fun k e => absurd e At.none⟩, HK5.out⟩ (fun W o => (Kept.refl _ W).alloc o) 34 (fun x => #[.string x.1.nm, .int .i64 x.1.f0, .int .i64 x.1.f1, .int .i64 x.1.sz]) _ ?assign ?body ?done ?stop
  case own =>
    rintro pre A' B' row ⟨⟨a1, c1, h1, h2, h5⟩, h4⟩ hg hr
    have hr' : ∀ r, row = some r → ∃ o : Obj, A'.heap[r]? = some o ∧ o.isCells = false := fun r e => by obtain ⟨_, o, h, h'⟩ := hr r e; exact ⟨o, h, h'⟩
    exact ⟨⟨a1, c1, box_cells h1 hg hr', own_cells h2 hg hr', h5⟩, h4.grown hg (fun k e hk => by have := (hr k e).1; have := HK5.out.size; omega)⟩
  case assign =>
    intro l x W K vb hvb hK
    gi_wp2
    rw [← hvb]
    exact hK
  case stop =>
    rintro D c pre W hD hpre h _
    exact h.elim
  case body =>
    rintro l pre ⟨x2, hx⟩ vb W hl hlo ⟨⟨a1, c1, hb1, ho1, hat1⟩, hk⟩ hbv hlen
    have HAt : Hid (∀ k, At a1 k → wk5.heap.size ≤ k) := hat1
    have H5W : Hid (wk5.heap.size ≤ W.heap.size) := by
      obtain ⟨r, hr⟩ := hlo
      have := (Array.getElem?_eq_some_iff.1 hr).1
      show _ ≤ _
      omega
    clear hat1
    have hbv : Box W vb 34 x2.cells := hbv
    have HFx : Hid (vals (pre ++ [(⟨x2, hx⟩ : { x : En // x ∈ es })]) = vals pre ++ [x2]) := vals_snoc _ _
    have HPn : Hid ((vals pre).length < m) := by show _ < _; rw [vals_len]; exact hlen
    generalize hvp : vals pre = xs at hb1 ho1 HFx HPn
    clear hvp
    have H1 : Hid (Box W gk3 23 #[.slice a1 xs.length c1]) := hb1
    have O1 : Hid (Own 34 4 W w.heap.size a1 c1 xs.length (enL xs)) := ho1
    have HKW : Hid (Kept No w W) := hk
    have e1 : W.cell? ⟨gk3, 0, none⟩ = some (.slice a1 xs.length c1) := hb1.cell 0
    have v0 : W.cell? ⟨vb, 0, none⟩ = some (.string x2.nm) := hbv.cell 0
    have v1 : W.cell? ⟨vb, 1, none⟩ = some (.int .i64 x2.f0) := hbv.cell 1
    have v2 : W.cell? ⟨vb, 2, none⟩ = some (.int .i64 x2.f1) := hbv.cell 2
    have v3 : W.cell? ⟨vb, 3, none⟩ = some (.int .i64 x2.sz) := hbv.cell 3
    have HRW : Hid (w.heap.size ≤ W.heap.size) := hk.size
    clear hb1 ho1 hk hbv hlo hlen
    simp only
    gi_wp2_with (first
      | (gi_at_builtin
         refine wpIn_appV rfl _ _ 23 34 4 40 (.agg enZ.cells) Try.und22 Try.info54 rfl (by omega) rfl w.heap.size _ c1 a1 _ rfl (O1.out.no ((Kept.refl No W).alloc _)) ⟨W.heap.size, 0, none⟩ 1 1 x2.cs rfl rfl (cell_newL _ _ _) x2.oneL (by have := HPn.out; omega) (by have := HPn.out; omega) (by omega) (by have := HRW.out; simp; omega) (xs.length + 1) rfl ?_
         intro g1 d1 w6 HO6 HK6 HKo6 HAt6
         have HK16 : Hid (Kept (At a1) W w6) := ((((Kept.refl No W).alloc (.cells x2.cells 34))).of_no : Kept (At a1) W _).then HK6.out
         have hoff : ∀ k, At a1 k → k ≠ gk3 := fun k hk => box_row H1.out (by decide) O1.out hk
         have HB6 : Hid (Box w6 gk3 23 #[.slice a1 xs.length c1]) := H1.out.kept HK16.out (fun e => hoff _ e rfl)
         have f1 := HB6.out.frozen 0
         have e1' : w6.cell? ⟨gk3, 0, none⟩ = some (.slice a1 xs.length c1) := HB6.out.cell 0
         clear hoff e1 v0 v1 v2 v3))
    obtain ⟨W7, hW7⟩ : ∃ W7, W7 = w6.setCell ⟨gk3, 0, none⟩ (.slice (some ⟨g1, 0, none⟩) (xs.length + 1) d1) := ⟨_, rfl⟩
    have hke : Kept (fun k => k = gk3 ∨ At a1 k) W W7 := by
      rw [hW7]
      exact (HK16.out.mono (fun i _ e => .inr e)).setCell (p := ⟨gk3, 0, none⟩) (fun _ => .inl rfl) _
    have hko : KeepsOthers W W7 := by
      rw [hW7]
      exact ((KeepsOthers.alloc W _).trans HKo6.out).trans (KeepsOthers.setCell _ _ _)
    have hks : Kept (Only gk3) w6 W7 := by
      rw [hW7]
      exact (Kept.refl (Only gk3) w6).setCell (p := ⟨gk3, 0, none⟩) (fun _ => rfl) _
    have hbx : Box W7 gk3 23 #[.slice (some ⟨g1, 0, none⟩) (xs.length + 1) d1] := by
      rw [hW7]
      exact HB6.out.set 0 _
    rw [← hW7]
    have hbw := HBw.out
    have hbl := HBl.out
    have h55 := HSq.out
    refine ⟨hko.from _, hke.mono (fun i _ e f => ?_), ⟨some ⟨g1, 0, none⟩, d1, ?_, ?_, ?_⟩, HKW.out.trans hke (fun _ e => e) (fun i hi e => ?_)⟩
    · have h1 := HSqb.out i f
      have h2 := HSq.out.lt f
      rcases e with e | e
      · omega
      · have := HAt.out i e; omega
    · rw [HFx.out]
      simpa using hbx
    · rw [HFx.out, enL_app, enL_1]
      have := HO6.out.kept hks (fun k hk e => box_row HB6.out (by decide) HO6.out hk e)
      simpa using this
    · rintro k ⟨ad, e, rfl⟩
      cases e
      rcases HAt6.out with h | h
      · exact HAt.out _ h
      · have h1 := H5W.out
        have h2 : g1 = W.heap.size + 1 := by simpa using h
        show wk5.heap.size ≤ g1
        omega
    · rcases e with e | e
      · omega
      · have := O1.out.base e; omega
  case done =>
    rintro D ys W hD hys ⟨⟨a1, c1, hb1, ho1, hat1⟩, hk⟩ hK
    have hys : ys.map Subtype.val = es := hys
    have eys : vals ys = es := hys
    rw [eys] at hb1 ho1
    have e1 : W.cell? ⟨gk3, 0, none⟩ = some (.slice a1 es.length c1) := hb1.cell 0
    have O1 : Hid (Own 34 4 W w.heap.size a1 c1 es.length (enL es)) := ho1
    have HKW : Hid (Kept No w W) := hk
    have HD : Hid (W.heap[D]? = some (.deferred (some [])) ∧ wk5.heap.size ≤ D) := ⟨hK, hD⟩
    clear hb1 ho1 hk hK hD hys eys hat1
    go_wp2
    rw [HC.out]
    have hgr := grownBy_putObj' W D (.deferred none)
    have h5 := HK5.out.size
    have hDw := HD.out.2
    refine ⟨by simp, .inl ⟨_, _, rfl, run_takeDeferred HD.out.1, ?_⟩⟩
    refine ⟨.slice a1 es.length c1, ?_, ?_⟩
    · exact results_tmp (fn := Try.f37) rfl _ _ _
    · exact ⟨⟨a1, es.length, c1⟩, rfl, ⟨own_cells O1.out hgr (fun r e => by cases e; exact ⟨_, HD.out.1, rfl⟩), rfl⟩, HKW.out.grown hgr (fun k e hk => by cases e; omega)⟩

end Go.Proofs.Ytfemlnfknebalab
