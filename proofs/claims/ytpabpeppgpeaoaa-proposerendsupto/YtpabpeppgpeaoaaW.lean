import Derived.Test.YtpabpeppgpeaoaaV
import Derived.RangeFuncNested
import Derived.RangeFuncBound
import Derived.RangeFuncCalls
import Derived.RangeFuncLeaves
import Derived.RangeFuncBox
import Derived.Maps.AppendAt
import Derived.Sort.QuietTacIn
import Derived.Shelf.RegionOpen
import Derived.OwnWalkIn
import Derived.TacticsInMore
namespace Go.Proofs.Ytpabpeppgpeaoaa
open Go.RowKit Go.Shelf Gt
set_option linter.unusedVariables false
set_option linter.unusedSimpArgs false
attribute [local go_sem] Oper.semAt_some

theorem wpIn_appV {F : Fence} {nf : Nat} {ops : Array Oper} {rest : List Oper} {o : Oper} {a : Act} {w : World} {Q : Exit → Act → World → Prop} (hg : o.guard = none) (s x : Operand) (T E : TypeId) (c by' : Nat) (z : Value) (ht : Try.prog.underlying T = some (.slice E))
    (hinf : (Try.prog.info? E).map (fun i => (i.zero, i.size, i.bytes)) = some (some z, c, by')) (hzc : z.cells.size = c) (hc0 : 0 < c) (ho : o.op = .call { callee := Callee.builtin Builtin.append, args := #[s, x], argTypes := #[T, T] })
    (base n cap : Nat) (sa : Option Addr) (vs : List Value) (hs : a.eval s = .slice sa n cap) (hown : Own E c w base sa cap n vs) (ad : Addr) (m cc : Nat) (news : List Value) (hx : a.eval x = .slice (some ad) m cc) (hl : news.length = m * c) (hnews : ∀ j u, news[j]? = some u → w.cell? (ad.add j) = some u) (h1 : ∀ u ∈ news, u.oneCell' = true) (hbd : (n + m) * by' ≤ 140737488355328) (hb63 : n + m ≤ 9223372036854775807) (hm : 0 < m) (hbase : base ≤ w.heap.size) (k : Nat) (hk : n + m = k)
    (h : ∀ g' cap' w', Hid (Own E c w' base (some ⟨g', 0, none⟩) cap' k (vs ++ news)) → Hid (Kept (At sa) w w') → Hid (KeepsOthers w w') → Hid (At sa g' ∨ g' = w.heap.size) → wpListIn F nf Try.prog ops Q rest (a.put o.dst (.slice (some ⟨g', 0, none⟩) k cap')) w') : wpListIn F nf Try.prog ops Q (o :: rest) a w := by
  subst hk
  obtain ⟨i0, hi, hz0, hz1, hz2⟩ := info_parts hinf
  obtain ⟨v', w', hrun, r1, r2, _, r4⟩ := run_append_own_at (P := Try.prog) (w := w) base T o.type E i0 z c by' ht hi hz0 hz1 hz2 hzc hc0 (.slice sa n cap) n vs hown ad m cc news hl hnews h1 (by unfold maxLen; omega) hbd hbase
  have hk : Kept (At sa) w w' := (Kept.refl (At sa) w).grown r2 (fun k e hk => by
    cases sa with
    | none => cases e
    | some ad' => simp only [Value.ownBlock, Option.some.injEq] at e; exact ⟨ad', rfl, e⟩)
  have hko : KeepsOthers w w' := KeepsOthers.of_grownBy r2 fun j o ej hj => by
    rcases hown.2 with ⟨e, _⟩ | ⟨g, cap, cur, e, _, hgb, _⟩
    · rw [e] at ej; simp [Value.ownBlock] at ej
    · rw [e] at ej
      obtain rfl : g = j := by simpa [Value.ownBlock] using ej
      rw [hgb] at hj; cases hj; rfl
  rcases r1.2 with ⟨e, h0⟩ | ⟨g, cap', cur, e, _⟩
  · omega
  · subst e
    have h4 : At sa g ∨ g = w.heap.size := by
      rcases r4 with e | e
      · left
        cases sa with
        | none => simp [Value.ownBlock] at e
        | some ad' => simp only [Value.ownBlock, Option.some.injEq] at e; exact ⟨ad', rfl, e.symm⟩
      · right; simpa [Value.ownBlock] using e
    refine wpListIn_plain hg fun K hK' => ?_
    unfold Oper.wpIn
    refine ⟨?_, ?_⟩
    · simp [Oper.about, ho, resolve, Target.leads, Sem.run_pure]
    · rw [Oper.semAt_plain F _ _ (by rw [ho]; intro c hc'; cases hc')]
      simp [execOp, ho, resolve, invoke, builtin, hs, hx, hrun, Result.andThen]
      exact hK' _ _ (h g cap' w' r1 hk hko h4)

theorem own_cells {W W' : World} {row : Option Nat} {e c n₀ n cap : Nat} {a : Option Addr} {vs : List Value} (ho : Own e c W n₀ a cap n vs) (hg : W.grownBy W' row) (hr : ∀ r, row = some r → ∃ o : Obj, W.heap[r]? = some o ∧ o.isCells = false) : Own e c W' n₀ a cap n vs := by
  refine ho.kept (S := fun k => row = some k) ⟨hg.os, hg.tape, hg.output, hg.size, fun k hk hS => hg.block k hk (fun e => hS e.symm)⟩ (fun k hk e => ?_)
  obtain ⟨o, ho', hc⟩ := hr k e
  obtain ⟨ad, rfl, rfl⟩ := hk
  rcases ho.2 with ⟨e', _⟩ | ⟨g, cap', cur, e', _, hgb, _⟩
  · cases e'
  · cases e'
    rw [hgb] at ho'; cases ho'; cases hc
theorem box_cells {W W' : World} {row : Option Nat} {b t : Nat} {cs : Array Value} (hb : Box W b t cs) (hg : W.grownBy W' row) (hr : ∀ r, row = some r → ∃ o : Obj, W.heap[r]? = some o ∧ o.isCells = false) : Box W' b t cs :=
  (hg.block b hb.lt (fun e => by
    obtain ⟨o, ho', hc⟩ := hr b e.symm
    unfold Box at hb
    rw [hb] at ho'; cases ho'; cases hc)).trans hb



section
variable {F : Fence} {n : Nat} {P : Program}
/-- The same where the round's variable is laid down. -/
theorem rf_B {α : Type} {g : Operand} {ps : Array Tmp} {assign body : Code} {Q : Exit → Act → World → Prop} {a : Act} {w : World}
    (hro : F.round = none) (h1 : 1 ≤ n) {gf : Nat} {lb : Array Value} (hg : a.eval g = .func (.func gf) #[] lb) (hFg : F.fn gf) (eg : ∀ args w, (callFunc gf args).run P w = .ok (.enter gf args) w)
    {encs : α → Array Value} {Kp : World → World → Prop} {S Sp : List α → Prop} {N : Nat} {w0 : World} (hseq : SeqStopsK F (n - 1) P gf lb encs Kp S Sp N w0)
    (hKt : ∀ {A B C : World}, Kp A B → Kp B C → Kp A C) (hKb : ∀ (W : World) (l : Nat) (o o' : Obj), w.heap.size ≤ l → W.heap[l]? = some o → o.isCells = false → o.isWalk = false → Kp W (W.putObj l o')) (hb0 : Below w0.heap.size w0 w) (hps : ∀ x, (encs x).size = ps.size)
    (I : List α → World → Prop) (Ix : Code → List α → World → Prop) (hI : OwnFrom w.heap.size I) (hIx : ∀ c, OwnFrom w.heap.size (Ix c)) (h0 : I [] w) (hKa : ∀ W o, Kp W (W.alloc o)) (T : TypeId) (cs : α → Array Value) (a₁ : α → Nat → Act)
    (hassign : ∀ (l : Nat) (x : α) (W : World) (K : Act → World → Prop) (vb : Nat), vb = W.heap.size → K (a₁ x vb) (W.alloc (.cells (cs x) T)) →
      assign.wpIn (F.inRound l) (n - 1 - 1) P (Exit.then K (fun _ _ _ => False)) { tmps := (ps.zip (encs x)).foldl (fun t (p, v) => t.setIfInBounds p v) a.tmps, defers := [] } W)
    (hbody : ∀ (l : Nat) (pre : List α) (x : α) (vb : Nat) (W : World), w.heap.size ≤ l → (∃ r, W.heap[l]? = some (.loop r)) → I pre W → Box W vb T (cs x) → pre.length < N → body.wpIn (F.inRound l) (n - 1 - 1) P (ownPostG w.heap.size Kp I Ix (pre ++ [x]) W) (a₁ x vb) W)
    (hdone : ∀ (D : Nat) (xs : List α) (W : World), w.heap.size ≤ D → S xs → I xs W → W.heap[D]? = some (.deferred (some [])) → Q .normal { a with defers := { target := .collected D, args := #[] } :: a.defers } W)
    (hstop : ∀ (D : Nat) (c : Code) (pre : List α) (W : World), w.heap.size ≤ D → Sp pre → Ix c pre W → W.heap[D]? = some (.deferred (some [])) → c.wpIn F n P Q { a with defers := { target := .collected D, args := #[] } :: a.defers } W) :
    (Code.rangeFunc g ps assign body).wpIn F n P Q a w :=
  wpIn_rangeFunc_ownH hro h1 hg hFg eg hseq (fun h k => hKt h k) hKb hb0 hps I Ix hI hIx h0 (fun x a' W => ∃ vb, a' = a₁ x vb ∧ Box W vb T (cs x))
    (fun x a' _ A B row hs hg hr => by
      obtain ⟨vb, h1, h2⟩ := hs
      exact ⟨vb, h1, box_cells h2 hg (fun r e => by obtain ⟨_, o, h, h'⟩ := hr r e; exact ⟨o, h, h'⟩)⟩)
    (fun l pre x W K hi hK => hassign l x W K _ rfl (hK _ _ ((KeepsOthers.alloc W _).from _) (hKa W _) (hI.alloc _ hi) ⟨_, rfl, Box.new _ _ _⟩)) (fun l pre x a' W h1 h2 hi e => by obtain ⟨vb, e, hb⟩ := e; subst e; exact hbody l pre x vb W h1 h2 hi hb) hdone hstop


end
def ownV (v : Pv) : Vt := ⟨0, 0, v.mine.k, v.mine.cl, v.mine.op, v.mine.nm, v.mine.f0, v.mine.f1, v.mine.g0, v.mine.g1, v.mine.sz⟩
def vCmd (x : Vt) : Cm := ⟨x.k, x.cl, x.op, x.nm, x.f0, x.f1, x.g0, x.g1, x.sz⟩
def vL (l : List Vt) : List Value := l.flatMap vcs
theorem vL_len (l : List Vt) : (vL l).length = l.length * 11 := by
  induction l with
  | nil => rfl
  | cons m l ih => simp only [vL, List.flatMap_cons, List.length_append, List.length_cons] at *; rw [ih]; simp [vcs]; omega
theorem vL_snoc (l : List Vt) (m : Vt) : vL (l ++ [m]) = vL l ++ vcs m := by simp [vL]
theorem Try.und174' : Try.prog.underlying 174 = some (.slice 153) := by kernel_rfl
theorem Try.info153 : (Try.prog.info? 153).map (fun i => (i.zero, i.size, i.bytes)) = some (some (.agg (vcell vZ)), 11, 96) := by kernel_rfl
theorem Try.size174' : (Try.prog.info? 174).map (·.size) = some 1 := by kernel_rfl
theorem slice1_v (y : Vt) (w : World) : (Instr.buildSlice 174 1 #[(0, .agg (vcell y))]).run Try.prog w = .ok (.slice (some ⟨w.heap.size, 0, none⟩) 1 1) (w.alloc (.cells (vcell y) 153)) := by kernel_rfl
theorem Pv.partM (v : Pv) : Part v.cs 8 v.mine.cs := (Part.mid [.bool true, .int .i64 v.cl, .int .i64 v.op, .int .i64 v.ky.k, .int .i64 v.ky.a, .int .i64 v.ky.b, .int .i64 v.ky.c, v.ga.v] v.mine.cs [.int .i64 v.n, .int .i64 v.cl, .int .i64 v.top, .int .i64 v.rd, v.ph] rfl)
theorem load_pM {w : World} {p : Nat} {v : Pv} (h : Box w p 94 v.cells) : (loadVar 28 ⟨p, 8, none⟩).run Try.prog w = .ok (.agg v.mine.cells) w := run_load_part h v.partM Try.und28 rfl Try.size28
theorem store_174 {w : World} {g : Nat} {cur x : Value} (h : Box w g 174 #[cur]) (hx : x.cells = #[x]) (h1 : x.oneCell' = true) : (storeVar 174 ⟨g, 0, none⟩ x).run Try.prog w = .ok () (w.setRow g #[x]) :=
  run_store_at (cur := [cur]) (vs := [x]) h (by rw [hx]) Try.size174' (by simp) (by simpa using h1)
def One (n₀ ba s5 : Nat) (bs : List Vt) (W : World) : Prop := ∃ a c, Box W ba 174 #[.slice a bs.length c] ∧ Own 153 11 W n₀ a c bs.length (vL bs) ∧ ∀ k, At a k → k = n₀ ∨ s5 ≤ k
theorem vL_at : ∀ (l : List Vt) (i j : Nat) (y : Vt) (u : Value), l[i]? = some y → (vcs y)[j]? = some u → (vL l)[i * 11 + j]? = some u
  | [], i, j, y, u, h, _ => by simp at h
  | z :: l, 0, j, y, u, h, hu => by
    simp at h
    subst h
    have hj := (List.getElem?_eq_some_iff.1 hu).1
    simp only [vL, List.flatMap_cons, Nat.zero_mul, Nat.zero_add]
    rw [List.getElem?_append_left hj]
    exact hu
  | z :: l, i + 1, j, y, u, h, hu => by
    have := vL_at l i j y u (by simpa using h) hu
    have e : (i + 1) * 11 + j = 11 + (i * 11 + j) := by omega
    simp only [vL, List.flatMap_cons] at this ⊢
    rw [e, List.getElem?_append_right (by simp [vcs])]
    simpa [vcs] using this
theorem own_vts {W : World} {n₀ cap : Nat} {a : Option Addr} {bs : List Vt} (h : Own 153 11 W n₀ a cap bs.length (vL bs)) (h0 : 0 < bs.length) : ∃ g, a = some ⟨g, 0, none⟩ ∧ Vts W g 0 bs := by
  rcases h.cases (vL_len _) with ⟨rfl, _, e⟩ | ⟨g, rfl, _, hlt, sp, hg, _⟩
  · omega
  · refine ⟨g, rfl, fun i hi j u hu => ?_⟩
    have hb : Box W g 153 (vL bs ++ sp).toArray := hg
    have hp : bs[i]? = some (vAt bs i) := by unfold vAt; rw [List.getElem?_eq_getElem hi]; rfl
    have h1 := vL_at bs i j _ u hp hu
    have h2 := (List.getElem?_eq_some_iff.1 h1).1
    rw [hb.cell, List.getElem?_toArray, Nat.zero_add, List.getElem?_append_left h2, h1]
theorem own_cap {t : TypeId} {c : Nat} {w : World} {base : Nat} {a : Option Addr} {cap n : Nat} {vs : List Value} (h : Own t c w base a cap n vs) : n ≤ cap ∧ cap ≤ 9223372036854775807 := by
  rcases h.2 with ⟨hv, h0⟩ | ⟨g, cap', cur, hv, hb, hg, hle, hm, rest⟩
  · simp only [Value.slice.injEq] at hv; obtain ⟨_, _, rfl⟩ := hv; exact ⟨by omega, by omega⟩
  · simp only [Value.slice.injEq] at hv; obtain ⟨_, _, rfl⟩ := hv; exact ⟨hle, by unfold maxLen at hm; omega⟩
theorem load_VC {w : World} {g : Nat} {x : Vt} (h : Box w g 153 (vcell x)) : (loadVar 28 ⟨g, 2, none⟩).run Try.prog w = .ok (.agg (vCmd x).cells) w :=
  run_load_part h (Part.mid [.int .i64 x.n, .int .i64 x.b] (vCmd x).cs [] rfl) Try.und28 rfl Try.size28
theorem own_new1 (w : World) (cs : List Value) (T : TypeId) (hl : cs.length = 11) : Own T 11 (w.alloc (.cells cs.toArray T)) w.heap.size (some ⟨w.heap.size, 0, none⟩) 1 1 cs :=
  ⟨by omega, .inr ⟨w.heap.size, 1, cs.toArray, rfl, Nat.le_refl _, Box.new _ _ _, Nat.le_refl _, by unfold maxLen; omega, by simp [hl], by rw [List.take_of_length_le (by simp [hl])]⟩⟩
theorem vone' (v : Vt) : ∀ u ∈ vcs v, u.oneCell' = true := by simp [vcs, Value.oneCell']
set_option maxRecDepth 100000 in
set_option maxHeartbeats 4000000 in
theorem choice_any (p t b cap : Nat) (a : Option Addr) (v : Pv) (x : TS Vt) (w : World) (hp : Box w p 94 v.cells) (hT : Tal 170 Gt.V.ans w t b a cap x) (hc : cnt x ≤ 2000000) (h1 : 1 ≤ cnt x) :
    Calls Try.prog 82 #[.pointer (some ⟨p, 0, none⟩), .pointer (some ⟨t, 0, none⟩)] w (fun e w' => e = .returned (.agg (vCmd (bestV (ownV v :: (gotL x).map Prod.snd))).cells) ∧ Kept No w w') := by
  refine hideC fun C HC => ?_
  have HPW : Hid (Box w p 94 v.cells) := hp
  have HG : Hid (∀ W, Kept No w W → Calls Try.prog 92 #[.pointer (some ⟨t, 0, none⟩)] W (Gt.V.GotOut W (gotL x))) := fun W hk => Gt.V.gotten_any t b cap a x W (hT.no hk) (by omega)
  have hL : (gotL x).length ≤ 2000000 := by rw [gotL_len]; exact hc
  have hL1 : 1 ≤ (gotL x).length := by rw [gotL_len]; exact h1
  generalize gotL x = ps at HC HG hL hL1
  clear hp hT hc h1
  refine (callsIn_wide (n := 3)).1 ?_
  refine callsIn_of_wp_marks Try.func82 rfl trivial ?_ rfl
  refine wpIn_wide.2 ?_
  simp only [Try.ntmps82, List.size_toArray, List.length_cons, List.length_nil, Nat.reduceAdd, Nat.reduceSub, Array.replicate_succ, Array.replicate_zero, List.push_toArray, List.append_toArray, List.nil_append, List.cons_append]
  go_upto_region 0 with fail
  refine WL.start ?_
  refine wp_allocW 28 rfl cZ.cells zero28' w.heap.size rfl (by kernel_rfl) ?_
  try simp only [pS]
  refine WL.nil ?_
  try simp only [pS]
  obtain ⟨w1, hw1⟩ : ∃ w1, w1 = w.alloc (.cells cZ.cells 28) := ⟨_, rfl⟩
  rw [← hw1]
  have HA1 : Hid (Box w1 w.heap.size 28 cZ.cells) := by rw [hw1]; exact Box.new _ _ _
  have HK1 : Hid (Kept No w w1) := by rw [hw1]; exact (Kept.refl No w).alloc _
  have HP1 : Hid (Box w1 p 94 v.cells) := by rw [hw1]; exact HPW.out.alloc _
  obtain ⟨A, hA⟩ : ∃ A, A = w.heap.size := ⟨_, rfl⟩
  rw [← hA] at HA1 ⊢
  have HAw : Hid (w.heap.size ≤ A) := by show _ ≤ _; omega
  clear hw1 hA HPW
  go_upto_region 1 with fail
  refine WL.start <| uK (pV p 0) <| uK (pV p 0) <| uK (pV p 8) <| uL 28 ⟨p, 8, none⟩ (.agg v.mine.cells) (load_pM HP1.out) <| uW (.agg (vcell (ownV v))) (exec_build 153 _ rfl (vcell (ownV v)) (by kernel_rfl)) <| ?_
  try simp only [pS]
  refine uR (.slice (some ⟨w1.heap.size, 0, none⟩) 1 1) (w1.alloc (.cells (vcell (ownV v)) 153)) (exec_slice2 174 153 _ rfl (vcell (ownV v)) (.agg (vcell (ownV v))) (by kernel_rfl) (slice1_v _ _)) ?_
  try simp only [pS]
  obtain ⟨w2, hw2⟩ : ∃ w2, w2 = w1.alloc (.cells (vcell (ownV v)) 153) := ⟨_, rfl⟩
  rw [← hw2]
  have HR2 : Hid (Own 153 11 w2 w1.heap.size (some ⟨w1.heap.size, 0, none⟩) 1 1 (vcs (ownV v))) := by
    rw [hw2]
    exact own_new1 _ _ _ rfl
  have HA2 : Hid (Box w2 A 28 cZ.cells) := by rw [hw2]; exact HA1.out.alloc _
  have HK2 : Hid (Kept No w w2) := by rw [hw2]; exact HK1.out.alloc _
  have HS12 : Hid (w1.heap.size < w2.heap.size) := by rw [hw2]; show _ < _; simp
  have HA1l : Hid (A < w1.heap.size) := HA1.out.lt
  obtain ⟨R, hR⟩ : ∃ R, R = w1.heap.size := ⟨_, rfl⟩
  rw [← hR] at HR2 HS12 HA1l ⊢
  clear hw2 hR HA1 HK1 HP1
  refine uR (pV w2.heap.size 0) (w2.alloc (.cells #[.slice none 0 0] 174)) (by kernel_rfl) ?_
  try simp only [pS]
  obtain ⟨w3, hw3⟩ : ∃ w3, w3 = w2.alloc (.cells #[.slice none 0 0] 174) := ⟨_, rfl⟩
  rw [← hw3]
  have HB3 : Hid (Box w3 w2.heap.size 174 #[.slice none 0 0]) := by rw [hw3]; exact Box.new _ _ _
  have HR3 : Hid (Own 153 11 w3 R (some ⟨R, 0, none⟩) 1 1 (vcs (ownV v))) := by rw [hw3]; exact HR2.out.no ((Kept.refl No w2).alloc _)
  have HA3 : Hid (Box w3 A 28 cZ.cells) := by rw [hw3]; exact HA2.out.alloc _
  have HK3 : Hid (Kept No w w3) := by rw [hw3]; exact HK2.out.alloc _
  obtain ⟨B, hB⟩ : ∃ B, B = w2.heap.size := ⟨_, rfl⟩
  rw [← hB] at HB3 HS12 ⊢
  have HBw : Hid (w.heap.size ≤ B ∧ A < R ∧ R < B) := ⟨by have := HK2.out.size; omega, HA1l.out, HS12.out⟩
  clear hw3 hB HR2 HA2 HK2 HS12 HA1l
  refine uT 174 ⟨B, 0, none⟩ (.slice (some ⟨R, 0, none⟩) 1 1) _ (store_174 HB3.out rfl rfl) ?_
  try simp only [pS]
  refine WL.nil ?_
  try simp only [pS]
  obtain ⟨w4, hw4⟩ : ∃ w4, w4 = w3.setRow B #[.slice (some ⟨R, 0, none⟩) 1 1] := ⟨_, rfl⟩
  rw [← hw4]
  have HB4 : Hid (Box w4 B 174 #[.slice (some ⟨R, 0, none⟩) 1 1]) := by rw [hw4]; exact HB3.out.setRow _
  have HA4 : Hid (Box w4 A 28 cZ.cells) := by rw [hw4]; exact HA3.out.rowNe (by have := HBw.out; omega) _
  have HR4 : Hid (Own 153 11 w4 R (some ⟨R, 0, none⟩) 1 1 (vcs (ownV v))) := by
    rw [hw4]
    exact HR3.out.kept (Kept.setRow _ _ _) (fun k e f => by obtain ⟨ad, e1, rfl⟩ := e; cases e1; have f : R = B := f; have := HBw.out; omega)
  have HK4 : Hid (Kept No w w4) := by rw [hw4]; exact HK3.out.newRow HBw.out.1 _
  clear hw4 HB3 HA3 HR3 HK3
  go_upto_region 2 with fail
  refine WL.start <| uK (pV t 0) <| ?_
  try simp only [pS]
  refine uC 92 #[pV t 0] (HG.out w4 HK4.out) ?_
  rintro e w5 ⟨sa, sc, rfl, hb5, ho5, hk5⟩
  have HSq : Hid (Gt.V.SeqAt w5 w4.heap.size sa sc ps) := ⟨hb5, Own.lower ho5 (Nat.zero_le _)⟩
  have HSqb : Hid (∀ k, Gt.V.SB w4.heap.size sa k → w4.heap.size ≤ k) := fun k hk => by
    rcases hk with rfl | hk
    · exact Nat.le_refl _
    · exact ho5.base hk
  have HB5 : Hid (Box w5 B 174 #[.slice (some ⟨R, 0, none⟩) 1 1]) := HB4.out.kept hk5 (fun e => e)
  have HA5 : Hid (Box w5 A 28 cZ.cells) := HA4.out.kept hk5 (fun e => e)
  have HR5 : Hid (Own 153 11 w5 R (some ⟨R, 0, none⟩) 1 1 (vcs (ownV v))) := HR4.out.no hk5
  have HK5 : Hid (Kept No w w5) := HK4.out.then hk5
  have HBl : Hid (B < w4.heap.size) := HB4.out.lt
  refine ⟨.func (.func 96) #[] #[.pointer (some ⟨w4.heap.size, 0, none⟩)], rfl, ?_⟩
  try simp only [pS]
  refine WL.nil ?_
  try simp only [pS]
  clear hb5 ho5 hk5 HB4 HA4 HR4 HG
  generalize w4.heap.size = lb at HSq HSqb HBl ⊢
  clear HK4
  obtain ⟨m, hm⟩ : ∃ m, m = ps.length := ⟨_, rfl⟩
  have HM : Hid (ps.length = m) := hm.symm
  have hm2 : m ≤ 2000000 := by omega
  have hm3 : 1 ≤ m := by omega
  clear hm hL hL1
  have HlW : Hid (lb < w5.heap.size) := HSq.out.box.lt
  go_wp2
  refine (wpIn_wide (n := 3)).1 ?_
  refine' rf_B (F := Fence.wide) rfl (by omega) (gf := 96) (lb := #[.pointer (some ⟨lb, 0, none⟩)]) rfl trivial (enters_of Try.func96 (by kernel_rfl) rfl)
    (Gt.V.seq_mem Fence.wide (3 - 1) trivial rfl (by omega) lb sc m sa ps (by omega) HM.out w5 HSq.out) Gt.V.nb_t (Gt.V.nb_b HSq.out (Nat.le_refl _)) (Below.refl _ _) (fun _ => rfl)
    (fun pre W => One R B w5.heap.size (ownV v :: pre.map (fun y => y.1.2)) W ∧ Box W A 28 cZ.cells ∧ Kept No w W)
    (fun _ _ _ => False) ?own (fun _ _ _ _ _ hs _ _ => hs) ⟨⟨some ⟨R, 0, none⟩, 1, HB5.out, by simpa [vL] using HR5.out, fun k e => by obtain ⟨ad, e1, rfl⟩ := e; cases e1; exact .inl rfl⟩, HA5.out, HK5.out⟩ (fun W o => (Kept.refl _ W).alloc o) 153 (fun x => vcell x.1.2) _ ?assign ?body ?done ?stop
  case own =>
    rintro pre A' B' row ⟨⟨a1, c1, h1, h2, h5⟩, h3, h4⟩ hg hr
    have hr' : ∀ r, row = some r → ∃ o : Obj, A'.heap[r]? = some o ∧ o.isCells = false := fun r e => by obtain ⟨_, o, h, h'⟩ := hr r e; exact ⟨o, h, h'⟩
    exact ⟨⟨a1, c1, box_cells h1 hg hr', own_cells h2 hg hr', h5⟩, box_cells h3 hg hr', h4.grown hg (fun k e hk => by have := (hr k e).1; have := HK5.out.size; omega)⟩
  case assign =>
    intro l x W K vb hvb hK
    gi_wp2
    rw [← hvb]
    exact hK
  case stop =>
    rintro D c pre W hD hpre h _
    exact h.elim
  case body =>
    rintro l pre ⟨⟨x1, x2⟩, hx⟩ vb W hl hlo ⟨⟨a1, c1, hb1, ho1, hat1⟩, hb0, hk⟩ hbv hlen
    have HAt : Hid (∀ k, At a1 k → k = R ∨ w5.heap.size ≤ k) := hat1
    have H5W : Hid (w5.heap.size ≤ W.heap.size) := by
      obtain ⟨r, hr⟩ := hlo
      have := (Array.getElem?_eq_some_iff.1 hr).1
      show _ ≤ _
      omega
    clear hat1
    have hbv : Box W vb 153 (vcell x2) := hbv
    have HF : Hid (ownV v :: (pre ++ [(⟨(x1, x2), hx⟩ : { x : Int × Vt // x ∈ ps })]).map (fun y => y.1.2) = (ownV v :: pre.map (fun y => y.1.2)) ++ [x2]) := by show _ = _; simp
    have HPn : Hid ((ownV v :: pre.map (fun y => y.1.2)).length ≤ 2000000) := by show _ ≤ _; simp; omega
    generalize (ownV v :: pre.map (fun y => y.1.2)) = xs at hb1 ho1 HF HPn
    have H1 : Hid (Box W B 174 #[.slice a1 xs.length c1]) := hb1
    have O1 : Hid (Own 153 11 W R a1 c1 xs.length (vL xs)) := ho1
    have H0 : Hid (Box W A 28 cZ.cells) := hb0
    have HKW : Hid (Kept No w W) := hk
    have e1 : W.cell? ⟨B, 0, none⟩ = some (.slice a1 xs.length c1) := hb1.cell 0
    have v0 : W.cell? ⟨vb, 0, none⟩ = some (.int .i64 x2.n) := hbv.cell 0
    have v1 : W.cell? ⟨vb, 1, none⟩ = some (.int .i64 x2.b) := hbv.cell 1
    have v2 : W.cell? ⟨vb, 2, none⟩ = some (.int .i64 x2.k) := hbv.cell 2
    have v3 : W.cell? ⟨vb, 3, none⟩ = some (.int .i64 x2.cl) := hbv.cell 3
    have v4 : W.cell? ⟨vb, 4, none⟩ = some (.int .i64 x2.op) := hbv.cell 4
    have v5 : W.cell? ⟨vb, 5, none⟩ = some (.string x2.nm) := hbv.cell 5
    have v6 : W.cell? ⟨vb, 6, none⟩ = some (.int .i64 x2.f0) := hbv.cell 6
    have v7 : W.cell? ⟨vb, 7, none⟩ = some (.int .i64 x2.f1) := hbv.cell 7
    have v8 : W.cell? ⟨vb, 8, none⟩ = some (.int .i64 x2.g0) := hbv.cell 8
    have v9 : W.cell? ⟨vb, 9, none⟩ = some (.int .i64 x2.g1) := hbv.cell 9
    have v10 : W.cell? ⟨vb, 10, none⟩ = some (.int .i64 x2.sz) := hbv.cell 10
    have HRW : Hid (R ≤ W.heap.size) := by have h1 := hb1.lt; have h2 := HBw.out; show _ ≤ _; omega
    clear hb1 ho1 hb0 hk hbv hlo hlen
    simp only
    gi_wp2_with (first
      | (gi_at_builtin
         refine wpIn_appV rfl _ _ 174 153 11 96 (.agg (vcell vZ)) Try.und174' Try.info153 rfl (by omega) rfl R _ c1 a1 _ rfl (O1.out.no ((Kept.refl No W).alloc _)) ⟨W.heap.size, 0, none⟩ 1 1 (vcs x2) rfl rfl (cell_newL _ _ _) (vone' x2) (by have := HPn.out; omega) (by have := HPn.out; omega) (by omega) (by have := HRW.out; simp; omega) (xs.length + 1) rfl ?_
         intro g1 d1 w6 HO6 HK6 HKo6 HAt6
         have HK16 : Hid (Kept (At a1) W w6) := ((((Kept.refl No W).alloc (.cells (vcell x2) 153))).of_no : Kept (At a1) W _).then HK6.out
         have hoff : ∀ k, At a1 k → k ≠ B := fun k hk => box_row H1.out (by decide) O1.out hk
         have hoff0 : ∀ k, At a1 k → k ≠ A := fun k hk => box_row H0.out (by decide) O1.out hk
         have HB6 : Hid (Box w6 B 174 #[.slice a1 xs.length c1]) := H1.out.kept HK16.out (fun e => hoff _ e rfl)
         have HZ6 : Hid (Box w6 A 28 cZ.cells) := H0.out.kept HK16.out (fun e => hoff0 _ e rfl)
         have f1 := HB6.out.frozen 0
         have e1' : w6.cell? ⟨B, 0, none⟩ = some (.slice a1 xs.length c1) := HB6.out.cell 0
         clear hoff hoff0 e1 v0 v1 v2 v3 v4 v5 v6 v7 v8 v9 v10))
    obtain ⟨W7, hW7⟩ : ∃ W7, W7 = w6.setCell ⟨B, 0, none⟩ (.slice (some ⟨g1, 0, none⟩) (xs.length + 1) d1) := ⟨_, rfl⟩
    have hke : Kept (fun k => k = B ∨ At a1 k) W W7 := by
      rw [hW7]
      exact (HK16.out.mono (fun i _ e => .inr e)).setCell (p := ⟨B, 0, none⟩) (fun _ => .inl rfl) _
    have hko : KeepsOthers W W7 := by
      rw [hW7]
      exact ((KeepsOthers.alloc W _).trans HKo6.out).trans (KeepsOthers.setCell _ _ _)
    have hks : Kept (Only B) w6 W7 := by
      rw [hW7]
      exact (Kept.refl (Only B) w6).setCell (p := ⟨B, 0, none⟩) (fun _ => rfl) _
    have hbx : Box W7 B 174 #[.slice (some ⟨g1, 0, none⟩) (xs.length + 1) d1] := by
      rw [hW7]
      exact HB6.out.set 0 _
    rw [← hW7]
    have hbw := HBw.out
    have haw := HAw.out
    have hbl := HBl.out
    refine ⟨hko.from _, hke.mono (fun i _ e f => ?_), ⟨some ⟨g1, 0, none⟩, d1, ?_, ?_, ?_⟩, HZ6.out.kept hks (fun e => by have e : A = B := e; omega), HKW.out.trans hke (fun _ e => e) (fun i hi e => ?_)⟩
    · have h1 := HSqb.out i f
      have h2 := HSq.out.lt f
      rcases e with e | e
      · omega
      · rcases HAt.out i e with h | h <;> omega
    · rw [HF.out]
      simpa using hbx
    · rw [HF.out, vL_snoc]
      have := HO6.out.kept hks (fun k hk e => box_row HB6.out (by decide) HO6.out hk e)
      simpa using this
    · rintro k ⟨ad, e, rfl⟩
      cases e
      rcases HAt6.out with h | h
      · exact HAt.out _ h
      · right
        have h1 := H5W.out
        have h2 : g1 = W.heap.size + 1 := by simpa using h
        show w5.heap.size ≤ g1
        omega
    · rcases e with e | e
      · omega
      · have := O1.out.base e; omega
  case done =>
    rintro D ys W hD hys ⟨⟨a1, c1, hb1, ho1, hat1⟩, hb0, hk⟩ hK
    have hys : ys.map Subtype.val = ps := hys
    have eys : ys.map (fun y => y.1.2) = ps.map Prod.snd := by
      have h := congrArg (List.map Prod.snd) hys
      rw [List.map_map] at h
      exact h
    rw [eys] at hb1 ho1
    have hbl : (ownV v :: ps.map Prod.snd).length = m + 1 := by simp; exact HM.out
    obtain ⟨bs, hbs⟩ : ∃ bs, bs = ownV v :: ps.map Prod.snd := ⟨_, rfl⟩
    rw [← hbs] at hb1 ho1 hbl
    rw [← hbs] at HC
    obtain ⟨hcap1, hcap2⟩ := own_cap ho1
    obtain ⟨g, rfl, hvt⟩ := own_vts ho1 (by omega)
    have HBL : Hid (bs.length = m + 1) := hbl
    rw [hbl] at hb1 hcap1
    have H1 : Hid (Box W B 174 #[.slice (some ⟨g, 0, none⟩) (m + 1) c1]) := hb1
    have H0 : Hid (Box W A 28 cZ.cells) := hb0
    have HKW : Hid (Kept No w W) := hk
    have HD : Hid (W.heap[D]? = some (.deferred (some [])) ∧ w5.heap.size ≤ D) := ⟨hK, hD⟩
    have HBt : Hid (Calls Try.prog 95 #[.func (.func 93) #[] #[], .slice (some ⟨g, 0, none⟩) (m + 1) c1] W (BestOut W bs)) := best_any g 0 m c1 bs W hbl (by omega) hcap1 (by omega) hcap2 hvt
    clear hb1 ho1 hb0 hk hK hD hcap1 hcap2 hbs hbl hys eys hat1 hvt
    go_upto_region 6 with fail
    refine WL.start <| uK (.func (.func 93) #[] #[]) <| uL 174 ⟨B, 0, none⟩ (.slice (some ⟨g, 0, none⟩) (m + 1) c1) (load_one (H1.out.cell 0) Try.und174' rfl) <| ?_
    try simp only [pS]
    refine uC 95 #[.func (.func 93) #[] #[], .slice (some ⟨g, 0, none⟩) (m + 1) c1] HBt.out ?_
    rintro e w7 ⟨rfl, hk7⟩
    have HK7 : Hid (Kept No W w7) := hk7
    refine ⟨.tuple #[.agg (vcell (bestV bs)), .bool true], rfl, ?_⟩
    clear hk7
    try simp only [pS]
    refine uK (.tuple #[.agg (vcell (bestV bs)), .bool true]) <| uK (.agg (vcell (bestV bs))) <| uK (.bool true) <| ?_
    try simp only [pS]
    refine wp_allocW 153 rfl (vcell vZ) zero153 w7.heap.size rfl (by kernel_rfl) ?_
    try simp only [pS]
    obtain ⟨w8, hw8⟩ : ∃ w8, w8 = w7.alloc (.cells (vcell vZ) 153) := ⟨_, rfl⟩
    rw [← hw8]
    have HE8 : Hid (Box w8 w7.heap.size 153 (vcell vZ)) := by rw [hw8]; exact Box.new _ _ _
    have HK8 : Hid (Kept No W w8) := by rw [hw8]; exact HK7.out.alloc _
    have hEs : W.heap.size ≤ w7.heap.size := HK7.out.size
    obtain ⟨E, hE⟩ : ∃ E, E = w7.heap.size := ⟨_, rfl⟩
    rw [← hE] at HE8 ⊢
    have HEw : Hid (W.heap.size ≤ E) := by show _ ≤ _; omega
    clear hw8 hE HK7 hEs
    refine uT 153 ⟨E, 0, none⟩ (.agg (vcell (bestV bs))) _ (store_V HE8.out rfl) ?_
    try simp only [pS]
    refine uK (.bool true) <| WL.nil <| ?_
    try simp only [pS]
    obtain ⟨w9, hw9⟩ : ∃ w9, w9 = w8.setRow E (vcell (bestV bs)) := ⟨_, rfl⟩
    rw [← hw9]
    have HE9 : Hid (Box w9 E 153 (vcell (bestV bs))) := by rw [hw9]; exact HE8.out.setRow _
    have HK9 : Hid (Kept No W w9) := by rw [hw9]; exact HK8.out.newRow HEw.out _
    have HA9 : Hid (Box w9 A 28 cZ.cells) := H0.out.kept HK9.out (fun e => e)
    clear hw9 HE8 HK8
    go_upto_region 7 with fail
    refine WL.start <| uK (pV E 2) <| uL 28 ⟨E, 2, none⟩ (.agg (vCmd (bestV bs)).cells) (load_VC HE9.out) <| ?_
    try simp only [pS]
    refine uT 28 ⟨A, 0, none⟩ (.agg (vCmd (bestV bs)).cells) _ (store_C HA9.out rfl) ?_
    try simp only [pS]
    refine WL.nil ?_
    try simp only [pS]
    obtain ⟨wz, hwz⟩ : ∃ wz, wz = w9.setRow A (vCmd (bestV bs)).cells := ⟨_, rfl⟩
    rw [← hwz]
    have HAz : Hid (Box wz A 28 (vCmd (bestV bs)).cells) := by rw [hwz]; exact HA9.out.setRow _
    have HKz : Hid (Kept (Only A) W wz) := by rw [hwz]; exact (HK9.out.of_no : Kept (Only A) W w9).then (Kept.setRow _ _ _)
    clear hwz HE9 HK9 HA9
    go_wp2
    rw [HC.out]
    have hDl := (Array.getElem?_eq_some_iff.1 HD.out.1).1
    have hDA : D ≠ A := fun e => by
      have h1 := H0.out
      unfold Box at h1
      have h2 := HD.out.1
      rw [e, h1] at h2
      cases h2
    have hKd : wz.heap[D]? = some (.deferred (some [])) := (HKz.out.block D hDl hDA).trans HD.out.1
    have hgr := grownBy_putObj' wz D (.deferred none)
    have hF := box_cells HAz.out hgr (fun r e => by cases e; exact ⟨_, hKd, rfl⟩)
    have h5 := HK5.out.size
    have hDw := HD.out.2
    have haw := HAw.out
    refine ⟨by simp, .inl ⟨_, _, rfl, run_takeDeferred hKd, ?_⟩⟩
    refine ⟨.agg (vCmd (bestV bs)).cells, ?_, ?_⟩
    · exact results_row1 (fn := Try.f82) (p := 4) (t := 28) rfl _ _ A (vCmd (bestV bs)).cells rfl (load_C hF)
    · exact ⟨rfl, (HKW.out.trans HKz.out (fun _ e => e) (fun i hi e => by have e : i = A := e; omega)).grown hgr (fun k e hk => by cases e; omega)⟩

end Go.Proofs.Ytpabpeppgpeaoaa
