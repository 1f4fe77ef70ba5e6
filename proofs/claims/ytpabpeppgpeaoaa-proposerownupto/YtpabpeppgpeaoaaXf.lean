import Derived.Test.YtpabpeppgpeaoaaXe
namespace Go.Proofs.Ytpabpeppgpeaoaa.Md
open Go.RowKit Gt Gx
set_option linter.unusedVariables false
set_option linter.unusedSimpArgs false

namespace Gx
section
variable {α : Type} {D : Kn α}
/-- Lists that grow in turns, whatever else is written. -/
structure Gy (D : Kn α) (w wr : World) (lo : Nat) (K : List Sl) (ma : Option Addr) (mc : Nat) (M : List Sl) (c : Nat → Nat) : Prop where
  wsz : w.heap.size ≤ wr.heap.size
  more : Rw D wr w.heap.size ma mc M
  len : M.length = K.length
  each : ∀ (q : Nat) (e f : Sl), K[q]? = some e → M[q]? = some f → f.l = e.l + c q ∧ OwG D wr lo e.a e.k (marksOf D q e.l) ∧ OwG D wr lo f.a f.k (marksOf D q e.l ++ growsOf D q (c q)) ∧ (f.a = e.a ∨ ∀ k, At f.a k → w.heap.size ≤ k) ∧ e.l ≤ 2000000
  dis : ∀ (i j : Nat) (e f : Sl) (g : Nat), M[i]? = some e → M[j]? = some f → At e.a g → At f.a g → i = j
  old : ∀ (q : Nat) (e : Sl) (k : Nat), K[q]? = some e → At e.a k → k < w.heap.size
  odis : ∀ (i j : Nat) (e f : Sl) (g : Nat), K[i]? = some e → K[j]? = some f → At e.a g → At f.a g → i = j
/-- Nothing of a kind's is written. -/
def Off (D : Kn α) (wr : World) (T : Nat → Prop) : Prop := ∀ k, T k → ∀ cur, ¬ Box wr k D.E cur ∧ ¬ Box wr k D.R cur
theorem OwG.off {T : Nat → Prop} {wr w' : World} {lo : Nat} {a : Option Addr} {k : Nat} {zs : List α} (h : OwG D wr lo a k zs) (hk : Kept T wr w') (hT : Off D wr T) : OwG D w' lo a k zs := h.kept hk (fun q hq e => by obtain ⟨cs, hb⟩ := h.ty hq; exact (hT q e cs).1 hb)
theorem Rw.off {T : Nat → Prop} {wr w' : World} {base : Nat} {a : Option Addr} {c : Nat} {K : List Sl} (h : Rw D wr base a c K) (hk : Kept T wr w') (hT : Off D wr T) : Rw D w' base a c K := h.kept hk (fun q hq e => by obtain ⟨cs, hb⟩ := h.ty hq; exact (hT q e cs).2 hb)
theorem Erow.off {T : Nat → Prop} {wr w' : World} {lo : Nat} {K : List Sl} {Z : Nat → List α} (h : Erow D wr lo K Z) (hk : Kept T wr w') (hT : Off D wr T) : Erow D w' lo K Z := ⟨fun i e he => ⟨(h.ok i e he).1, (h.ok i e he).2.1.off hk hT, (h.ok i e he).2.2⟩, h.dis⟩
theorem Off.no {wr : World} : Off D wr No := fun _ e => e.elim
theorem Gy.off {T : Nat → Prop} {w wr w' : World} {lo : Nat} {K : List Sl} {ma : Option Addr} {mc : Nat} {M : List Sl} {c : Nat → Nat} (h : Gy D w wr lo K ma mc M c) (hk : Kept T wr w') (hT : Off D wr T) : Gy D w w' lo K ma mc M c :=
  ⟨Nat.le_trans h.wsz hk.size, h.more.off hk hT, h.len, fun q e f he hf => ⟨(h.each q e f he hf).1, (h.each q e f he hf).2.1.off hk hT, (h.each q e f he hf).2.2.1.off hk hT, (h.each q e f he hf).2.2.2⟩, h.dis, h.old, h.odis⟩
/-- The marks are laid: lists below i, and i's up to j. -/
def Pm (D : Kn α) (wr : World) (lo : Nat) (K : List Sl) (i j : Nat) : Prop := ∃ Z, Erow D wr lo K Z ∧ (∀ q, q < i → Z q = marksOf D q (Z q).length) ∧ (Z i).take j = marksOf D i j
theorem Pm.off {T : Nat → Prop} {wr w' : World} {lo : Nat} {K : List Sl} {i j : Nat} (h : Pm D wr lo K i j) (hk : Kept T wr w') (hT : Off D wr T) : Pm D w' lo K i j := by
  obtain ⟨Z, h1, h2, h3⟩ := h
  exact ⟨Z, h1.off hk hT, h2, h3⟩
theorem Pm.next {wr : World} {lo : Nat} {K : List Sl} {i : Nat} {e : Sl} (h : Pm D wr lo K i e.l) (he : K[i]? = some e) : Pm D wr lo K (i + 1) 0 := by
  obtain ⟨Z, h1, h2, h3⟩ := h
  refine ⟨Z, h1, fun q hq => ?_, by simp [marksOf]⟩
  by_cases e1 : q = i
  · subst e1
    have hl := (h1.ok q e he).1
    rw [hl, ← h3, List.take_of_length_le (by omega)]
  · exact h2 q (by omega)
theorem Pm.sm {wr : World} {lo : Nat} {K : List Sl} {i j : Nat} (h : Pm D wr lo K i j) {e : Sl} (he : K[i]? = some e) (hj : j < e.l) : ∃ g, e.a = some ⟨g, 0, none⟩ := by
  obtain ⟨Z, h3, _⟩ := h
  obtain ⟨hl, ho, _⟩ := h3.ok i e he
  exact Own.sm ho (by omega)
theorem Pm.le {wr : World} {lo : Nat} {K : List Sl} {i j q : Nat} (h : Pm D wr lo K i j) {e : Sl} (he : K[q]? = some e) : e.l ≤ 2000000 := by
  obtain ⟨Z, h3, _⟩ := h
  exact (h3.ok q e he).2.2
theorem Pm.set {wr : World} {lo : Nat} {K : List Sl} {i j : Nat} (h : Pm D wr lo K i j) {e : Sl} (he : K[i]? = some e) (hj : j < e.l) {g : Nat} (ha : e.a = some ⟨g, 0, none⟩) {v : Value} (hv : v.cells = (D.cs (D.mm i j)).toArray) (hz : (Try.prog.info? D.E).map (·.size) = some D.c) (hone : ∀ u ∈ D.cs (D.mm i j), u.oneCell' = true) :
    ∃ cs', (storeVar D.E ⟨g, 0 + j * D.c, none⟩ v).run Try.prog wr = .ok () (wr.setRow g cs') ∧ Pm D (wr.setRow g cs') lo K i (j + 1) ∧ ∃ cur, Box wr g D.E cur := by
  obtain ⟨Z, h3, h4, h5⟩ := h
  obtain ⟨cs', hr, hE⟩ := h3.set he ha hj (D.mm i j) hv hz hone
  refine ⟨cs', hr, ⟨_, hE, fun q hq => ?_, ?_⟩, Own.ty (h3.ok i e he).2.1 ⟨_, ha, rfl⟩⟩
  · have : ¬ q = i := by omega
    simp only [if_neg this]
    exact h4 q hq
  · simp only [if_true]
    exact take_set_marks h5 (by rw [(h3.ok i e he).1]; exact hj)
theorem Gy.start {w wr : World} {lo : Nat} {K : List Sl} {ma : Option Addr} {mc n : Nat} (h : Pm D wr lo K n 0) (hn : K.length = n) (hE : ∃ Z, Erow D w lo K Z) (hs : w.heap.size ≤ wr.heap.size) (hm : Rw D wr w.heap.size ma mc K) : Gy D w wr lo K ma mc K (fun _ => 0) := by
  obtain ⟨Z, h3, h4, _⟩ := h
  obtain ⟨Z0, hE⟩ := hE
  refine ⟨hs, hm, rfl, fun q e f he hf => ?_, h3.dis, fun q e k he ha => (hE.lo ⟨e, List.mem_of_getElem? he, ha⟩).2.1, h3.dis⟩
  rw [he] at hf
  cases hf
  have hq : q < n := by rw [← hn]; exact (List.getElem?_eq_some_iff.1 he).1
  have h5 := h3.ok q e he
  have h6 := h4 q hq
  rw [h5.1] at h6
  have h7 : OwG D wr lo e.a e.k (marksOf D q e.l) := by rw [← h6]; exact h5.2.1
  exact ⟨rfl, h7, by simpa [growsOf] using h7, .inl rfl, h5.2.2⟩
/-- One is appended to list i, and what comes of it is put back into the row. -/
theorem Gy.grow {w wr : World} {lo : Nat} {K : List Sl} {mg : Nat} {mc : Nat} {M : List Sl} {c : Nat → Nat} (h : Gy D w wr lo K (some ⟨mg, 0, none⟩) mc M c) {i : Nat} {e f : Sl} (he : K[i]? = some e) (hf : M[i]? = some f) {by' : Nat} {z : Value} (ht : Try.prog.underlying D.R = some (.slice D.E))
    (hinf : (Try.prog.info? D.E).map (fun i => (i.zero, i.size, i.bytes)) = some (some z, D.c, by')) (hzc : z.cells.size = D.c) (h1 : ∀ u ∈ D.cs (D.mr i (c i)), u.oneCell' = true) (hby : by' ≤ 1000) (hci : c i ≤ 1000) (hlo : lo ≤ wr.heap.size) (hR : (Try.prog.info? D.R).map (·.size) = some 1) :
    ∃ a4 c4 w4 cs', (Builtin.append_ #[D.R, D.R] D.R #[.slice f.a f.l f.k, .slice (some ⟨wr.heap.size, 0, none⟩) 1 1]).run Try.prog (wr.alloc (.cells (D.cs (D.mr i (c i))).toArray D.E)) = .ok (.slice a4 (f.l + 1) c4) w4 ∧
      (storeVar D.R ⟨mg, 0 + i * 1, none⟩ (.slice a4 (f.l + 1) c4)).run Try.prog w4 = .ok () (w4.setRow mg cs') ∧ Gy D w (w4.setRow mg cs') lo K (some ⟨mg, 0, none⟩) mc (M.set i ⟨a4, f.l + 1, c4⟩) (fun q => if q = i then c i + 1 else c q) ∧ Kept (fun k => At f.a k ∨ k = mg) wr (w4.setRow mg cs') := by
  obtain ⟨x, hx⟩ : ∃ x, x = D.mr i (c i) := ⟨_, rfl⟩
  rw [← hx] at h1 ⊢
  have hk1 : Kept No wr (wr.alloc (.cells (D.cs x).toArray D.E)) := (Kept.refl No _).alloc _
  have hbx := Box.new wr D.E (D.cs x).toArray
  have hsz1 : (wr.alloc (.cells (D.cs x).toArray D.E)).heap.size = wr.heap.size + 1 := by simp
  obtain ⟨hfl, ho, hn, hwh, hel⟩ := h.each i e f he hf
  have hlen : (marksOf D i e.l ++ growsOf D i (c i)).length = f.l := by rw [gr_len2, hfl]
  have hn1 := hn.no hk1
  unfold OwG at hn1
  rw [hlen] at hn1
  obtain ⟨a4, c4, w4, hrun, ho4, hc4⟩ := run_appG (w := wr.alloc (.cells (D.cs x).toArray D.E)) D.R D.R D.E D.c by' z ht hinf hzc D.h0 lo f.l f.k f.a _ hn1 ⟨wr.heap.size, 0, none⟩ 1 (D.cs x) (D.hc x) (fun j u hj => by rw [addr_add, Nat.zero_add, hbx.cell, List.getElem?_toArray]; exact hj) h1 (by
    have : (f.l + 1) * by' ≤ 2001001 * 1000 := Nat.mul_le_mul (by omega) hby
    omega) (by omega) (Nat.le_trans hlo hk1.size)
  have hk4 : Kept (At f.a) wr w4 := by
    rcases hc4 with ⟨_, _, hk⟩ | ⟨_, hk⟩
    · exact hk1.of_no.then hk
    · exact (hk1.then hk).of_no
  have hiM : i < M.length := (List.getElem?_eq_some_iff.1 hf).1
  have hfR : ∀ k, At (some (⟨mg, 0, none⟩ : Addr)) k → ¬ At f.a k := fun k hk hk' => by
    obtain ⟨c1, b1⟩ := h.more.ty hk
    obtain ⟨c2, b2⟩ := hn.ty hk'
    exact box_ne b2 b1 D.ne rfl
  have hmore4 : Rw D w4 w.heap.size (some ⟨mg, 0, none⟩) mc M := h.more.kept hk4 hfR
  unfold Rw at hmore4
  obtain ⟨cs', hst, hown⟩ := Own.setN (ty := D.R) (T := D.R) (c := 1) (xs := M.map (fun s => [Sl.v s])) (W := w4) (base := w.heap.size) (a := some ⟨mg, 0, none⟩) (cap := mc) (n := M.length) (by
    rw [flat1]; exact hmore4) (by intro x hx; obtain ⟨s, _, rfl⟩ := List.mem_map.1 hx; rfl) (by simp) hiM rfl (v := .slice a4 (f.l + 1) c4) (y := [.slice a4 (f.l + 1) c4]) rfl hR (by simp [Value.oneCell']) rfl
  have hown' : Rw D (w4.setRow mg cs') w.heap.size (some ⟨mg, 0, none⟩) mc (M.set i ⟨a4, f.l + 1, c4⟩) := by
    unfold Rw
    rw [List.length_set]
    have e1 : ((M.map (fun s => [Sl.v s])).set i [.slice a4 (f.l + 1) c4]).flatten = (M.set i ⟨a4, f.l + 1, c4⟩).map Sl.v := by
      rw [← flat1, List.map_set]
      rfl
    rw [e1] at hown
    exact hown
  have hks : Kept (Only mg) w4 (w4.setRow mg cs') := Kept.setRow _ _ _
  have hmgbox : ∃ cur, Box w4 mg D.R cur := Own.ty hmore4 ⟨_, rfl, rfl⟩
  have offM : ∀ {a : Option Addr} {k : Nat} {zs : List α}, OwG D w4 lo a k zs → ∀ q, At a q → ¬ Only mg q := fun ho q hq eo => by
    obtain ⟨c1, b1⟩ := hmgbox
    obtain ⟨c2, b2⟩ := ho.ty hq
    have eo : q = mg := eo
    subst eo
    exact box_ne b2 b1 D.ne rfl
  have hmgw : w.heap.size ≤ mg := h.more.base ⟨_, rfl, rfl⟩
  -- where list i lies now
  have hwh4 : a4 = e.a ∨ ∀ k, At a4 k → w.heap.size ≤ k := by
    rcases hc4 with ⟨rfl, _, _⟩ | ⟨hfresh, _⟩
    · exact hwh
    · exact .inr (fun k hk => by have := hfresh k hk; have := h.wsz; omega)
  have hdis4 : ∀ (q : Nat) (f' : Sl) (g : Nat), q ≠ i → M[q]? = some f' → At a4 g → ¬ At f'.a g := by
    intro q f' g hq hf' hg hg'
    rcases hc4 with ⟨rfl, _, _⟩ | ⟨hfresh, _⟩
    · exact hq (h.dis q i f' f g hf' hf hg' hg)
    · have h2 := hfresh g hg
      obtain ⟨e', he'⟩ : ∃ e', K[q]? = some e' := ⟨_, List.getElem?_eq_getElem (by rw [← h.len]; exact (List.getElem?_eq_some_iff.1 hf').1)⟩
      have := (h.each q e' f' he' hf').2.2.1.lt hg'
      omega
  have old4 : ∀ (q : Nat) (e' : Sl), K[q]? = some e' → OwG D w4 lo e'.a e'.k (marksOf D q e'.l) := by
    intro q e' he'
    obtain ⟨f', hf'⟩ : ∃ f', M[q]? = some f' := ⟨_, List.getElem?_eq_getElem (by rw [h.len]; exact (List.getElem?_eq_some_iff.1 he').1)⟩
    have hq := h.each q e' f' he' hf'
    by_cases hqi : q = i
    · subst hqi
      rw [he] at he'
      cases he'
      rcases hc4 with ⟨e1, e2, hk⟩ | ⟨_, hk⟩
      · rcases hwh with hw | hw
        · have h9 : OwG D w4 lo a4 c4 (marksOf D q e.l ++ (growsOf D q (c q) ++ [x])) := by
            unfold OwG
            rw [← List.append_assoc, D.L_app, D.L_1, List.length_append (bs := [x]), hlen]
            exact ho4
          have h10 := h9.front
          rw [e1, hw] at h10
          rcases ho.2 with ⟨hv, h0⟩ | ⟨g, cap', cur, hv, hb, hg, hl, hm', hcs, htk⟩
          · simp only [Value.slice.injEq] at hv
            have hz : marksOf D q e.l = [] := List.eq_nil_of_length_eq_zero h0
            rw [hz, hv.1, hv.2.2]
            exact Own.nil _ _ _ _
          · rw [e2] at h10
            simp only [Value.slice.injEq] at hv
            have hk' : f.k = e.k := by
              rw [hw] at hn
              rcases hn.2 with ⟨hv2, _⟩ | ⟨g2, cap2, cur2, hv2, hb2, hg2, hl2, hm2, hcs2, _⟩
              · simp only [Value.slice.injEq] at hv2
                rw [hv2.1] at hv; cases hv.1
              · simp only [Value.slice.injEq] at hv2
                have e3 := hv.1.symm.trans hv2.1
                cases e3
                rw [hg] at hg2
                cases hg2
                have h11 : cap' * D.c = cap2 * D.c := by rw [← hcs, ← hcs2]
                have h12 := Nat.eq_of_mul_eq_mul_right D.h0 h11
                rw [hv2.2.2, hv.2.2, h12]
            rw [hk'] at h10
            exact h10
        · exact ho.kept hk4 (fun k hk2 hk3 => by have := hw k hk3; have := h.old q e k he hk2; omega)
      · exact ho.no (hk1.then hk)
    · refine hq.2.1.kept hk4 (fun k hk2 hk3 => ?_)
      rcases hwh with hw | hw
      · rw [hw] at hk3
        exact hqi (h.odis q i e' e k he' he hk2 hk3)
      · have := hw k hk3; have := h.old q e' k he' hk2; omega
  refine ⟨a4, c4, w4, cs', hrun, hst, ⟨Nat.le_trans h.wsz (Nat.le_trans hk4.size hks.size), hown', by rw [List.length_set]; exact h.len, ?_, ?_, h.old, h.odis⟩, hk4.trans hks (fun _ e => .inl e) (fun k _ e => .inr e)⟩
  · intro q e' f' he' hf'
    rcases ap_set hf' with ⟨rfl, rfl⟩ | ⟨hq, hf'⟩
    · rw [he] at he'
      cases he'
      refine ⟨by simp only [if_true]; omega, (old4 q e he).kept hks (offM (old4 q e he)), ?_, hwh4, hel⟩
      have h9 : OwG D w4 lo a4 c4 (marksOf D q e.l ++ growsOf D q (c q + 1)) := by
        unfold OwG
        rw [growsOf_succ, ← hx, ← List.append_assoc, D.L_app, D.L_1, List.length_append (bs := [x]), hlen]
        exact ho4
      simp only [if_true]
      exact h9.kept hks (offM h9)
    · obtain ⟨g1, g2, g3, g4, g5⟩ := h.each q e' f' he' hf'
      simp only [if_neg hq]
      have g3' : OwG D w4 lo f'.a f'.k (marksOf D q e'.l ++ growsOf D q (c q)) := g3.kept hk4 (fun k hk hk' => hq (h.dis q i f' f k hf' hf hk hk'))
      exact ⟨g1, (old4 q e' he').kept hks (offM (old4 q e' he')), g3'.kept hks (offM g3'), g4, g5⟩
  · intro p q e' f' g hp hq hg hg'
    rcases ap_set hp with ⟨h1, h2⟩ | ⟨hp', hp2⟩ <;> rcases ap_set hq with ⟨h3, h4⟩ | ⟨hq', hq2⟩
    · omega
    · subst h2; exact absurd hg' (hdis4 q f' g hq' hq2 hg)
    · subst h4; exact absurd hg (hdis4 p e' g hp' hp2 hg')
    · exact h.dis p q e' f' g hp2 hq2 hg hg'
theorem Gy.newAt {w wr : World} {lo : Nat} {K : List Sl} {ma : Option Addr} {mc : Nat} {M : List Sl} {c : Nat → Nat} (h : Gy D w wr lo K ma mc M c) {i : Nat} {e f : Sl} (he : K[i]? = some e) (hf : M[i]? = some f) {g k : Nat} (ha : f.a = some ⟨g, 0, none⟩) {x : α} (hx : (marksOf D i e.l ++ growsOf D i (c i))[k]? = some x) : ∀ (j : Nat) v, (D.cs x)[j]? = some v → wr.cell? ⟨g, 0 + k * D.c + j, none⟩ = some v := by
  have h3 := (h.each i e f he hf).2.2.1
  rw [ha] at h3
  exact OwG.at h3 hx
theorem Gy.oldAt {w wr : World} {lo : Nat} {K : List Sl} {ma : Option Addr} {mc : Nat} {M : List Sl} {c : Nat → Nat} (h : Gy D w wr lo K ma mc M c) {i : Nat} {e f : Sl} (he : K[i]? = some e) (hf : M[i]? = some f) {g k : Nat} (ha : e.a = some ⟨g, 0, none⟩) (hk : k < e.l) : ∀ (j : Nat) v, (D.cs (D.mm i k))[j]? = some v → wr.cell? ⟨g, 0 + k * D.c + j, none⟩ = some v := by
  have h3 := (h.each i e f he hf).2.1
  rw [ha] at h3
  exact OwG.at h3 (marksOf_at hk)
theorem mk_lo {i l c k : Nat} (h : k < l) : (marksOf D i l ++ growsOf D i c)[k]? = some (D.mm i k) := by
  rw [List.getElem?_append_left (by rw [marksOf_len]; exact h)]; exact marksOf_at h
theorem mk_hi {i l c k : Nat} (h : l ≤ k) (h2 : k < l + c) : (marksOf D i l ++ growsOf D i c)[k]? = some (D.mr i (k - l)) := by
  rw [List.getElem?_append_right (by rw [marksOf_len]; exact h), marksOf_len]; exact growsOf_at (by omega)
/-- One slice more in a row of slices. -/
theorem Rw.one {w wr : World} {ma : Option Addr} {mc : Nat} {M : List Sl} (h : Rw D wr w.heap.size ma mc M) (e : Sl) {TS : TypeId} (ht : Try.prog.underlying TS = some (.slice D.R)) (hinf : (Try.prog.info? D.R).map (fun i => (i.zero, i.size, i.bytes)) = some (some (.slice none 0 0), 1, 24)) (hl : M.length ≤ 1000) (hs : w.heap.size ≤ wr.heap.size) :
    ∃ a' c' w', (Builtin.append_ #[TS, TS] TS #[.slice ma M.length mc, .slice (some ⟨wr.heap.size, 0, none⟩) 1 1]).run Try.prog (wr.alloc (.cells #[e.v] D.R)) = .ok (.slice a' (M.length + 1) c') w' ∧ Rw D w' w.heap.size a' c' (M ++ [e]) ∧ Kept (At ma) wr w' := by
  have hk1 : Kept No wr (wr.alloc (.cells #[e.v] D.R)) := (Kept.refl No _).alloc _
  have hbx := Box.new wr D.R #[e.v]
  obtain ⟨a', c', w', hrun, hO, hk, _⟩ := run_appN (w := wr.alloc (.cells #[e.v] D.R)) TS TS D.R 1 24 (.slice none 0 0) ht hinf rfl (by omega) w.heap.size M.length mc ma (M.map Sl.v) (h.no hk1) (some ⟨wr.heap.size, 0, none⟩) 1 1 [e.v] rfl (fun e => by cases e) (fun j u hj => ⟨_, rfl, by rw [addr_add, Nat.zero_add, hbx.cell]; simpa using hj⟩) (by intro u hu; rw [List.mem_singleton.1 hu]; rfl) (by omega) (by omega) (Nat.le_trans hs hk1.size)
  refine ⟨a', c', w', hrun, ?_, hk1.of_no.then hk⟩
  unfold Rw
  rw [List.length_append, List.map_append]
  exact hO
end
end Gx
def more : ByteArray := ⟨#[109, 111, 114, 101]⟩
def DE : Gx.Kn En where
  E := 124
  R := 41
  c := 4
  cs := En.cs
  mm := fun i j => ⟨⟨#[109, 97, 114, 107]⟩, 0, 0, ((1000 * i + j : Nat) : Int)⟩
  mr := fun i j => ⟨⟨#[109, 111, 114, 101]⟩, 0, 0, ((1000 * i + j : Nat) : Int)⟩
  hc := fun _ => rfl
  h0 := by decide
  ne := by decide
def DL : Gx.Kn La where
  E := 127
  R := 42
  c := 7
  cs := La.cs
  mm := fun i j => ⟨((1 + i : Nat) : Int), ((j : Nat) : Int), 0, 0, 0, 0, 0⟩
  mr := fun i j => ⟨((101 + i : Nat) : Int), ((j : Nat) : Int), 0, 0, 0, 0, 0⟩
  hc := fun _ => rfl
  h0 := by decide
  ne := by decide
open Gx
def bE (B : List Bv) : List Sl := B.map (·.e)
def bL (B : List Bv) : List Sl := B.map (·.l)
/-- Buckets in a row: what may be written, what is read. -/
structure Bb (w wr : World) (rb : Nat) (B : List Bv) : Prop where
  kp : Kept (fun k => EB (bE B) k ∨ EB (bL B) k) w wr
  row : ∀ (q : Nat) b, B[q]? = some b → wr.cell? ⟨rb, 0 + q * 3 + 1, none⟩ = some b.e.v ∧ wr.cell? ⟨rb, 0 + q * 3 + 2, none⟩ = some b.l.v
  bx : ∃ cur, Box wr rb 44 cur
theorem Bb.off {T : Nat → Prop} {w wr w' : World} {rb : Nat} {B : List Bv} (h : Bb w wr rb B) (hk : Kept T wr w') (hT : ∀ k, T k → ∀ cur, ¬ Box wr k 44 cur) (hw : ∀ k, k < w.heap.size → T k → EB (bE B) k ∨ EB (bL B) k) : Bb w w' rb B := by
  obtain ⟨cur, hb⟩ := h.bx
  have hrb : ¬ T rb := fun e => hT rb e cur hb
  exact ⟨h.kp.trans hk (fun _ e => e) (fun k hl e => hw k hl e), fun q b hq => ⟨hk.cell (h.row q b hq).1 hrb, hk.cell (h.row q b hq).2 hrb⟩, cur, hb.kept hk hrb⟩
theorem Bb.no {w wr w' : World} {rb : Nat} {B : List Bv} (h : Bb w wr rb B) (hk : Kept No wr w') : Bb w w' rb B := h.off hk (fun _ e => e.elim) (fun _ _ e => e.elim)
/-- A block of one type: nothing of another. -/
theorem ty_off {w : World} {k : Nat} {t t' : TypeId} {cur cur' : Array Value} (h : Box w k t cur) (ht : t ≠ t') : ¬ Box w k t' cur' := fun h' => box_ne h h' ht rfl

end Go.Proofs.Ytpabpeppgpeaoaa.Md
