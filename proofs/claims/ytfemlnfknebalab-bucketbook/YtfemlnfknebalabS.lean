import Derived.Test.YtfemlnfknebalabR
namespace Go.Proofs.Ytfemlnfknebalab
open Go.RowKit
set_option linter.unusedVariables false
set_option linter.unusedSimpArgs false

theorem Fr.bkt {w0 w w' : World} {l : List (Nat × TypeId × Array Value)} {p : Nat} {ea la : Option Addr} {base be bl : Nat} {ce ne cl nl : Nat} {ve vl : List Value} (h : Fr No w0 w l) (hk : Kept (fun k => k = p ∨ At ea k ∨ At la k) w w') (i : Nat) {cs cs' : Array Value} (hi : l[i]? = some (p, 26, cs)) (hp : Box w' p 26 cs')
    (he : Own 34 4 w w0.heap.size ea ce ne ve) (hl : Own 67 7 w w0.heap.size la cl nl vl) (hT : ∀ x ∈ l, x.2.1 ≠ 34 ∧ x.2.1 ≠ 67) : Fr No w0 w' (l.set i (p, 26, cs')) := by
  have hlt := (List.getElem?_eq_some_iff.1 hi).1
  have key : ∀ (j : Nat) g1 T1 cs1, (l.set i (p, 26, cs'))[j]? = some (g1, T1, cs1) → (j = i ∧ g1 = p ∧ T1 = 26 ∧ cs1 = cs') ∨ (j ≠ i ∧ l[j]? = some (g1, T1, cs1)) := by
    intro j g1 T1 cs1 hj
    rw [List.getElem?_set] at hj
    by_cases e : i = j
    · subst e
      simp [hlt] at hj
      exact .inl ⟨rfl, hj.1.symm, hj.2.1.symm, hj.2.2.symm⟩
    · simp [e] at hj
      exact .inr ⟨fun h => e h.symm, hj⟩
  refine ⟨h.kept.trans hk (fun _ e => e) (fun k hk e => ?_), ?_, ?_, ?_⟩
  · exfalso
    rcases e with e | e | e
    · have := h.low i _ _ _ hi; omega
    · have := he.base e; omega
    · have := hl.base e; omega
  · intro j g1 T1 cs1 hj
    rcases key j g1 T1 cs1 hj with ⟨rfl, rfl, rfl, rfl⟩ | ⟨hne, hj2⟩
    · exact hp
    · have hb := h.box j g1 T1 cs1 hj2
      have ht := hT _ (List.mem_of_getElem? hj2)
      refine hb.kept hk (fun e => ?_)
      rcases e with e | e | e
      · subst e; exact hne (h.inj j i _ _ _ _ _ hj2 hi)
      · exact he.notBox hb (fun e => ht.1 e.symm) e
      · exact hl.notBox hb (fun e => ht.2 e.symm) e
  · intro j g1 T1 cs1 hj
    rcases key j g1 T1 cs1 hj with ⟨rfl, rfl, rfl, rfl⟩ | ⟨hne, hj2⟩
    · exact h.low _ _ _ _ hi
    · exact h.low j g1 T1 cs1 hj2
  · intro j k g1 T1 cs1 T2 cs2 hj hk
    rcases key j g1 T1 cs1 hj with ⟨rfl, rfl, rfl, rfl⟩ | ⟨hne, hj2⟩ <;> rcases key k g1 T2 cs2 hk with ⟨rfl, h1, h2, h3⟩ | ⟨hne', hk2⟩
    · rfl
    · exact h.inj _ _ _ _ _ _ _ hi hk2
    · subst h1; exact h.inj _ _ _ _ _ _ _ hj2 hi
    · exact h.inj _ _ _ _ _ _ _ hj2 hk2
def ApYes (w : World) (r : Bk × An) (e : Ending) (w' : World) : Prop :=
  ∃ se sl sx : Sl, e = .returned (.tuple #[.agg (Bv.cells ⟨r.1.up, se, sl⟩), .agg (Av.cells ⟨r.2.er, r.2.e, sx⟩), .int .i64 0]) ∧ OwE w' w.heap.size se r.1.es ∧ OwL w' w.heap.size sl r.1.ls ∧ OwE w' w.heap.size sx r.2.l ∧ (∀ k, At sx.a k → ¬ At se.a k) ∧ Kept No w w'
set_option maxRecDepth 100000 in
set_option maxHeartbeats 4000000 in
theorem apply_yes (up : Int) (ea : Option Addr) (en ec : Nat) (la : Option Addr) (ln lc : Nat) (es : List En) (ls : List La) (c : Cm) (room : Int) (w : World) (hr : refS up c = 0) (he : RdE w ⟨ea, en, ec⟩ es) (hl : RdL w ⟨la, ln, lc⟩ ls) (hb : (en + 1) * 40 ≤ 140737488355328) (hbl : (ln + 1) * 56 ≤ 140737488355328) (hu1 : -9223372036854775808 ≤ up) : Calls Try.prog 6 #[.agg (Bv.cells ⟨up, ⟨ea, en, ec⟩, ⟨la, ln, lc⟩⟩), .agg (Cm.cells c), .int .i64 room] w (ApYes w (stepS ⟨up, es, ls⟩ c room)) := by
  obtain ⟨C, hC⟩ : ∃ C : Ending → World → Prop, C = (ApYes w (stepS ⟨up, es, ls⟩ c room)) := ⟨_, rfl⟩
  have HC : Hid (C = (ApYes w (stepS ⟨up, es, ls⟩ c room))) := hC
  rw [← hC]
  clear hC
  have hu2 : up < 1048576 := by
    have h := hr
    unfold refS at h
    split at h
    · cases h
    · split at h
      · cases h
      · rename_i h2; simpa using h2
  have HRF : Hid (refS up c = 0) := hr
  have HE : Hid (RdE w ⟨ea, en, ec⟩ es) := he
  have HL : Hid (RdL w ⟨la, ln, lc⟩ ls) := hl
  clear hr he hl
  have HF : Hid (Fr No w w []) := Fr.start _ _
  go_enter Try.func6, Try.ntmps6
  go_upto_region 0 with fail
  refine WL.start ?_
  refine wp_runW (.pointer (some ⟨w.heap.size, 0, none⟩)) (w.alloc (.cells (Bv.cells ⟨up, ⟨ea, en, ec⟩, ⟨la, ln, lc⟩⟩) 26)) (exec_box 26 _ rfl (Bv.cells ⟨up, ⟨ea, en, ec⟩, ⟨la, ln, lc⟩⟩) (by kernel_rfl)) (by kernel_rfl) ?_
  try simp only [pA, pB, p1, p2, p3]
  have HF : Hid (Fr No w (w.alloc (.cells (Bv.cells ⟨up, ⟨ea, en, ec⟩, ⟨la, ln, lc⟩⟩) 26)) [(w.heap.size, 26, Bv.cells ⟨up, ⟨ea, en, ec⟩, ⟨la, ln, lc⟩⟩)]) := HF.out.alloc _ _
  generalize w.alloc (.cells (Bv.cells ⟨up, ⟨ea, en, ec⟩, ⟨la, ln, lc⟩⟩) 26) = wk2 at HF ⊢
  generalize w.heap.size = gk1 at HF ⊢
  refine wp_runW (.pointer (some ⟨wk2.heap.size, 0, none⟩)) (wk2.alloc (.cells (Cm.cells c) 31)) (exec_box 31 _ rfl (Cm.cells c) (by kernel_rfl)) (by kernel_rfl) ?_
  try simp only [pA, pB, p1, p2, p3]
  have HF : Hid (Fr No w (wk2.alloc (.cells (Cm.cells c) 31)) [(gk1, 26, Bv.cells ⟨up, ⟨ea, en, ec⟩, ⟨la, ln, lc⟩⟩), (wk2.heap.size, 31, Cm.cells c)]) := HF.out.alloc _ _
  generalize wk2.alloc (.cells (Cm.cells c) 31) = wk4 at HF ⊢
  generalize wk2.heap.size = gk3 at HF ⊢
  refine wp_runW (.pointer (some ⟨wk4.heap.size, 0, none⟩)) (wk4.alloc (.cells (Bv.cells bvZ) 26)) (exec_alloc 26 rfl (Bv.cells bvZ) zero25) (by kernel_rfl) ?_
  try simp only [pA, pB, p1, p2, p3]
  have HF : Hid (Fr No w (wk4.alloc (.cells (Bv.cells bvZ) 26)) [(gk1, 26, Bv.cells ⟨up, ⟨ea, en, ec⟩, ⟨la, ln, lc⟩⟩), (gk3, 31, Cm.cells c), (wk4.heap.size, 26, Bv.cells bvZ)]) := HF.out.alloc _ _
  generalize wk4.alloc (.cells (Bv.cells bvZ) 26) = wk6 at HF ⊢
  generalize wk4.heap.size = gk5 at HF ⊢
  refine wp_runW (.pointer (some ⟨wk6.heap.size, 0, none⟩)) (wk6.alloc (.cells (Av.cells avZ) 36)) (exec_alloc 36 rfl (Av.cells avZ) zero56) (by kernel_rfl) ?_
  try simp only [pA, pB, p1, p2, p3]
  have HF : Hid (Fr No w (wk6.alloc (.cells (Av.cells avZ) 36)) [(gk1, 26, Bv.cells ⟨up, ⟨ea, en, ec⟩, ⟨la, ln, lc⟩⟩), (gk3, 31, Cm.cells c), (gk5, 26, Bv.cells bvZ), (wk6.heap.size, 36, Av.cells avZ)]) := HF.out.alloc _ _
  generalize wk6.alloc (.cells (Av.cells avZ) 36) = wk8 at HF ⊢
  generalize wk6.heap.size = gk7 at HF ⊢
  refine tK (.int .i64 0) ?_
  try simp only [pA, pB, p1, p2, p3]
  refine WL.nil ?_
  try simp only [pA, pB, p1, p2, p3]
  go_upto_region 1 with fail
  refine WL.start ?_
  refine tW (.agg (Bv.cells ⟨up, ⟨ea, en, ec⟩, ⟨la, ln, lc⟩⟩)) (exec_load 26 _ rfl ⟨gk1, 0, none⟩ (by kernel_rfl) (.agg (Bv.cells ⟨up, ⟨ea, en, ec⟩, ⟨la, ln, lc⟩⟩)) (ld25 (HF.out.box 0 _ _ _ rfl))) ?_
  try simp only [pA, pB, p1, p2, p3]
  refine tW (.agg (Cm.cells c)) (exec_load 31 _ rfl ⟨gk3, 0, none⟩ (by kernel_rfl) (.agg (Cm.cells c)) (ld29 (HF.out.box 1 _ _ _ rfl))) ?_
  try simp only [pA, pB, p1, p2, p3]
  refine wp_callW 22 #[.agg (Bv.cells ⟨up, ⟨ea, en, ec⟩, ⟨la, ln, lc⟩⟩), .agg (Cm.cells c)] (by kernel_rfl) _ (refusal_any ⟨up, ⟨ea, en, ec⟩, ⟨la, ln, lc⟩⟩ c _) (by kernel_rfl) ?_
  rintro e wk9 ⟨rfl, hk⟩
  have HF : Hid (Fr No w (wk9) [(gk1, 26, Bv.cells ⟨up, ⟨ea, en, ec⟩, ⟨la, ln, lc⟩⟩), (gk3, 31, Cm.cells c), (gk5, 26, Bv.cells bvZ), (gk7, 36, Av.cells avZ)]) := HF.out.no hk
  clear hk
  refine ⟨.int .i64 0, by show Ending.returned (.int .i64 (refS up c)) = _; rw [HRF.out], ?_⟩
  try simp only [pA, pB, p1, p2, p3]
  refine tK (.int .i64 0) ?_
  try simp only [pA, pB, p1, p2, p3]
  refine WL.nil ?_
  try simp only [pA, pB, p1, p2, p3]
  go_upto_region 2 with fail
  refine WL.start ?_
  refine tK (.int .i64 0) ?_
  try simp only [pA, pB, p1, p2, p3]
  refine tW (.bool false) (exec_bin .neq 32 _ _ _ rfl (.int .i64 0) (.int .i64 0) (.bool false) (by kernel_rfl) (by kernel_rfl) (by kernel_rfl) (by rw [b_neq46]; rfl)) ?_
  try simp only [pA, pB, p1, p2, p3]
  refine WL.nil ?_
  try simp only [pA, pB, p1, p2, p3]
  go_upto_region 4 with fail
  refine WL.start ?_
  refine tW (.agg (Bv.cells ⟨up, ⟨ea, en, ec⟩, ⟨la, ln, lc⟩⟩)) (exec_load 26 _ rfl ⟨gk1, 0, none⟩ (by kernel_rfl) (.agg (Bv.cells ⟨up, ⟨ea, en, ec⟩, ⟨la, ln, lc⟩⟩)) (ld25 (HF.out.box 0 _ _ _ rfl))) ?_
  try simp only [pA, pB, p1, p2, p3]
  refine wp_callW 23 #[.agg (Bv.cells ⟨up, ⟨ea, en, ec⟩, ⟨la, ln, lc⟩⟩)] (by kernel_rfl) _ (copied_any up ea en ec la ln lc es ls wk9 (by omega) (by omega) (HE.out.no HF.out.kept) (HL.out.no HF.out.kept)) (by kernel_rfl) ?_
  rintro e wk10 ⟨⟨sa, sn, sc⟩, ⟨ta, tn, tc⟩, rfl, hE, hL, hk⟩
  have HSE : Hid (OwE wk10 w.heap.size ⟨sa, sn, sc⟩ es) := hE.lower HF.out.kept.size
  have HSL : Hid (OwL wk10 w.heap.size ⟨ta, tn, tc⟩ ls) := hL.lower HF.out.kept.size
  have hsn : sn = en := by have h1 : es.length = sn := hE.len; have h2 : es.length = en := HE.out.len; omega
  have htn : tn = ln := by have h1 : ls.length = tn := hL.len; have h2 : ls.length = ln := HL.out.len; omega
  subst hsn
  subst htn
  have HF : Hid (Fr No w (wk10) [(gk1, 26, Bv.cells ⟨up, ⟨ea, sn, ec⟩, ⟨la, tn, lc⟩⟩), (gk3, 31, Cm.cells c), (gk5, 26, Bv.cells bvZ), (gk7, 36, Av.cells avZ)]) := HF.out.no hk
  clear hE hL hk HE HL
  refine ⟨.agg (Bv.cells ⟨up, ⟨sa, sn, sc⟩, ⟨ta, tn, tc⟩⟩), rfl, ?_⟩
  try simp only [pA, pB, p1, p2, p3]
  refine wp_runW (.pointer (some ⟨wk10.heap.size, 0, none⟩)) (wk10.alloc (.cells (Bv.cells bvZ) 26)) (exec_alloc 26 rfl (Bv.cells bvZ) zero25) (by kernel_rfl) ?_
  try simp only [pA, pB, p1, p2, p3]
  have HSE : Hid (OwE (wk10.alloc (.cells (Bv.cells bvZ) 26)) w.heap.size ⟨sa, sn, sc⟩ es) := HSE.out.no ((Kept.refl No _).alloc _)
  have HSL : Hid (OwL (wk10.alloc (.cells (Bv.cells bvZ) 26)) w.heap.size ⟨ta, tn, tc⟩ ls) := HSL.out.no ((Kept.refl No _).alloc _)
  have HF : Hid (Fr No w (wk10.alloc (.cells (Bv.cells bvZ) 26)) [(gk1, 26, Bv.cells ⟨up, ⟨ea, sn, ec⟩, ⟨la, tn, lc⟩⟩), (gk3, 31, Cm.cells c), (gk5, 26, Bv.cells bvZ), (gk7, 36, Av.cells avZ), (wk10.heap.size, 26, Bv.cells bvZ)]) := HF.out.alloc _ _
  generalize wk10.alloc (.cells (Bv.cells bvZ) 26) = wk12 at HF HSE HSL ⊢
  generalize wk10.heap.size = gk11 at HF ⊢
  refine wp_storeW 26 _ _ rfl ⟨gk11, 0, none⟩ (.agg (Bv.cells ⟨up, ⟨sa, sn, sc⟩, ⟨ta, tn, tc⟩⟩)) (by kernel_rfl) (by kernel_rfl) (wk12.setRow gk11 (Bv.cells ⟨up, ⟨sa, sn, sc⟩, ⟨ta, tn, tc⟩⟩)) (st25 (HF.out.box 4 _ _ _ rfl) rfl) (by kernel_rfl) ?_
  try simp only [pA, pB, p1, p2, p3]
  have HSE : Hid (OwE (wk12.setRow gk11 (Bv.cells ⟨up, ⟨sa, sn, sc⟩, ⟨ta, tn, tc⟩⟩)) w.heap.size ⟨sa, sn, sc⟩ es) := HSE.out.kept (Kept.setRow _ _ _) (fun k h e => (HSE.out.own.notBox (HF.out.box 4 _ _ _ rfl) (by decide)) ((show k = gk11 from e) ▸ h))
  have HSL : Hid (OwL (wk12.setRow gk11 (Bv.cells ⟨up, ⟨sa, sn, sc⟩, ⟨ta, tn, tc⟩⟩)) w.heap.size ⟨ta, tn, tc⟩ ls) := HSL.out.kept (Kept.setRow _ _ _) (fun k h e => (HSL.out.own.notBox (HF.out.box 4 _ _ _ rfl) (by decide)) ((show k = gk11 from e) ▸ h))
  have HF : Hid (Fr No w (wk12.setRow gk11 (Bv.cells ⟨up, ⟨sa, sn, sc⟩, ⟨ta, tn, tc⟩⟩)) [(gk1, 26, Bv.cells ⟨up, ⟨ea, sn, ec⟩, ⟨la, tn, lc⟩⟩), (gk3, 31, Cm.cells c), (gk5, 26, Bv.cells bvZ), (gk7, 36, Av.cells avZ), (gk11, 26, Bv.cells ⟨up, ⟨sa, sn, sc⟩, ⟨ta, tn, tc⟩⟩)]) := HF.out.set 4 rfl _
  generalize wk12.setRow gk11 (Bv.cells ⟨up, ⟨sa, sn, sc⟩, ⟨ta, tn, tc⟩⟩) = wk13 at HF HSE HSL ⊢
  refine WL.nil ?_
  try simp only [pA, pB, p1, p2, p3]
  go_upto_region 5 with fail
  refine WL.start ?_
  refine tW (.agg (Cm.cells c)) (exec_load 31 _ rfl ⟨gk3, 0, none⟩ (by kernel_rfl) (.agg (Cm.cells c)) (ld29 (HF.out.box 1 _ _ _ rfl))) ?_
  try simp only [pA, pB, p1, p2, p3]
  refine tK (.int .i64 room) ?_
  try simp only [pA, pB, p1, p2, p3]
  refine wp_callW 24 #[.pointer (some ⟨gk11, 0, none⟩), .agg (Cm.cells c), .int .i64 room] (by kernel_rfl) _ (step_any gk11 w.heap.size up sa sn sc ta tn tc es ls c room wk13 ⟨HF.out.box 4 _ _ _ rfl, HSE.out, HSL.out⟩ hb hbl hu1 hu2 HF.out.kept.size) (by kernel_rfl) ?_
  generalize stepS ⟨up, es, ls⟩ c room = R at HC ⊢
  rintro e wk14 ⟨⟨qa, qn, qc⟩, ⟨ra, rn, rc⟩, ⟨xa, xn, xc⟩, rfl, hB, hX, hD, hk, _, _⟩
  have HQE : Hid (OwE wk14 w.heap.size ⟨qa, qn, qc⟩ R.1.es) := hB.e
  have HQL : Hid (OwL wk14 w.heap.size ⟨ra, rn, rc⟩ R.1.ls) := hB.l
  have HOX : Hid (OwE wk14 w.heap.size ⟨xa, xn, xc⟩ R.2.l) := hX.lower HF.out.kept.size
  have HDD : Hid (∀ k, At xa k → ¬ At qa k) := hD
  have HF : Hid (Fr No w (wk14) [(gk1, 26, Bv.cells ⟨up, ⟨ea, sn, ec⟩, ⟨la, tn, lc⟩⟩), (gk3, 31, Cm.cells c), (gk5, 26, Bv.cells bvZ), (gk7, 36, Av.cells avZ), (gk11, 26, Bv.cells ⟨R.1.up, ⟨qa, qn, qc⟩, ⟨ra, rn, rc⟩⟩)]) := HF.out.bkt (base := 0) (be := 0) (bl := 0) hk 4 rfl hB.box HSE.out.own HSL.out.own (by simp)
  clear hB hX hD hk HSE HSL
  refine ⟨.agg (Av.cells ⟨R.2.er, R.2.e, ⟨xa, xn, xc⟩⟩), rfl, ?_⟩
  try simp only [pA, pB, p1, p2, p3]
  refine wp_runW (.pointer (some ⟨wk14.heap.size, 0, none⟩)) (wk14.alloc (.cells (Av.cells avZ) 36)) (exec_alloc 36 rfl (Av.cells avZ) zero56) (by kernel_rfl) ?_
  try simp only [pA, pB, p1, p2, p3]
  have HQE : Hid (OwE (wk14.alloc (.cells (Av.cells avZ) 36)) w.heap.size ⟨qa, qn, qc⟩ R.1.es) := HQE.out.no ((Kept.refl No _).alloc _)
  have HQL : Hid (OwL (wk14.alloc (.cells (Av.cells avZ) 36)) w.heap.size ⟨ra, rn, rc⟩ R.1.ls) := HQL.out.no ((Kept.refl No _).alloc _)
  have HOX : Hid (OwE (wk14.alloc (.cells (Av.cells avZ) 36)) w.heap.size ⟨xa, xn, xc⟩ R.2.l) := HOX.out.no ((Kept.refl No _).alloc _)
  have HF : Hid (Fr No w (wk14.alloc (.cells (Av.cells avZ) 36)) [(gk1, 26, Bv.cells ⟨up, ⟨ea, sn, ec⟩, ⟨la, tn, lc⟩⟩), (gk3, 31, Cm.cells c), (gk5, 26, Bv.cells bvZ), (gk7, 36, Av.cells avZ), (gk11, 26, Bv.cells ⟨R.1.up, ⟨qa, qn, qc⟩, ⟨ra, rn, rc⟩⟩), (wk14.heap.size, 36, Av.cells avZ)]) := HF.out.alloc _ _
  generalize wk14.alloc (.cells (Av.cells avZ) 36) = wk16 at HF HQE HQL HOX ⊢
  generalize wk14.heap.size = gk15 at HF ⊢
  refine wp_storeW 36 _ _ rfl ⟨gk15, 0, none⟩ (.agg (Av.cells ⟨R.2.er, R.2.e, ⟨xa, xn, xc⟩⟩)) (by kernel_rfl) (by kernel_rfl) (wk16.setRow gk15 (Av.cells ⟨R.2.er, R.2.e, ⟨xa, xn, xc⟩⟩)) (st56 (HF.out.box 5 _ _ _ rfl) rfl) (by kernel_rfl) ?_
  try simp only [pA, pB, p1, p2, p3]
  have HQE : Hid (OwE (wk16.setRow gk15 (Av.cells ⟨R.2.er, R.2.e, ⟨xa, xn, xc⟩⟩)) w.heap.size ⟨qa, qn, qc⟩ R.1.es) := HQE.out.kept (Kept.setRow _ _ _) (fun k h e => (HQE.out.own.notBox (HF.out.box 5 _ _ _ rfl) (by decide)) ((show k = gk15 from e) ▸ h))
  have HQL : Hid (OwL (wk16.setRow gk15 (Av.cells ⟨R.2.er, R.2.e, ⟨xa, xn, xc⟩⟩)) w.heap.size ⟨ra, rn, rc⟩ R.1.ls) := HQL.out.kept (Kept.setRow _ _ _) (fun k h e => (HQL.out.own.notBox (HF.out.box 5 _ _ _ rfl) (by decide)) ((show k = gk15 from e) ▸ h))
  have HOX : Hid (OwE (wk16.setRow gk15 (Av.cells ⟨R.2.er, R.2.e, ⟨xa, xn, xc⟩⟩)) w.heap.size ⟨xa, xn, xc⟩ R.2.l) := HOX.out.kept (Kept.setRow _ _ _) (fun k h e => (HOX.out.own.notBox (HF.out.box 5 _ _ _ rfl) (by decide)) ((show k = gk15 from e) ▸ h))
  have HF : Hid (Fr No w (wk16.setRow gk15 (Av.cells ⟨R.2.er, R.2.e, ⟨xa, xn, xc⟩⟩)) [(gk1, 26, Bv.cells ⟨up, ⟨ea, sn, ec⟩, ⟨la, tn, lc⟩⟩), (gk3, 31, Cm.cells c), (gk5, 26, Bv.cells bvZ), (gk7, 36, Av.cells avZ), (gk11, 26, Bv.cells ⟨R.1.up, ⟨qa, qn, qc⟩, ⟨ra, rn, rc⟩⟩), (gk15, 36, Av.cells ⟨R.2.er, R.2.e, ⟨xa, xn, xc⟩⟩)]) := HF.out.set 5 rfl _
  generalize wk16.setRow gk15 (Av.cells ⟨R.2.er, R.2.e, ⟨xa, xn, xc⟩⟩) = wk17 at HF HQE HQL HOX ⊢
  refine WL.nil ?_
  try simp only [pA, pB, p1, p2, p3]
  go_upto_region 6 with fail
  refine wp_region_held_drew (S := fun w' => Box w' gk11 26 (Bv.cells ⟨R.1.up, ⟨qa, qn, qc⟩, ⟨ra, rn, rc⟩⟩) ∧ Box w' gk15 36 (Av.cells ⟨R.2.er, R.2.e, ⟨xa, xn, xc⟩⟩)) rfl ⟨HF.out.box 4 _ _ _ rfl, HF.out.box 5 _ _ _ rfl⟩ (fun hH => ?_)
  have HQE : Hid (OwE (wk17.drew) w.heap.size ⟨qa, qn, qc⟩ R.1.es) := HQE.out.no (Kept.refl No _).drew
  have HQL : Hid (OwL (wk17.drew) w.heap.size ⟨ra, rn, rc⟩ R.1.ls) := HQL.out.no (Kept.refl No _).drew
  have HOX : Hid (OwE (wk17.drew) w.heap.size ⟨xa, xn, xc⟩ R.2.l) := HOX.out.no (Kept.refl No _).drew
  have HF : Hid (Fr No w (wk17.drew) [(gk1, 26, Bv.cells ⟨up, ⟨ea, sn, ec⟩, ⟨la, tn, lc⟩⟩), (gk3, 31, Cm.cells c), (gk5, 26, Bv.cells bvZ), (gk7, 36, Av.cells avZ), (gk11, 26, Bv.cells ⟨R.1.up, ⟨qa, qn, qc⟩, ⟨ra, rn, rc⟩⟩), (gk15, 36, Av.cells ⟨R.2.er, R.2.e, ⟨xa, xn, xc⟩⟩)]) := HF.out.drew
  generalize wk17.drew = wk18 at HF HQE HQL HOX hH ⊢
  refine aT (i := 0) (oi := { dst := some 25, op := Op.load 26 (Operand.tmp 10), type := 26, pos := "bucket.go:18", after := #[], guard := none }) (v := .agg (Bv.cells ⟨R.1.up, ⟨qa, qn, qc⟩, ⟨ra, rn, rc⟩⟩)) (fun w' hw => exec_load 26 _ rfl ⟨gk11, 0, none⟩ (by kernel_rfl) (.agg (Bv.cells ⟨R.1.up, ⟨qa, qn, qc⟩, ⟨ra, rn, rc⟩⟩)) (ld25 hw.1)) hH ?_
  try simp only [pA, pB, p1, p2, p3]
  refine aT (i := 1) (oi := { dst := some 26, op := Op.load 36 (Operand.tmp 11), type := 36, pos := "bucket.go:18", after := #[{ on := 2, ground := Ground.gcOnly Departure.lateStores }], guard := none }) (v := .agg (Av.cells ⟨R.2.er, R.2.e, ⟨xa, xn, xc⟩⟩)) (fun w' hw => exec_load 36 _ rfl ⟨gk15, 0, none⟩ (by kernel_rfl) (.agg (Av.cells ⟨R.2.er, R.2.e, ⟨xa, xn, xc⟩⟩)) (ld56 hw.2)) hH ?_
  try simp only [pA, pB, p1, p2, p3]
  refine any_store (i := 2) (o := { dst := none, op := Op.store 26 (Operand.tmp 6) (Operand.tmp 25), type := 0, pos := "bucket.go:18", after := #[{ on := 0, ground := Ground.data }, { on := 0, ground := Ground.phase }, { on := 1, ground := Ground.textOnly Departure.lateStores }], guard := none }) (w' := wk18.setRow gk5 (Bv.cells ⟨R.1.up, ⟨qa, qn, qc⟩, ⟨ra, rn, rc⟩⟩)) rfl (by kernel_rfl) (by kernel_rfl) 26 _ _ rfl ⟨gk5, 0, none⟩ (.agg (Bv.cells ⟨R.1.up, ⟨qa, qn, qc⟩, ⟨ra, rn, rc⟩⟩)) (by kernel_rfl) (by kernel_rfl) (st25 (HF.out.box 2 _ _ _ rfl) rfl) (⟨hH.1.rowNe (HF.out.ne 4 2 rfl rfl (by simp)) _, hH.2.rowNe (HF.out.ne 5 2 rfl rfl (by simp)) _⟩) (fun hH => ?_)
  try simp only [pA, pB, p1, p2, p3]
  have HQE : Hid (OwE (wk18.setRow gk5 (Bv.cells ⟨R.1.up, ⟨qa, qn, qc⟩, ⟨ra, rn, rc⟩⟩)) w.heap.size ⟨qa, qn, qc⟩ R.1.es) := HQE.out.kept (Kept.setRow _ _ _) (fun k h e => (HQE.out.own.notBox (HF.out.box 2 _ _ _ rfl) (by decide)) ((show k = gk5 from e) ▸ h))
  have HQL : Hid (OwL (wk18.setRow gk5 (Bv.cells ⟨R.1.up, ⟨qa, qn, qc⟩, ⟨ra, rn, rc⟩⟩)) w.heap.size ⟨ra, rn, rc⟩ R.1.ls) := HQL.out.kept (Kept.setRow _ _ _) (fun k h e => (HQL.out.own.notBox (HF.out.box 2 _ _ _ rfl) (by decide)) ((show k = gk5 from e) ▸ h))
  have HOX : Hid (OwE (wk18.setRow gk5 (Bv.cells ⟨R.1.up, ⟨qa, qn, qc⟩, ⟨ra, rn, rc⟩⟩)) w.heap.size ⟨xa, xn, xc⟩ R.2.l) := HOX.out.kept (Kept.setRow _ _ _) (fun k h e => (HOX.out.own.notBox (HF.out.box 2 _ _ _ rfl) (by decide)) ((show k = gk5 from e) ▸ h))
  have HF : Hid (Fr No w (wk18.setRow gk5 (Bv.cells ⟨R.1.up, ⟨qa, qn, qc⟩, ⟨ra, rn, rc⟩⟩)) [(gk1, 26, Bv.cells ⟨up, ⟨ea, sn, ec⟩, ⟨la, tn, lc⟩⟩), (gk3, 31, Cm.cells c), (gk5, 26, Bv.cells ⟨R.1.up, ⟨qa, qn, qc⟩, ⟨ra, rn, rc⟩⟩), (gk7, 36, Av.cells avZ), (gk11, 26, Bv.cells ⟨R.1.up, ⟨qa, qn, qc⟩, ⟨ra, rn, rc⟩⟩), (gk15, 36, Av.cells ⟨R.2.er, R.2.e, ⟨xa, xn, xc⟩⟩)]) := HF.out.set 2 rfl _
  generalize wk18.setRow gk5 (Bv.cells ⟨R.1.up, ⟨qa, qn, qc⟩, ⟨ra, rn, rc⟩⟩) = wk19 at HF HQE HQL HOX hH ⊢
  refine any_store (i := 3) (o := { dst := none, op := Op.store 36 (Operand.tmp 7) (Operand.tmp 26), type := 0, pos := "bucket.go:18", after := #[{ on := 1, ground := Ground.data }, { on := 2, ground := Ground.chain }, { on := 0, ground := Ground.phase }, { on := 1, ground := Ground.phase }, { on := 2, ground := Ground.phase }], guard := none }) (w' := wk19.setRow gk7 (Av.cells ⟨R.2.er, R.2.e, ⟨xa, xn, xc⟩⟩)) rfl (by kernel_rfl) (by kernel_rfl) 36 _ _ rfl ⟨gk7, 0, none⟩ (.agg (Av.cells ⟨R.2.er, R.2.e, ⟨xa, xn, xc⟩⟩)) (by kernel_rfl) (by kernel_rfl) (st56 (HF.out.box 3 _ _ _ rfl) rfl) (⟨hH.1.rowNe (HF.out.ne 4 3 rfl rfl (by simp)) _, hH.2.rowNe (HF.out.ne 5 3 rfl rfl (by simp)) _⟩) (fun hH => ?_)
  try simp only [pA, pB, p1, p2, p3]
  have HQE : Hid (OwE (wk19.setRow gk7 (Av.cells ⟨R.2.er, R.2.e, ⟨xa, xn, xc⟩⟩)) w.heap.size ⟨qa, qn, qc⟩ R.1.es) := HQE.out.kept (Kept.setRow _ _ _) (fun k h e => (HQE.out.own.notBox (HF.out.box 3 _ _ _ rfl) (by decide)) ((show k = gk7 from e) ▸ h))
  have HQL : Hid (OwL (wk19.setRow gk7 (Av.cells ⟨R.2.er, R.2.e, ⟨xa, xn, xc⟩⟩)) w.heap.size ⟨ra, rn, rc⟩ R.1.ls) := HQL.out.kept (Kept.setRow _ _ _) (fun k h e => (HQL.out.own.notBox (HF.out.box 3 _ _ _ rfl) (by decide)) ((show k = gk7 from e) ▸ h))
  have HOX : Hid (OwE (wk19.setRow gk7 (Av.cells ⟨R.2.er, R.2.e, ⟨xa, xn, xc⟩⟩)) w.heap.size ⟨xa, xn, xc⟩ R.2.l) := HOX.out.kept (Kept.setRow _ _ _) (fun k h e => (HOX.out.own.notBox (HF.out.box 3 _ _ _ rfl) (by decide)) ((show k = gk7 from e) ▸ h))
  have HF : Hid (Fr No w (wk19.setRow gk7 (Av.cells ⟨R.2.er, R.2.e, ⟨xa, xn, xc⟩⟩)) [(gk1, 26, Bv.cells ⟨up, ⟨ea, sn, ec⟩, ⟨la, tn, lc⟩⟩), (gk3, 31, Cm.cells c), (gk5, 26, Bv.cells ⟨R.1.up, ⟨qa, qn, qc⟩, ⟨ra, rn, rc⟩⟩), (gk7, 36, Av.cells ⟨R.2.er, R.2.e, ⟨xa, xn, xc⟩⟩), (gk11, 26, Bv.cells ⟨R.1.up, ⟨qa, qn, qc⟩, ⟨ra, rn, rc⟩⟩), (gk15, 36, Av.cells ⟨R.2.er, R.2.e, ⟨xa, xn, xc⟩⟩)]) := HF.out.set 3 rfl _
  generalize wk19.setRow gk7 (Av.cells ⟨R.2.er, R.2.e, ⟨xa, xn, xc⟩⟩) = wk20 at HF HQE HQL HOX hH ⊢
  refine aK (i := 4) (oi := { dst := some 8, op := Op.assign (Operand.const (Value.int IntKind.i64 0)), type := 32, pos := "bucket.go:18", after := #[{ on := 3, ground := Ground.chain }, { on := 0, ground := Ground.phase }, { on := 1, ground := Ground.phase }, { on := 2, ground := Ground.phase }, { on := 3, ground := Ground.phase }], guard := none }) (v := .int .i64 0) hH ?_
  try simp only [pA, pB, p1, p2, p3]
  refine wpAnyH_done (by kernel_rfl) ?_ _
  try simp only [pA, pB, p1, p2, p3]
  clear hH
  go_wp2
  rw [HC.out]
  refine bodyPost_ret (results_row2_tmp (by rfl) _ _ gk5 gk7 (Bv.cells ⟨R.1.up, ⟨qa, qn, qc⟩, ⟨ra, rn, rc⟩⟩) (Av.cells ⟨R.2.er, R.2.e, ⟨xa, xn, xc⟩⟩) (by rfl) (by rfl) (ld25 (HF.out.box 2 _ _ _ rfl)) (ld56 (HF.out.box 3 _ _ _ rfl))) rfl ?_
  exact ⟨⟨qa, qn, qc⟩, ⟨ra, rn, rc⟩, ⟨xa, xn, xc⟩, rfl, HQE.out, HQL.out, HOX.out, HDD.out, HF.out.kept⟩

end Go.Proofs.Ytfemlnfknebalab
