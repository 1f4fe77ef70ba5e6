import Derived.Test.YtfemlnfknebalabT
namespace Go.Proofs.Ytfemlnfknebalab
open Go.RowKit
set_option linter.unusedVariables false
set_option linter.unusedSimpArgs false

/-- Short names for the walks. -/
theorem Kept.no {a b c : World} (h : Kept No a b) (k : Kept No b c) : Kept No a c := h.then k
theorem Fr.front {S : Nat → Prop} {w0 w : World} {l1 l2 : List (Nat × TypeId × Array Value)} (h : Fr S w0 w (l1 ++ l2)) : Fr S w0 w l1 := by
  have key : ∀ (i : Nat) x, l1[i]? = some x → (l1 ++ l2)[i]? = some x := fun i x hx => by
    rw [List.getElem?_append_left (List.getElem?_eq_some_iff.1 hx).1]; exact hx
  exact ⟨h.kept, fun i g T cs hi => h.box i g T cs (key i _ hi), fun i g T cs hi => h.low i g T cs (key i _ hi), fun i j g T cs T' cs' hi hj => h.inj i j g T cs T' cs' (key i _ hi) (key j _ hj)⟩
theorem cmdB_ok {c : Cm} (h : cmdB c = true) : badC c = false := by
  simp only [cmdB, Bool.and_eq_true, inB, decide_eq_true_eq] at h
  simp only [badC, Bool.or_eq_false_iff, decide_eq_false_iff_not]
  omega
theorem refS_ok {c : Cm} {up : Int} (h : cmdB c = true) (hu : up < 1048576) : refS up c = 0 := by
  unfold refS
  rw [cmdB_ok h, decide_eq_false (by omega)]
  rfl
theorem step_ls {b : Bk} (h : RiseL b.ls) (c : Cm) (room : Int) : RiseL (stepS b c room).1.ls ∧ (∀ j : Int, (j ≠ c.cl ∨ quest c = true) → ∀ e, e.cl = j → (e ∈ (stepS b c room).1.ls ↔ e ∈ b.ls)) ∧ (stepS b c room).1.ls.length ≤ b.ls.length + 1 := by
  by_cases hq : quest c = true
  · have e : (stepS b c room).1.ls = b.ls := by unfold stepS; rw [hq]; rfl
    rw [e]
    exact ⟨h, fun _ _ _ _ => Iff.rfl, by omega⟩
  · have e : (stepS b c room).1.ls = keepS b.ls (lastOf c (b.up + 1) (actS b.es c room).2) := by unfold stepS; simp only [Bool.not_eq_true] at hq; rw [hq]; rfl
    rw [e]
    obtain ⟨h1, h2, h3⟩ := keep_rise h (lastOf c (b.up + 1) (actS b.es c room).2)
    refine ⟨h1, fun j hj e he => h2 e ?_, h3⟩
    rcases hj with hj | hj
    · show e.cl ≠ c.cl
      rw [he]; exact hj
    · exact absurd hj hq
/-- What holds of the two buckets behind k commands. -/
structure AInv (nm : ByteArray) (k : Nat) (b o : Bk) (ro : Bool) : Prop where
  be : RiseE b.es
  bl : RiseL b.ls
  ae : RiseE o.es
  al : RiseL o.ls
  ben : b.es.length ≤ k
  bln : b.ls.length ≤ k
  aen : o.es.length ≤ k
  aln : o.ls.length ≤ k
  bu : 0 ≤ b.up ∧ b.up ≤ k
  au : 0 ≤ o.up ∧ o.up ≤ k
  only : ∀ e ∈ o.es, e.nm = nm
  like : ro = true → ∀ e, e.nm = nm → (e ∈ b.es ↔ e ∈ o.es)
theorem AInv.start (nm : ByteArray) : AInv nm 0 bkZ bkZ true :=
  ⟨fun i j x y h => by simp [bkZ] at h, fun i j x y h => by simp [bkZ] at h, fun i j x y h => by simp [bkZ] at h, fun i j x y h => by simp [bkZ] at h, Nat.le_refl _, Nat.le_refl _, Nat.le_refl _, Nat.le_refl _, ⟨by decide, by decide⟩, ⟨by decide, by decide⟩, fun e h => by simp [bkZ] at h, fun _ _ _ => Iff.rfl⟩
theorem AInv.same {nm : ByteArray} {k : Nat} {b o : Bk} {ro : Bool} (h : AInv nm k b o ro) (c : Cm) (room : Int) (hn : c.nm = nm) : AInv nm (k + 1) (stepS b c room).1 (stepS o c room).1 (ro && !((stepS b c room).2.er == 103)) := by
  obtain ⟨h1, h2, h3⟩ := act_rise h.be c room
  obtain ⟨l1, l2, l3⟩ := step_ls h.bl c room
  obtain ⟨g1, g2, g3⟩ := act_rise h.ae c room
  obtain ⟨m1, m2, m3⟩ := step_ls h.al c room
  refine ⟨h1, l1, g1, m1, Nat.le_trans h3 (by have := h.ben; omega), Nat.le_trans l3 (by have := h.bln; omega), Nat.le_trans g3 (by have := h.aen; omega), Nat.le_trans m3 (by have := h.aln; omega), ?_, ?_, ?_, fun hro e he => ?_⟩
  · have := h.bu; show 0 ≤ b.up + 1 ∧ b.up + 1 ≤ ((k + 1 : Nat) : Int); omega
  · have := h.au; show 0 ≤ o.up + 1 ∧ o.up + 1 ≤ ((k + 1 : Nat) : Int); omega
  · intro e he
    by_cases h4 : e.nm = c.nm
    · rw [h4, hn]
    · exact absurd (h.only e ((g2 e h4).1 he)) (by rw [← hn]; exact h4)
  · simp at hro
    subst hn
    exact act_alike h.be h.ae c room (h.like hro.1) h.only hro.2 e he
theorem AInv.es {nm : ByteArray} {k : Nat} {b o : Bk} {ro : Bool} (h : AInv nm k b o ro) (c : Cm) (room : Int) (hn : c.nm ≠ nm) : eIs (stepS b c room).1.es nm = eIs b.es nm ∧ findE (stepS b c room).1.es nm = findE b.es nm := by
  obtain ⟨h1, h2, h3⟩ := act_rise h.be c room
  exact findE_congr h1 h.be (fun e he => h2 e (fun e2 => hn (by rw [← e2, he])))
theorem AInv.ls {nm : ByteArray} {k : Nat} {b o : Bk} {ro : Bool} (h : AInv nm k b o ro) (c : Cm) (room : Int) (j : Int) (hj : j ≠ c.cl ∨ quest c = true) : lIs (stepS b c room).1.ls j = lIs b.ls j ∧ findL (stepS b c room).1.ls j = findL b.ls j := by
  obtain ⟨l1, l2, l3⟩ := step_ls h.bl c room
  exact findL_congr l1 h.bl (fun e he => l2 j hj e he)
def hC : Cm := ⟨1, 4, 2, ⟨#[113, 117, 97, 121]⟩, 0, 0, 0, 0, 0⟩
def hE : En := ⟨⟨#[113, 117, 97, 121]⟩, 4, 2, 0⟩
def hL : La := ⟨4, 2, 1, 0, 4, 2, 0⟩
theorem head_step : stepS ⟨0, [], []⟩ hC 1 = (⟨1, [hE], [hL]⟩, ⟨0, hE, []⟩) := by rfl
theorem head_ref : refS 0 hC = 0 := by rfl
theorem head_is : eIs [hE] ⟨#[113, 117, 97, 121]⟩ = true := by kernel_rfl
theorem head_find : findE [hE] ⟨#[113, 117, 97, 121]⟩ = hE := by rw [findE_yes head_is]; kernel_rfl
set_option maxRecDepth 100000 in
set_option maxHeartbeats 4000000 in
theorem head_any  (w : World) : Calls Try.prog 8 #[] w (fun e w' => e = .returned (.bool true) ∧ Kept No w w') := by
  obtain ⟨C, hC⟩ : ∃ C : Ending → World → Prop, C = (fun e w' => e = .returned (.bool true) ∧ Kept No w w') := ⟨_, rfl⟩
  have HC : Hid (C = (fun e w' => e = .returned (.bool true) ∧ Kept No w w')) := hC
  rw [← hC]
  clear hC
  have HF : Hid (Fr No w w []) := Fr.start _ _
  have HAP : Hid (∀ W, Calls Try.prog 6 #[.agg bvZ.cells, .agg hC.cells, .int .i64 1] W (ApYes W (⟨1, [hE], [hL]⟩, ⟨0, hE, []⟩))) := fun W => by
    rw [← head_step]
    exact apply_yes 0 none 0 0 none 0 0 [] [] hC 1 W head_ref ⟨RowsAt.nil _ _ _, rfl, fun _ => rfl⟩ ⟨RowsAt.nil _ _ _, rfl, fun _ => rfl⟩ (by omega) (by omega) (by omega)
  go_enter Try.func8, Try.ntmps8
  go_upto_region 0 with fail
  refine WL.start ?_
  refine tK (.bool false) ?_
  try simp only [pA, pB, p1, p2, p3]
  refine WL.nil ?_
  try simp only [pA, pB, p1, p2, p3]
  go_upto_region 1 with fail
  refine WL.start ?_
  refine tW (.agg (Bv.cells bvZ)) (exec_build 26 _ rfl (Bv.cells bvZ) (by kernel_rfl)) ?_
  try simp only [pA, pB, p1, p2, p3]
  refine tW (.agg (Cm.cells ⟨1, 4, 2, ⟨#[113, 117, 97, 121]⟩, 0, 0, 0, 0, 0⟩)) (exec_build 31 _ rfl (Cm.cells ⟨1, 4, 2, ⟨#[113, 117, 97, 121]⟩, 0, 0, 0, 0, 0⟩) (by kernel_rfl)) ?_
  try simp only [pA, pB, p1, p2, p3]
  refine wp_callW 6 #[.agg (Bv.cells bvZ), .agg (Cm.cells ⟨1, 4, 2, ⟨#[113, 117, 97, 121]⟩, 0, 0, 0, 0, 0⟩), .int .i64 1] (by kernel_rfl) _ (HAP.out _) (by kernel_rfl) ?_
  rintro e wk1 ⟨⟨qa, qn, qc⟩, ⟨ra, rn, rc⟩, ⟨xa, xn, xc⟩, rfl, hQ, hR, hX, hD, hk⟩
  obtain rfl : 1 = qn := hQ.len
  obtain rfl : 1 = rn := hR.len
  have HQE : Hid (OwE wk1 w.heap.size ⟨qa, 1, qc⟩ [hE]) := hQ.lower HF.out.kept.size
  have HF : Hid (Fr No w (wk1) []) := HF.out.no hk
  clear hQ hR hX hD hk HAP
  refine ⟨.tuple #[.agg (Bv.cells ⟨1, ⟨qa, 1, qc⟩, ⟨ra, 1, rc⟩⟩), .agg (Av.cells ⟨0, hE, ⟨xa, xn, xc⟩⟩), .int .i64 0], rfl, ?_⟩
  try simp only [pA, pB, p1, p2, p3]
  refine tK (.tuple #[.agg (Bv.cells ⟨1, ⟨qa, 1, qc⟩, ⟨ra, 1, rc⟩⟩), .agg (Av.cells ⟨0, hE, ⟨xa, xn, xc⟩⟩), .int .i64 0]) ?_
  try simp only [pA, pB, p1, p2, p3]
  refine tK (.agg (Bv.cells ⟨1, ⟨qa, 1, qc⟩, ⟨ra, 1, rc⟩⟩)) ?_
  try simp only [pA, pB, p1, p2, p3]
  refine tK (.agg (Av.cells ⟨0, hE, ⟨xa, xn, xc⟩⟩)) ?_
  try simp only [pA, pB, p1, p2, p3]
  refine tK (.int .i64 0) ?_
  try simp only [pA, pB, p1, p2, p3]
  refine wp_runW (.pointer (some ⟨wk1.heap.size, 0, none⟩)) (wk1.alloc (.cells (Bv.cells bvZ) 26)) (exec_alloc 26 rfl (Bv.cells bvZ) zero25) (by kernel_rfl) ?_
  try simp only [pA, pB, p1, p2, p3]
  have HQE_s : Hid (OwE wk1 w.heap.size ⟨qa, 1, qc⟩ [hE]) := HQE
  have HKs : Hid (Kept No wk1 wk1) := Kept.refl _ _
  have HG_gk2 : Hid (wk1.heap.size ≤ wk1.heap.size) := Nat.le_refl _
  have HQE : Hid (OwE (wk1.alloc (.cells (Bv.cells bvZ) 26)) w.heap.size ⟨qa, 1, qc⟩ [hE]) := HQE.out.no ((Kept.refl No _).alloc _)
  have HKs : Hid (Kept No wk1 (wk1.alloc (.cells (Bv.cells bvZ) 26))) := HKs.out.no ((Kept.refl No _).alloc _)
  have HF : Hid (Fr No w (wk1.alloc (.cells (Bv.cells bvZ) 26)) [(wk1.heap.size, 26, Bv.cells bvZ)]) := HF.out.alloc _ _
  generalize wk1.alloc (.cells (Bv.cells bvZ) 26) = wk3 at HF HQE HKs ⊢
  obtain ⟨gk2, hg⟩ : ∃ g, g = wk1.heap.size := ⟨_, rfl⟩
  have HG_gk2 : Hid (wk1.heap.size ≤ gk2) := by show _ ≤ _; rw [hg]; exact HG_gk2.out
  rw [← hg] at HF ⊢
  clear hg
  refine wp_runW (.pointer (some ⟨wk3.heap.size, 0, none⟩)) (wk3.alloc (.cells (Av.cells avZ) 36)) (exec_alloc 36 rfl (Av.cells avZ) zero56) (by kernel_rfl) ?_
  try simp only [pA, pB, p1, p2, p3]
  have HG_gk4 : Hid (wk1.heap.size ≤ wk3.heap.size) := HKs.out.size
  have HQE : Hid (OwE (wk3.alloc (.cells (Av.cells avZ) 36)) w.heap.size ⟨qa, 1, qc⟩ [hE]) := HQE.out.no ((Kept.refl No _).alloc _)
  have HKs : Hid (Kept No wk1 (wk3.alloc (.cells (Av.cells avZ) 36))) := HKs.out.no ((Kept.refl No _).alloc _)
  have HF : Hid (Fr No w (wk3.alloc (.cells (Av.cells avZ) 36)) [(gk2, 26, Bv.cells bvZ), (wk3.heap.size, 36, Av.cells avZ)]) := HF.out.alloc _ _
  generalize wk3.alloc (.cells (Av.cells avZ) 36) = wk5 at HF HQE HKs ⊢
  obtain ⟨gk4, hg⟩ : ∃ g, g = wk3.heap.size := ⟨_, rfl⟩
  have HG_gk4 : Hid (wk1.heap.size ≤ gk4) := by show _ ≤ _; rw [hg]; exact HG_gk4.out
  rw [← hg] at HF ⊢
  clear hg
  refine wp_storeW 26 _ _ rfl ⟨gk2, 0, none⟩ (.agg (Bv.cells ⟨1, ⟨qa, 1, qc⟩, ⟨ra, 1, rc⟩⟩)) (by kernel_rfl) (by kernel_rfl) (wk5.setRow gk2 (Bv.cells ⟨1, ⟨qa, 1, qc⟩, ⟨ra, 1, rc⟩⟩)) (st25 (HF.out.box 0 _ _ _ rfl) rfl) (by kernel_rfl) ?_
  try simp only [pA, pB, p1, p2, p3]
  have HQE : Hid (OwE (wk5.setRow gk2 (Bv.cells ⟨1, ⟨qa, 1, qc⟩, ⟨ra, 1, rc⟩⟩)) w.heap.size ⟨qa, 1, qc⟩ [hE]) := HQE_s.out.no (HKs.out.newRow HG_gk2.out _)
  have HKs : Hid (Kept No wk1 (wk5.setRow gk2 (Bv.cells ⟨1, ⟨qa, 1, qc⟩, ⟨ra, 1, rc⟩⟩))) := HKs.out.newRow HG_gk2.out _
  have HF : Hid (Fr No w (wk5.setRow gk2 (Bv.cells ⟨1, ⟨qa, 1, qc⟩, ⟨ra, 1, rc⟩⟩)) [(gk2, 26, Bv.cells ⟨1, ⟨qa, 1, qc⟩, ⟨ra, 1, rc⟩⟩), (gk4, 36, Av.cells avZ)]) := HF.out.set 0 rfl _
  generalize wk5.setRow gk2 (Bv.cells ⟨1, ⟨qa, 1, qc⟩, ⟨ra, 1, rc⟩⟩) = wk6 at HF HQE HKs ⊢
  refine wp_storeW 36 _ _ rfl ⟨gk4, 0, none⟩ (.agg (Av.cells ⟨0, hE, ⟨xa, xn, xc⟩⟩)) (by kernel_rfl) (by kernel_rfl) (wk6.setRow gk4 (Av.cells ⟨0, hE, ⟨xa, xn, xc⟩⟩)) (st56 (HF.out.box 1 _ _ _ rfl) rfl) (by kernel_rfl) ?_
  try simp only [pA, pB, p1, p2, p3]
  have HQE : Hid (OwE (wk6.setRow gk4 (Av.cells ⟨0, hE, ⟨xa, xn, xc⟩⟩)) w.heap.size ⟨qa, 1, qc⟩ [hE]) := HQE_s.out.no (HKs.out.newRow HG_gk4.out _)
  have HKs : Hid (Kept No wk1 (wk6.setRow gk4 (Av.cells ⟨0, hE, ⟨xa, xn, xc⟩⟩))) := HKs.out.newRow HG_gk4.out _
  have HF : Hid (Fr No w (wk6.setRow gk4 (Av.cells ⟨0, hE, ⟨xa, xn, xc⟩⟩)) [(gk2, 26, Bv.cells ⟨1, ⟨qa, 1, qc⟩, ⟨ra, 1, rc⟩⟩), (gk4, 36, Av.cells ⟨0, hE, ⟨xa, xn, xc⟩⟩)]) := HF.out.set 1 rfl _
  generalize wk6.setRow gk4 (Av.cells ⟨0, hE, ⟨xa, xn, xc⟩⟩) = wk7 at HF HQE HKs ⊢
  refine tK (.int .i64 0) ?_
  try simp only [pA, pB, p1, p2, p3]
  refine WL.nil ?_
  try simp only [pA, pB, p1, p2, p3]
  clear HKs HQE_s HG_gk2 HG_gk4
  go_upto_region 2 with fail
  refine WL.start ?_
  refine tW (.agg (Bv.cells ⟨1, ⟨qa, 1, qc⟩, ⟨ra, 1, rc⟩⟩)) (exec_load 26 _ rfl ⟨gk2, 0, none⟩ (by kernel_rfl) (.agg (Bv.cells ⟨1, ⟨qa, 1, qc⟩, ⟨ra, 1, rc⟩⟩)) (ld25 (HF.out.box 0 _ _ _ rfl))) ?_
  try simp only [pA, pB, p1, p2, p3]
  refine wp_callW 26 #[.agg (Bv.cells ⟨1, ⟨qa, 1, qc⟩, ⟨ra, 1, rc⟩⟩), .string ⟨#[113, 117, 97, 121]⟩] (by kernel_rfl) _ (find_any 1 qa 1 qc ⟨ra, 1, rc⟩ [hE] ⟨#[113, 117, 97, 121]⟩ _ rfl (by omega) HQE.out.rd.row) (by kernel_rfl) ?_
  rintro e wk8 ⟨rfl, hk⟩
  have HQE : Hid (OwE (wk8) w.heap.size ⟨qa, 1, qc⟩ [hE]) := HQE.out.no hk
  have HF : Hid (Fr No w (wk8) [(gk2, 26, Bv.cells ⟨1, ⟨qa, 1, qc⟩, ⟨ra, 1, rc⟩⟩), (gk4, 36, Av.cells ⟨0, hE, ⟨xa, xn, xc⟩⟩)]) := HF.out.no hk
  clear hk
  refine ⟨.tuple #[.agg (En.cells hE), .bool true], by rw [head_find, head_is], ?_⟩
  try simp only [pA, pB, p1, p2, p3]
  refine tK (.tuple #[.agg (En.cells hE), .bool true]) ?_
  try simp only [pA, pB, p1, p2, p3]
  refine tK (.agg (En.cells hE)) ?_
  try simp only [pA, pB, p1, p2, p3]
  refine tK (.bool true) ?_
  try simp only [pA, pB, p1, p2, p3]
  refine wp_runW (.pointer (some ⟨wk8.heap.size, 0, none⟩)) (wk8.alloc (.cells (En.cells enZ) 34)) (exec_alloc 34 rfl (En.cells enZ) zero54) (by kernel_rfl) ?_
  try simp only [pA, pB, p1, p2, p3]
  have HQE_s : Hid (OwE wk8 w.heap.size ⟨qa, 1, qc⟩ [hE]) := HQE
  have HKs : Hid (Kept No wk8 wk8) := Kept.refl _ _
  have HG_gk9 : Hid (wk8.heap.size ≤ wk8.heap.size) := Nat.le_refl _
  have HQE : Hid (OwE (wk8.alloc (.cells (En.cells enZ) 34)) w.heap.size ⟨qa, 1, qc⟩ [hE]) := HQE.out.no ((Kept.refl No _).alloc _)
  have HKs : Hid (Kept No wk8 (wk8.alloc (.cells (En.cells enZ) 34))) := HKs.out.no ((Kept.refl No _).alloc _)
  have HF : Hid (Fr No w (wk8.alloc (.cells (En.cells enZ) 34)) [(gk2, 26, Bv.cells ⟨1, ⟨qa, 1, qc⟩, ⟨ra, 1, rc⟩⟩), (gk4, 36, Av.cells ⟨0, hE, ⟨xa, xn, xc⟩⟩), (wk8.heap.size, 34, En.cells enZ)]) := HF.out.alloc _ _
  generalize wk8.alloc (.cells (En.cells enZ) 34) = wk10 at HF HQE HKs ⊢
  obtain ⟨gk9, hg⟩ : ∃ g, g = wk8.heap.size := ⟨_, rfl⟩
  have HG_gk9 : Hid (wk8.heap.size ≤ gk9) := by show _ ≤ _; rw [hg]; exact HG_gk9.out
  rw [← hg] at HF ⊢
  clear hg
  refine wp_storeW 34 _ _ rfl ⟨gk9, 0, none⟩ (.agg (En.cells hE)) (by kernel_rfl) (by kernel_rfl) (wk10.setRow gk9 (En.cells hE)) (st54 (HF.out.box 2 _ _ _ rfl) rfl) (by kernel_rfl) ?_
  try simp only [pA, pB, p1, p2, p3]
  have HQE : Hid (OwE (wk10.setRow gk9 (En.cells hE)) w.heap.size ⟨qa, 1, qc⟩ [hE]) := HQE_s.out.no (HKs.out.newRow HG_gk9.out _)
  have HKs : Hid (Kept No wk8 (wk10.setRow gk9 (En.cells hE))) := HKs.out.newRow HG_gk9.out _
  have HF : Hid (Fr No w (wk10.setRow gk9 (En.cells hE)) [(gk2, 26, Bv.cells ⟨1, ⟨qa, 1, qc⟩, ⟨ra, 1, rc⟩⟩), (gk4, 36, Av.cells ⟨0, hE, ⟨xa, xn, xc⟩⟩), (gk9, 34, En.cells hE)]) := HF.out.set 2 rfl _
  generalize wk10.setRow gk9 (En.cells hE) = wk11 at HF HQE HKs ⊢
  refine tK (.bool true) ?_
  try simp only [pA, pB, p1, p2, p3]
  refine WL.nil ?_
  try simp only [pA, pB, p1, p2, p3]
  clear HKs HQE_s HG_gk9
  go_upto_region 3 with fail
  refine WL.start ?_
  refine tK (.int .i64 0) ?_
  try simp only [pA, pB, p1, p2, p3]
  refine tW (.bool true) (exec_bin .eql 3 _ _ _ rfl (.int .i64 0) (.int .i64 0) (.bool true) (by kernel_rfl) (by kernel_rfl) (by kernel_rfl) (by kernel_rfl)) ?_
  try simp only [pA, pB, p1, p2, p3]
  refine tK (.bool true) ?_
  try simp only [pA, pB, p1, p2, p3]
  refine tK (.bool true) ?_
  try simp only [pA, pB, p1, p2, p3]
  refine tK (.bool true) ?_
  try simp only [pA, pB, p1, p2, p3]
  refine tK (.bool true) ?_
  try simp only [pA, pB, p1, p2, p3]
  refine tW (.agg (En.cells hE)) (exec_load 34 _ rfl ⟨gk9, 0, none⟩ (by kernel_rfl) (.agg (En.cells hE)) (ld54 (HF.out.box 2 _ _ _ rfl))) ?_
  try simp only [pA, pB, p1, p2, p3]
  refine tK (.pointer (some ⟨gk4, 1, none⟩)) ?_
  try simp only [pA, pB, p1, p2, p3]
  refine tW (.agg (En.cells hE)) (exec_load 34 _ rfl ⟨gk4, 1, none⟩ (by kernel_rfl) (.agg (En.cells hE)) (ldAE (HF.out.box 1 _ _ _ rfl))) ?_
  try simp only [pA, pB, p1, p2, p3]
  refine tW (.bool true) (exec_bin .eql 34 _ _ _ rfl (.agg (En.cells hE)) (.agg (En.cells hE)) (.bool true) (by kernel_rfl) (by kernel_rfl) (by kernel_rfl) (by kernel_rfl)) ?_
  try simp only [pA, pB, p1, p2, p3]
  refine tK (.bool true) ?_
  try simp only [pA, pB, p1, p2, p3]
  refine tK (.bool true) ?_
  try simp only [pA, pB, p1, p2, p3]
  refine tK (.pointer (some ⟨gk9, 1, none⟩)) ?_
  try simp only [pA, pB, p1, p2, p3]
  refine tW (.agg (#[.int .i64 4, .int .i64 2])) (exec_load 29 _ rfl ⟨gk9, 1, none⟩ (by kernel_rfl) (.agg (#[.int .i64 4, .int .i64 2])) (ld27 (cs := En.cs hE) (HF.out.box 2 _ _ _ rfl) rfl rfl)) ?_
  try simp only [pA, pB, p1, p2, p3]
  refine tW (.agg (#[.int .i64 4, .int .i64 2])) (exec_build 29 _ rfl (#[.int .i64 4, .int .i64 2]) (by kernel_rfl)) ?_
  try simp only [pA, pB, p1, p2, p3]
  refine tW (.bool true) (exec_bin .eql 29 _ _ _ rfl (.agg (#[.int .i64 4, .int .i64 2])) (.agg (#[.int .i64 4, .int .i64 2])) (.bool true) (by kernel_rfl) (by kernel_rfl) (by kernel_rfl) (by kernel_rfl)) ?_
  try simp only [pA, pB, p1, p2, p3]
  refine tK (.bool true) ?_
  try simp only [pA, pB, p1, p2, p3]
  refine tK (.bool true) ?_
  try simp only [pA, pB, p1, p2, p3]
  refine tK (.pointer (some ⟨gk2, 0, none⟩)) ?_
  try simp only [pA, pB, p1, p2, p3]
  refine tW (.int .i64 1) (exec_load 3 _ rfl ⟨gk2, 0, none⟩ (by kernel_rfl) (.int .i64 1) (ld3 ((HF.out.box 0 _ _ _ rfl).cell 0))) ?_
  try simp only [pA, pB, p1, p2, p3]
  refine tW (.bool true) (exec_bin .eql 3 _ _ _ rfl (.int .i64 1) (.int .i64 1) (.bool true) (by kernel_rfl) (by kernel_rfl) (by kernel_rfl) (by kernel_rfl)) ?_
  try simp only [pA, pB, p1, p2, p3]
  refine tK (.bool true) ?_
  try simp only [pA, pB, p1, p2, p3]
  refine tK (.bool true) ?_
  try simp only [pA, pB, p1, p2, p3]
  refine tK (.pointer (some ⟨gk2, 2, none⟩)) ?_
  try simp only [pA, pB, p1, p2, p3]
  refine tW (.slice ra 1 rc) (exec_load 24 _ rfl ⟨gk2, 2, none⟩ (by kernel_rfl) (.slice ra 1 rc) (ld23 ((HF.out.box 0 _ _ _ rfl).cell 2))) ?_
  try simp only [pA, pB, p1, p2, p3]
  refine tK (.int .i64 ((1 : Nat) : Int)) ?_
  try simp only [pA, pB, p1, p2, p3]
  refine tW (.bool true) (exec_bin .eql 3 _ _ _ rfl (.int .i64 ((1 : Nat) : Int)) (.int .i64 1) (.bool true) (by kernel_rfl) (by kernel_rfl) (by kernel_rfl) (by kernel_rfl)) ?_
  try simp only [pA, pB, p1, p2, p3]
  refine tK (.bool true) ?_
  try simp only [pA, pB, p1, p2, p3]
  refine tK (.bool true) ?_
  try simp only [pA, pB, p1, p2, p3]
  refine WL.nil ?_
  try simp only [pA, pB, p1, p2, p3]
  go_wp2
  rw [HC.out]
  exact ⟨rfl, HF.out.kept⟩

end Go.Proofs.Ytfemlnfknebalab
