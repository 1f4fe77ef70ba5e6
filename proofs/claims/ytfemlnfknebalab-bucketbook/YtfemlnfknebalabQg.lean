import Derived.Test.YtfemlnfknebalabVb
namespace Go.Proofs.Ytfemlnfknebalab
open Go.RowKit
set_option linter.unusedVariables false
set_option linter.unusedSimpArgs false

/-- Answers in a row whose lists are one's own, no two in one block. -/
structure AnsW (w : World) (base : Nat) (s : Sl) (vs : List Av) (az : List An) : Prop extends Ans w base s vs az where
  ow : ∀ (j : Nat) v, vs[j]? = some v → ∃ a, az[j]? = some a ∧ OwE w base v.l a.l
  dis : ∀ (i j : Nat) v u k, vs[i]? = some v → vs[j]? = some u → At v.l.a k → At u.l.a k → i = j
theorem AnsW.nil (w : World) (base : Nat) : AnsW w base ⟨none, 0, 0⟩ [] [] := ⟨Ans.nil _ _, fun j v h => by simp at h, fun i j v u k h => by simp at h⟩
theorem AnsW.kept {S : Nat → Prop} {w w' : World} {base : Nat} {s : Sl} {vs : List Av} {az : List An} (h : AnsW w base s vs az) (hk : Kept S w w') (h1 : ∀ k, At s.a k → ¬ S k) (h2 : ∀ (i : Nat) v, vs[i]? = some v → ∀ k, At v.l.a k → ¬ S k) : AnsW w' base s vs az :=
  ⟨h.toAns.kept hk h1 h2, fun j v e => by obtain ⟨a, e1, e2⟩ := h.ow j v e; exact ⟨a, e1, e2.kept hk (h2 j v e)⟩, h.dis⟩
theorem AnsW.no {w w' : World} {base : Nat} {s : Sl} {vs : List Av} {az : List An} (h : AnsW w base s vs az) (hk : Kept No w w') : AnsW w' base s vs az := h.kept hk (fun _ _ e => e) (fun _ _ _ _ _ e => e)
theorem AnsW.tys {S : Nat → Prop} {w w' : World} {base : Nat} {s : Sl} {vs : List Av} {az : List An} (h : AnsW w base s vs az) (hk : Kept S w w') (hS : ∀ k, S k → ∃ T cs, Box w k T cs ∧ T ≠ 34 ∧ T ≠ 36) : AnsW w' base s vs az :=
  h.kept hk (fun k hk' e => by obtain ⟨T, cs, hb, _, hT⟩ := hS k e; exact h.own.notBox hb (Ne.symm hT) hk') (fun i v e k hk' hs => by obtain ⟨T, cs, hb, hT, _⟩ := hS k hs; obtain ⟨a, _, ha⟩ := h.get i v e; exact ha.not hb hT hk')
theorem AnsW.row {w : World} {base g : Nat} {s : Sl} {vs : List Av} {az : List An} {T : TypeId} {cs : Array Value} (h : AnsW w base s vs az) (hb : Box w g T cs) (h1 : T ≠ 34) (h2 : T ≠ 36) (cs' : Array Value) : AnsW (w.setRow g cs') base s vs az := h.tys (Kept.setRow _ _ _) (fun k e => ⟨T, cs, (show k = g from e) ▸ hb, h1, h2⟩)
theorem AnsW.lower {w : World} {base base' : Nat} {s : Sl} {vs : List Av} {az : List An} (h : AnsW w base s vs az) (hb : base' ≤ base) : AnsW w base' s vs az := ⟨h.toAns.lower hb, fun j v e => by obtain ⟨a, e1, e2⟩ := h.ow j v e; exact ⟨a, e1, e2.lower hb⟩, h.dis⟩
theorem last_of {α : Type} {l : List α} {x y : α} {i : Nat} (h : (l ++ [x])[i]? = some y) : (i < l.length ∧ l[i]? = some y) ∨ (i = l.length ∧ y = x) := by
  by_cases hi : i < l.length
  · rw [List.getElem?_append_left hi] at h; exact .inl ⟨hi, h⟩
  · rw [List.getElem?_append_right (by omega)] at h
    have h0 : i - l.length = 0 := by have := (List.getElem?_eq_some_iff.1 h).1; simp at this; omega
    rw [h0] at h
    simp at h
    exact .inr ⟨by omega, h.symm⟩
theorem AnsW.push {w w' : World} {base : Nat} {sa a' : Option Addr} {n c c' : Nat} {vs : List Av} {az : List An} (h : AnsW w base ⟨sa, n, c⟩ vs az) {v : Av} {a : An} (hv : AnAt w v a) (hvo : OwE w base v.l a.l) (hvd : ∀ (j : Nat) u, vs[j]? = some u → ∀ k, At u.l.a k → ¬ At v.l.a k) (ho : Own 36 6 w' base a' c' (n + 1) (avL (vs ++ [v]))) (hk : Kept (At sa) w w') : AnsW w' base ⟨a', n + 1, c'⟩ (vs ++ [v]) (az ++ [a]) := by
  have hl : vs.length = n := h.lv
  have hl2 : az.length = n := h.la
  have hno : ∀ {s : Sl} {es : List En}, OwE w base s es → ∀ k, At s.a k → ¬ At sa k := fun hx k h1 h2 => hx.own.apart h.own (by decide) h1 h2
  refine ⟨h.toAns.push hv ho hk, fun j u e => ?_, fun i j u t k e1 e2 h1 h2 => ?_⟩
  · rcases last_of e with ⟨hj, e⟩ | ⟨hj, rfl⟩
    · obtain ⟨b, e1, e2⟩ := h.ow j u e
      exact ⟨b, by rw [List.getElem?_append_left (by omega)]; exact e1, e2.kept hk (hno e2)⟩
    · exact ⟨a, by rw [List.getElem?_append_right (by omega), show j - az.length = 0 by omega]; rfl, hvo.kept hk (hno hvo)⟩
  · rcases last_of e1 with ⟨hi, e3⟩ | ⟨hi, e3⟩ <;> rcases last_of e2 with ⟨hj, e4⟩ | ⟨hj, e4⟩
    · exact h.dis i j u t k e3 e4 h1 h2
    · exact absurd (e4 ▸ h2) (hvd i u e3 k h1)
    · exact absurd (e3 ▸ h1) (hvd j t e4 k h2)
    · omega
/-- What a row of commands tells, all of it one's own. -/
def RepOw (w : World) (er : Int) (b : Bk) (az : List An) (e : Ending) (w' : World) : Prop :=
  ∃ (v : Bv) (s : Sl) (vs : List Av), e = .returned (.tuple #[.agg v.cells, s.v, .int .i64 er]) ∧ v.up = b.up ∧ OwE w' w.heap.size v.e b.es ∧ OwL w' w.heap.size v.l b.ls ∧ AnsW w' w.heap.size s vs az ∧ (∀ (i : Nat) x, vs[i]? = some x → ∀ k, At x.l.a k → ¬ At v.e.a k) ∧ Kept No w w'
set_option maxRecDepth 100000 in
set_option maxHeartbeats 4000000 in
theorem replay_own (up : Int) (ea : Option Addr) (en ec : Nat) (la : Option Addr) (ln lc : Nat) (room : Int) (ca : Option Addr) (cn cc : Nat) (es : List En) (ls : List La) (xs : List Cm) (K : Nat) (w : World) (he : RdE w ⟨ea, en, ec⟩ es) (hl : RdL w ⟨la, ln, lc⟩ ls) (hfi : Fine K ⟨up, es, ls⟩) (hK : K + cn ≤ 1000) (hxl : xs.length = cn) (hcn : cn ≤ 400) (hX : Cs w ca xs) : Calls Try.prog 10 #[.agg (Bv.cells ⟨up, ⟨ea, en, ec⟩, ⟨la, ln, lc⟩⟩), .int .i64 room, .slice ca cn cc] w (RepOw w (errR room ⟨up, es, ls⟩ xs) (resB room ⟨up, es, ls⟩ xs) (resA room ⟨up, es, ls⟩ xs)) := by
  obtain ⟨C, hC⟩ : ∃ C : Ending → World → Prop, C = (RepOw w (errR room ⟨up, es, ls⟩ xs) (resB room ⟨up, es, ls⟩ xs) (resA room ⟨up, es, ls⟩ xs)) := ⟨_, rfl⟩
  have HC : Hid (C = (RepOw w (errR room ⟨up, es, ls⟩ xs) (resB room ⟨up, es, ls⟩ xs) (resA room ⟨up, es, ls⟩ xs))) := hC
  rw [← hC]
  clear hC
  have HL : Hid (xs.length = cn) := hxl
  have HX : Hid (Cs w ca xs) := hX
  have hen : en ≤ 1000 := by have h1 : es.length = en := he.len; have h2 : es.length ≤ K := hfi.ne; omega
  have hln : ln ≤ 1000 := by have h1 : ls.length = ln := hl.len; have h2 : ls.length ≤ K := hfi.nl; omega
  have HFi0 : Hid (Fine K ⟨up, es, ls⟩) := hfi
  have HE : Hid (RdE w ⟨ea, en, ec⟩ es) := he
  have HLs : Hid (RdL w ⟨la, ln, lc⟩ ls) := hl
  clear hxl hX hfi he hl
  have HF : Hid (Fr No w w []) := Fr.start _ _
  go_enter Try.func10, Try.ntmps10
  go_upto_region 0 with fail
  refine WL.start ?_
  refine wp_runW (.pointer (some ⟨w.heap.size, 0, none⟩)) (w.alloc (.cells (Bv.cells ⟨up, ⟨ea, en, ec⟩, ⟨la, ln, lc⟩⟩) 26)) (exec_box 26 _ rfl (Bv.cells ⟨up, ⟨ea, en, ec⟩, ⟨la, ln, lc⟩⟩) (by kernel_rfl)) (by kernel_rfl) ?_
  try simp only [pA, pB, p1, p2, p3]
  have HF : Hid (Fr No w (w.alloc (.cells (Bv.cells ⟨up, ⟨ea, en, ec⟩, ⟨la, ln, lc⟩⟩) 26)) [(w.heap.size, 26, Bv.cells ⟨up, ⟨ea, en, ec⟩, ⟨la, ln, lc⟩⟩)]) := HF.out.alloc _ _
  generalize w.alloc (.cells (Bv.cells ⟨up, ⟨ea, en, ec⟩, ⟨la, ln, lc⟩⟩) 26) = wk2 at HF ⊢
  generalize w.heap.size = gk1 at HF ⊢
  refine wp_runW (.pointer (some ⟨wk2.heap.size, 0, none⟩)) (wk2.alloc (.cells (Bv.cells bvZ) 26)) (exec_alloc 26 rfl (Bv.cells bvZ) zero25) (by kernel_rfl) ?_
  try simp only [pA, pB, p1, p2, p3]
  have HF : Hid (Fr No w (wk2.alloc (.cells (Bv.cells bvZ) 26)) [(gk1, 26, Bv.cells ⟨up, ⟨ea, en, ec⟩, ⟨la, ln, lc⟩⟩), (wk2.heap.size, 26, Bv.cells bvZ)]) := HF.out.alloc _ _
  generalize wk2.alloc (.cells (Bv.cells bvZ) 26) = wk4 at HF ⊢
  generalize wk2.heap.size = gk3 at HF ⊢
  refine tK (.slice none 0 0) ?_
  try simp only [pA, pB, p1, p2, p3]
  refine tK (.int .i64 0) ?_
  try simp only [pA, pB, p1, p2, p3]
  refine WL.nil ?_
  try simp only [pA, pB, p1, p2, p3]
  go_upto_region 1 with fail
  refine WL.start ?_
  refine tW (.agg (Bv.cells ⟨up, ⟨ea, en, ec⟩, ⟨la, ln, lc⟩⟩)) (exec_load 26 _ rfl ⟨gk1, 0, none⟩ (by kernel_rfl) (.agg (Bv.cells ⟨up, ⟨ea, en, ec⟩, ⟨la, ln, lc⟩⟩)) (ld25 (HF.out.box 0 _ _ _ rfl))) ?_
  try simp only [pA, pB, p1, p2, p3]
  refine wp_callW 23 #[.agg (Bv.cells ⟨up, ⟨ea, en, ec⟩, ⟨la, ln, lc⟩⟩)] (by kernel_rfl) _ (copied_any up ea en ec la ln lc es ls _ (by omega) (by omega) (HE.out.no HF.out.kept) (HLs.out.no HF.out.kept)) (by kernel_rfl) ?_
  rintro e wk5 ⟨⟨pa, pn, pc⟩, ⟨qa, qn, qc⟩, rfl, h1, h2, hk⟩
  have HOE : Hid (OwE wk5 w.heap.size ⟨pa, pn, pc⟩ es) := h1.lower HF.out.kept.size
  have HOL : Hid (OwL wk5 w.heap.size ⟨qa, qn, qc⟩ ls) := h2.lower HF.out.kept.size
  have HF : Hid (Fr No w (wk5) [(gk1, 26, Bv.cells ⟨up, ⟨ea, en, ec⟩, ⟨la, ln, lc⟩⟩), (gk3, 26, Bv.cells bvZ)]) := HF.out.no hk
  clear h1 h2 hk
  refine ⟨.agg (Bv.cells ⟨up, ⟨pa, pn, pc⟩, ⟨qa, qn, qc⟩⟩), rfl, ?_⟩
  try simp only [pA, pB, p1, p2, p3]
  refine wp_runW (.pointer (some ⟨wk5.heap.size, 0, none⟩)) (wk5.alloc (.cells (Bv.cells bvZ) 26)) (exec_alloc 26 rfl (Bv.cells bvZ) zero25) (by kernel_rfl) ?_
  try simp only [pA, pB, p1, p2, p3]
  have HOE : Hid (OwE (wk5.alloc (.cells (Bv.cells bvZ) 26)) w.heap.size ⟨pa, pn, pc⟩ es) := HOE.out.no ((Kept.refl No _).alloc _)
  have HOL : Hid (OwL (wk5.alloc (.cells (Bv.cells bvZ) 26)) w.heap.size ⟨qa, qn, qc⟩ ls) := HOL.out.no ((Kept.refl No _).alloc _)
  have HF : Hid (Fr No w (wk5.alloc (.cells (Bv.cells bvZ) 26)) [(gk1, 26, Bv.cells ⟨up, ⟨ea, en, ec⟩, ⟨la, ln, lc⟩⟩), (gk3, 26, Bv.cells bvZ), (wk5.heap.size, 26, Bv.cells bvZ)]) := HF.out.alloc _ _
  generalize wk5.alloc (.cells (Bv.cells bvZ) 26) = wk7 at HF HOE HOL ⊢
  generalize wk5.heap.size = gk6 at HF ⊢
  refine wp_storeW 26 _ _ rfl ⟨gk6, 0, none⟩ (.agg (Bv.cells ⟨up, ⟨pa, pn, pc⟩, ⟨qa, qn, qc⟩⟩)) (by kernel_rfl) (by kernel_rfl) (wk7.setRow gk6 (Bv.cells ⟨up, ⟨pa, pn, pc⟩, ⟨qa, qn, qc⟩⟩)) (st25 (HF.out.box 2 _ _ _ rfl) rfl) (by kernel_rfl) ?_
  try simp only [pA, pB, p1, p2, p3]
  have HOE : Hid (OwE (wk7.setRow gk6 (Bv.cells ⟨up, ⟨pa, pn, pc⟩, ⟨qa, qn, qc⟩⟩)) w.heap.size ⟨pa, pn, pc⟩ es) := HOE.out.kept (Kept.setRow _ _ _) (fun k h e => (HOE.out.own.notBox (HF.out.box 2 _ _ _ rfl) (by decide)) ((show k = gk6 from e) ▸ h))
  have HOL : Hid (OwL (wk7.setRow gk6 (Bv.cells ⟨up, ⟨pa, pn, pc⟩, ⟨qa, qn, qc⟩⟩)) w.heap.size ⟨qa, qn, qc⟩ ls) := HOL.out.kept (Kept.setRow _ _ _) (fun k h e => (HOL.out.own.notBox (HF.out.box 2 _ _ _ rfl) (by decide)) ((show k = gk6 from e) ▸ h))
  have HF : Hid (Fr No w (wk7.setRow gk6 (Bv.cells ⟨up, ⟨pa, pn, pc⟩, ⟨qa, qn, qc⟩⟩)) [(gk1, 26, Bv.cells ⟨up, ⟨ea, en, ec⟩, ⟨la, ln, lc⟩⟩), (gk3, 26, Bv.cells bvZ), (gk6, 26, Bv.cells ⟨up, ⟨pa, pn, pc⟩, ⟨qa, qn, qc⟩⟩)]) := HF.out.set 2 rfl _
  generalize wk7.setRow gk6 (Bv.cells ⟨up, ⟨pa, pn, pc⟩, ⟨qa, qn, qc⟩⟩) = wk8 at HF HOE HOL ⊢
  refine WL.nil ?_
  try simp only [pA, pB, p1, p2, p3]
  go_upto_region 2 with fail
  refine WL.start ?_
  refine tK (.slice none 0 0) ?_
  try simp only [pA, pB, p1, p2, p3]
  refine WL.nil ?_
  try simp only [pA, pB, p1, p2, p3]
  go_upto_region 3 with fail
  refine WL.start ?_
  refine tK (.slice ca cn cc) ?_
  try simp only [pA, pB, p1, p2, p3]
  refine tK (.int .i64 ((cn : Nat) : Int)) ?_
  try simp only [pA, pB, p1, p2, p3]
  refine tK (.int .i64 0) ?_
  try simp only [pA, pB, p1, p2, p3]
  refine WL.nil ?_
  try simp only [pA, pB, p1, p2, p3]
  go_wp2
  go_loopw [10, 18] (fun v10 v18 wr => ∃ (i n : Nat) (b : Bk) (se sl : Sl) (a : Option Addr) (c : Nat) (vs : List Av) (A : List An), v10 = .slice a n c ∧ v18 = .int .i64 ((i : Nat) : Int) ∧ i ≤ cn ∧ n ≤ i ∧ Hid (Fr No w wr [(gk1, 26, Bv.cells ⟨up, ⟨ea, en, ec⟩, ⟨la, ln, lc⟩⟩), (gk3, 26, Bv.cells bvZ), (gk6, 26, Bv.cells ⟨b.up, se, sl⟩)]) ∧ Hid (OwE wr w.heap.size se b.es) ∧ Hid (OwL wr w.heap.size sl b.ls) ∧ Hid (AnsW wr w.heap.size ⟨a, n, c⟩ vs A) ∧ Hid (∀ (j : Nat) v, vs[j]? = some v → ∀ k, At v.l.a k → w.heap.size ≤ k ∧ ¬ At se.a k) ∧ Hid (runB room ⟨up, es, ls⟩ (xs.take i) = b ∧ runA room ⟨up, es, ls⟩ (xs.take i) = A ∧ errR room ⟨up, es, ls⟩ (xs.take i) = 0) ∧ Hid (Fine (K + i) b)) (fun _ i _ => cn - (intOf i).toNat)
  case atStart => exact ⟨0, 0, ⟨up, es, ls⟩, ⟨pa, pn, pc⟩, ⟨qa, qn, qc⟩, none, 0, [], [], rfl, by go_num, by omega, by omega, HF, HOE, HOL, AnsW.nil _ _, fun j v h => by simp at h, ⟨rfl, rfl, rfl⟩, HFi0⟩
  case round =>
    clear HF HOE HOL HFi0
    obtain ⟨i, n, ⟨bu, bes, bls⟩, ⟨pa, pn, pc⟩, ⟨qa, qn, qc⟩, a, c, vs, A, rfl, rfl, hi, hn, HF, HOE, HOL, HAs, HAp, HR, HFi⟩ := hrel
    have HF : Hid (Fr No w wr [(gk1, 26, Bv.cells ⟨up, ⟨ea, en, ec⟩, ⟨la, ln, lc⟩⟩), (gk3, 26, Bv.cells bvZ), (gk6, 26, Bv.cells ⟨bu, ⟨pa, pn, pc⟩, ⟨qa, qn, qc⟩⟩)]) := HF
    have HOE : Hid (OwE wr w.heap.size ⟨pa, pn, pc⟩ bes) := HOE
    have HOL : Hid (OwL wr w.heap.size ⟨qa, qn, qc⟩ bls) := HOL
    have HAp : Hid (∀ (j : Nat) v, vs[j]? = some v → ∀ k, At v.l.a k → w.heap.size ≤ k ∧ ¬ At pa k) := HAp
    have hbu : 0 ≤ bu := HFi.out.up
    have hpn : pn ≤ 1000 := by have h1 : bes.length = pn := HOE.out.len; have h2 : bes.length ≤ K + i := HFi.out.ne; omega
    have hqn : qn ≤ 1000 := by have h1 : bls.length = qn := HOL.out.len; have h2 : bls.length ≤ K + i := HFi.out.nl; omega
    by_cases hlt : i < cn
    · skip
      obtain ⟨xb, xo, e0, hcell⟩ := Cs.at HX.out (i := i) (by rw [HL.out]; exact hlt)
      subst e0
      have HCE : Hid (∀ (j : Nat) v, (cAt xs i).cs[j]? = some v → w.cell? ⟨xb, xo + i * 9 + j, none⟩ = some v) := hcell
      have HN1 : Hid (runB room ⟨up, es, ls⟩ (xs.take (i + 1)) = (stepS ⟨bu, bes, bls⟩ (cAt xs i) room).1 ∧ runA room ⟨up, es, ls⟩ (xs.take (i + 1)) = A ++ [(stepS ⟨bu, bes, bls⟩ (cAt xs i) room).2]) := by
        have h := run_next room ⟨up, es, ls⟩ (xs := xs) (i := i) (by rw [HL.out]; exact hlt)
        rw [HR.out.1, HR.out.2.1] at h
        exact h
      have HE1 : Hid ((refS bu (cAt xs i) = 0 → errR room ⟨up, es, ls⟩ (xs.take (i + 1)) = 0) ∧ (refS bu (cAt xs i) ≠ 0 → errR room ⟨up, es, ls⟩ xs = refS bu (cAt xs i))) := by
        have h := err_next room ⟨up, es, ls⟩ (xs := xs) (i := i) (by rw [HL.out]; exact hlt) HR.out.2.2
        rw [HR.out.1] at h
        exact h
      clear hcell HR
      generalize cAt xs i = x at HCE HN1 HE1
      go_upto_region 4 with fail
      refine WL.start ?_
      refine tW (.bool true) (exec_bin .lss 3 _ _ _ rfl (.int .i64 ((i : Nat) : Int)) (.int .i64 ((cn : Nat) : Int)) (.bool true) (by kernel_rfl) (by kernel_rfl) (by kernel_rfl) (by rw [b_lss, decide_eq_true (by omega)])) ?_
      try simp only [pA, pB, p1, p2, p3]
      refine WL.nil ?_
      try simp only [pA, pB, p1, p2, p3]
      go_upto_region 5 with fail
      refine WL.start ?_
      refine tW (.pointer (some ⟨xb, xo + i * 9, none⟩)) (exec_ixA 22 9 Try.und34e Try.size34e _ _ rfl xb xo cn cc i (by kernel_rfl) (by kernel_rfl) hlt) ?_
      try simp only [pA, pB, p1, p2, p3]
      refine tW (.agg (Cm.cells x)) (exec_load 31 _ rfl ⟨xb, xo + i * 9, none⟩ (by kernel_rfl) (.agg (Cm.cells x)) (load_Ca (fun j v h => HF.out.kept.cell (HCE.out j v h) (fun e => e)))) ?_
      try simp only [pA, pB, p1, p2, p3]
      refine wp_runW (.pointer (some ⟨wr.heap.size, 0, none⟩)) (wr.alloc (.cells (Cm.cells cZ) 31)) (exec_alloc 31 rfl (Cm.cells cZ) zero29) (by kernel_rfl) ?_
      try simp only [pA, pB, p1, p2, p3]
      have HOE : Hid (OwE (wr.alloc (.cells (Cm.cells cZ) 31)) w.heap.size ⟨pa, pn, pc⟩ bes) := HOE.out.no ((Kept.refl No _).alloc _)
      have HOL : Hid (OwL (wr.alloc (.cells (Cm.cells cZ) 31)) w.heap.size ⟨qa, qn, qc⟩ bls) := HOL.out.no ((Kept.refl No _).alloc _)
      have HAs : Hid (AnsW (wr.alloc (.cells (Cm.cells cZ) 31)) w.heap.size ⟨a, n, c⟩ vs A) := HAs.out.no ((Kept.refl No _).alloc _)
      have HF : Hid (Fr No w (wr.alloc (.cells (Cm.cells cZ) 31)) [(gk1, 26, Bv.cells ⟨up, ⟨ea, en, ec⟩, ⟨la, ln, lc⟩⟩), (gk3, 26, Bv.cells bvZ), (gk6, 26, Bv.cells ⟨bu, ⟨pa, pn, pc⟩, ⟨qa, qn, qc⟩⟩), (wr.heap.size, 31, Cm.cells cZ)]) := HF.out.alloc _ _
      generalize wr.alloc (.cells (Cm.cells cZ) 31) = wk10 at HF HOE HOL HAs ⊢
      generalize wr.heap.size = gk9 at HF ⊢
      refine wp_storeW 31 _ _ rfl ⟨gk9, 0, none⟩ (.agg (Cm.cells x)) (by kernel_rfl) (by kernel_rfl) (wk10.setRow gk9 (Cm.cells x)) (st29 (HF.out.box 3 _ _ _ rfl) rfl) (by kernel_rfl) ?_
      try simp only [pA, pB, p1, p2, p3]
      have HOE : Hid (OwE (wk10.setRow gk9 (Cm.cells x)) w.heap.size ⟨pa, pn, pc⟩ bes) := HOE.out.kept (Kept.setRow _ _ _) (fun k h e => (HOE.out.own.notBox (HF.out.box 3 _ _ _ rfl) (by decide)) ((show k = gk9 from e) ▸ h))
      have HOL : Hid (OwL (wk10.setRow gk9 (Cm.cells x)) w.heap.size ⟨qa, qn, qc⟩ bls) := HOL.out.kept (Kept.setRow _ _ _) (fun k h e => (HOL.out.own.notBox (HF.out.box 3 _ _ _ rfl) (by decide)) ((show k = gk9 from e) ▸ h))
      have HAs : Hid (AnsW (wk10.setRow gk9 (Cm.cells x)) w.heap.size ⟨a, n, c⟩ vs A) := HAs.out.row (HF.out.box 3 _ _ _ rfl) (by decide) (by decide) _
      have HF : Hid (Fr No w (wk10.setRow gk9 (Cm.cells x)) [(gk1, 26, Bv.cells ⟨up, ⟨ea, en, ec⟩, ⟨la, ln, lc⟩⟩), (gk3, 26, Bv.cells bvZ), (gk6, 26, Bv.cells ⟨bu, ⟨pa, pn, pc⟩, ⟨qa, qn, qc⟩⟩), (gk9, 31, Cm.cells x)]) := HF.out.set 3 rfl _
      generalize wk10.setRow gk9 (Cm.cells x) = wk11 at HF HOE HOL HAs ⊢
      refine WL.nil ?_
      try simp only [pA, pB, p1, p2, p3]
      go_upto_region 6 with fail
      refine WL.start ?_
      refine tW (.agg (Bv.cells ⟨bu, ⟨pa, pn, pc⟩, ⟨qa, qn, qc⟩⟩)) (exec_load 26 _ rfl ⟨gk6, 0, none⟩ (by kernel_rfl) (.agg (Bv.cells ⟨bu, ⟨pa, pn, pc⟩, ⟨qa, qn, qc⟩⟩)) (ld25 (HF.out.box 2 _ _ _ rfl))) ?_
      try simp only [pA, pB, p1, p2, p3]
      refine tW (.agg (Cm.cells x)) (exec_load 31 _ rfl ⟨gk9, 0, none⟩ (by kernel_rfl) (.agg (Cm.cells x)) (ld29 (HF.out.box 3 _ _ _ rfl))) ?_
      try simp only [pA, pB, p1, p2, p3]
      refine wp_callW 22 #[.agg (Bv.cells ⟨bu, ⟨pa, pn, pc⟩, ⟨qa, qn, qc⟩⟩), .agg (Cm.cells x)] (by kernel_rfl) _ (refusal_any ⟨bu, ⟨pa, pn, pc⟩, ⟨qa, qn, qc⟩⟩ x _) (by kernel_rfl) ?_
      rintro e wk12 ⟨rfl, hk⟩
      have HOE : Hid (OwE (wk12) w.heap.size ⟨pa, pn, pc⟩ bes) := HOE.out.no hk
      have HOL : Hid (OwL (wk12) w.heap.size ⟨qa, qn, qc⟩ bls) := HOL.out.no hk
      have HAs : Hid (AnsW (wk12) w.heap.size ⟨a, n, c⟩ vs A) := HAs.out.no hk
      have HF : Hid (Fr No w (wk12) [(gk1, 26, Bv.cells ⟨up, ⟨ea, en, ec⟩, ⟨la, ln, lc⟩⟩), (gk3, 26, Bv.cells bvZ), (gk6, 26, Bv.cells ⟨bu, ⟨pa, pn, pc⟩, ⟨qa, qn, qc⟩⟩), (gk9, 31, Cm.cells x)]) := HF.out.no hk
      clear hk
      refine ⟨.int .i64 (refS bu x), rfl, ?_⟩
      try simp only [pA, pB, p1, p2, p3]
      refine tK (.int .i64 (refS bu x)) ?_
      try simp only [pA, pB, p1, p2, p3]
      refine WL.nil ?_
      try simp only [pA, pB, p1, p2, p3]
      go_upto_region 7 with fail
      refine WL.start ?_
      refine tK (.int .i64 (refS bu x)) ?_
      try simp only [pA, pB, p1, p2, p3]
      cases q1 : ((refS bu x) == 0)
      ·skip
       refine tW (.bool true) (exec_bin .neq 32 _ _ _ rfl (.int .i64 (refS bu x)) (.int .i64 0) (.bool true) (by kernel_rfl) (by kernel_rfl) (by kernel_rfl) (by rw [b_neq46, q1]; try rfl)) ?_
       try simp only [pA, pB, p1, p2, p3]
       refine WL.nil ?_
       try simp only [pA, pB, p1, p2, p3]
       have hne : refS bu x ≠ 0 := by have := q1; simpa using this
       have HV : Hid (errR room ⟨up, es, ls⟩ xs = refS bu x) := HE1.out.2 hne
       have HV2 : Hid (resB room ⟨up, es, ls⟩ xs = ⟨0, [], []⟩ ∧ resA room ⟨up, es, ls⟩ xs = []) := resB_1 (by rw [HV.out]; exact hne)
       clear HE1 HN1
       go_upto_region 8 with fail
       refine WL.start ?_
       refine tW (.agg (Bv.cells bvZ)) (exec_build 26 _ rfl (Bv.cells bvZ) (by kernel_rfl)) ?_
       try simp only [pA, pB, p1, p2, p3]
       refine tK (.int .i64 (refS bu x)) ?_
       try simp only [pA, pB, p1, p2, p3]
       refine wp_storeW 26 _ _ rfl ⟨gk3, 0, none⟩ (.agg (Bv.cells bvZ)) (by kernel_rfl) (by kernel_rfl) (wk12.setRow gk3 (Bv.cells bvZ)) (st25 (HF.out.box 1 _ _ _ rfl) rfl) (by kernel_rfl) ?_
       try simp only [pA, pB, p1, p2, p3]
       have HOE : Hid (OwE (wk12.setRow gk3 (Bv.cells bvZ)) w.heap.size ⟨pa, pn, pc⟩ bes) := HOE.out.kept (Kept.setRow _ _ _) (fun k h e => (HOE.out.own.notBox (HF.out.box 1 _ _ _ rfl) (by decide)) ((show k = gk3 from e) ▸ h))
       have HOL : Hid (OwL (wk12.setRow gk3 (Bv.cells bvZ)) w.heap.size ⟨qa, qn, qc⟩ bls) := HOL.out.kept (Kept.setRow _ _ _) (fun k h e => (HOL.out.own.notBox (HF.out.box 1 _ _ _ rfl) (by decide)) ((show k = gk3 from e) ▸ h))
       have HAs : Hid (AnsW (wk12.setRow gk3 (Bv.cells bvZ)) w.heap.size ⟨a, n, c⟩ vs A) := HAs.out.row (HF.out.box 1 _ _ _ rfl) (by decide) (by decide) _
       have HF : Hid (Fr No w (wk12.setRow gk3 (Bv.cells bvZ)) [(gk1, 26, Bv.cells ⟨up, ⟨ea, en, ec⟩, ⟨la, ln, lc⟩⟩), (gk3, 26, Bv.cells bvZ), (gk6, 26, Bv.cells ⟨bu, ⟨pa, pn, pc⟩, ⟨qa, qn, qc⟩⟩), (gk9, 31, Cm.cells x)]) := HF.out.set 1 rfl _
       generalize wk12.setRow gk3 (Bv.cells bvZ) = wk13 at HF HOE HOL HAs ⊢
       refine tK (.slice none 0 0) ?_
       try simp only [pA, pB, p1, p2, p3]
       refine tK (.int .i64 (refS bu x)) ?_
       try simp only [pA, pB, p1, p2, p3]
       refine WL.nil ?_
       try simp only [pA, pB, p1, p2, p3]
       go_wp2
       rw [HC.out]
       refine bodyPost_ret (results_ctt (by rfl) _ _ gk3 (Bv.cells bvZ) (by rfl) (ld25 (HF.out.box 1 _ _ _ rfl))) rfl ?_
       rw [HV.out, HV2.out.1, HV2.out.2]
       exact ⟨bvZ, ⟨none, 0, 0⟩, [], rfl, rfl, OwE.nil _ _, OwL.nil _ _, AnsW.nil _ _, fun j v hv => by simp at hv, HF.out.kept⟩
      ·skip
       refine tW (.bool false) (exec_bin .neq 32 _ _ _ rfl (.int .i64 (refS bu x)) (.int .i64 0) (.bool false) (by kernel_rfl) (by kernel_rfl) (by kernel_rfl) (by rw [b_neq46, q1]; try rfl)) ?_
       try simp only [pA, pB, p1, p2, p3]
       refine WL.nil ?_
       try simp only [pA, pB, p1, p2, p3]
       have h0 : refS bu x = 0 := by have := q1; simpa using this
       have hu2 : bu < 1048576 := by
         unfold refS at h0
         split at h0
         · cases h0
         · split at h0
           · cases h0
           · rename_i h; simpa using h
       have HE2 : Hid (errR room ⟨up, es, ls⟩ (xs.take (i + 1)) = 0) := HE1.out.1 h0
       have HST : Hid (∀ W, Bkt W w.heap.size gk6 bu ⟨pa, pn, pc⟩ ⟨qa, qn, qc⟩ bes bls → w.heap.size ≤ W.heap.size → Calls Try.prog 24 #[.pointer (some ⟨gk6, 0, none⟩), .agg (Cm.cells x), .int .i64 room] W (StepOut W w.heap.size gk6 ⟨pa, pn, pc⟩ ⟨qa, qn, qc⟩ (stepS ⟨bu, bes, bls⟩ x room))) := fun W h1 h2 => step_any gk6 w.heap.size bu pa pn pc qa qn qc bes bls x room W h1 (by omega) (by omega) (by omega) hu2 h2
       have HRl : Hid ((stepS ⟨bu, bes, bls⟩ x room).2.l.length ≤ 1000) := by
         have h1 := act_ll bes x room
         have h2 : bes.length ≤ K + i := HFi.out.ne
         show (actS bes x room).2.l.length ≤ 1000
         omega
       have HFn : Hid (Fine (K + (i + 1)) (stepS ⟨bu, bes, bls⟩ x room).1) := HFi.out.step x room
       generalize stepS ⟨bu, bes, bls⟩ x room = R at HN1 HST HRl HFn
       clear HE1 h0 hu2 q1
       go_upto_region 9 with fail
       refine WL.start ?_
       refine tK (.slice a n c) ?_
       try simp only [pA, pB, p1, p2, p3]
       refine tW (.agg (Cm.cells x)) (exec_load 31 _ rfl ⟨gk9, 0, none⟩ (by kernel_rfl) (.agg (Cm.cells x)) (ld29 (HF.out.box 3 _ _ _ rfl))) ?_
       try simp only [pA, pB, p1, p2, p3]
       refine tK (.int .i64 room) ?_
       try simp only [pA, pB, p1, p2, p3]
       refine wp_callW 24 #[.pointer (some ⟨gk6, 0, none⟩), .agg (Cm.cells x), .int .i64 room] (by kernel_rfl) _ (HST.out _ ⟨HF.out.box 2 _ _ _ rfl, HOE.out, HOL.out⟩ HF.out.kept.size) (by kernel_rfl) ?_
       rintro e wk14 ⟨⟨sa, sn, sc⟩, ⟨ta, tn, tc⟩, ⟨xa, xn, xc⟩, rfl, hB, hX, hap, hk, hA1, hA2⟩
       have hPb := HF.out.box 2 _ _ _ rfl
       have HAs0 : Hid (AnsW wk12 w.heap.size ⟨a, n, c⟩ vs A) := HAs
       have HAs : Hid (AnsW wk14 w.heap.size ⟨a, n, c⟩ vs A) := HAs.out.kept hk (fun k h1 h2 => by
         rcases h2 with rfl | h2 | h2
         · exact HAs.out.own.notBox hPb (by decide) h1
         · exact HAs.out.own.apart HOE.out.own (by decide) h1 h2
         · exact HAs.out.own.apart HOL.out.own (by decide) h1 h2) (fun j v hv k h1 h2 => by
         obtain ⟨b, _, hb⟩ := HAs.out.get j v hv
         rcases h2 with rfl | h2 | h2
         · exact hb.not hPb (by decide) h1
         · exact (HAp.out j v hv k h1).2 h2
         · obtain ⟨cs, hbx⟩ := HOL.out.own.ty h2
           exact hb.not hbx (by decide) h1)
       have HAp : Hid (∀ (j : Nat) v, vs[j]? = some v → ∀ k, At v.l.a k → w.heap.size ≤ k ∧ ¬ At sa k) := fun j v hv k h1 => by
         refine ⟨(HAp.out j v hv k h1).1, fun h2 => ?_⟩
         rcases hA1 k h2 with h2 | h2
         · exact (HAp.out j v hv k h1).2 h2
         · obtain ⟨b, _, hb⟩ := HAs0.out.get j v hv
           have := hb.lt h1
           omega
       have HV : Hid (AnAt wk14 ⟨R.2.er, R.2.e, ⟨xa, xn, xc⟩⟩ R.2) := ⟨rfl, rfl, hX.rd, fun k hk => hX.own.ty hk, HRl.out⟩
       have HVo : Hid (OwE wk14 w.heap.size ⟨xa, xn, xc⟩ R.2.l) := hX.lower HF.out.kept.size
       have HVd : Hid (∀ (j : Nat) u, vs[j]? = some u → ∀ k, At u.l.a k → ¬ At xa k) := show ∀ (j : Nat) u, vs[j]? = some u → ∀ k, At u.l.a k → ¬ At xa k from fun j u hu k h1 h2 => by
         obtain ⟨b, _, hb⟩ := HAs0.out.get j u hu
         have h3 := hb.lt h1
         have h4 := hX.own.base h2
         omega
       have HVp : Hid (∀ k, At xa k → w.heap.size ≤ k ∧ ¬ At sa k) := fun k hk => ⟨Nat.le_trans HF.out.kept.size (hX.own.base hk), hap k hk⟩
       have HF : Hid (Fr No w wk14 [(gk1, 26, Bv.cells ⟨up, ⟨ea, en, ec⟩, ⟨la, ln, lc⟩⟩), (gk3, 26, Bv.cells bvZ), (gk6, 26, Bv.cells ⟨R.1.up, ⟨sa, sn, sc⟩, ⟨ta, tn, tc⟩⟩), (gk9, 31, Cm.cells x)]) := Fr.bkt (base := 0) (be := 0) (bl := 0) HF.out hk 2 rfl hB.box HOE.out.own HOL.out.own (by simp)
       have HOE : Hid (OwE wk14 w.heap.size ⟨sa, sn, sc⟩ R.1.es) := hB.e
       have HOL : Hid (OwL wk14 w.heap.size ⟨ta, tn, tc⟩ R.1.ls) := hB.l
       clear hB hX hap hk hA1 hA2 hPb HAs0 HST
       refine ⟨.agg (Av.cells ⟨R.2.er, R.2.e, ⟨xa, xn, xc⟩⟩), rfl, ?_⟩
       try simp only [pA, pB, p1, p2, p3]
       obtain ⟨oa, oc, wk15, hrun, hO, hk⟩ := app1A (w := wk14) (base := w.heap.size) HF.out.kept.size HAs.out.own ⟨R.2.er, R.2.e, ⟨xa, xn, xc⟩⟩ (show n ≤ _ by omega)
       refine wp_runW (.slice (some ⟨wk14.heap.size, 0, none⟩) 1 1) (wk14.alloc (.cells (Av.cells ⟨R.2.er, R.2.e, ⟨xa, xn, xc⟩⟩) 36)) (exec_slice2 45 36 _ rfl (Av.cells ⟨R.2.er, R.2.e, ⟨xa, xn, xc⟩⟩) (.agg (Av.cells ⟨R.2.er, R.2.e, ⟨xa, xn, xc⟩⟩)) (by kernel_rfl) (slice1_av ⟨R.2.er, R.2.e, ⟨xa, xn, xc⟩⟩ _)) (by kernel_rfl) ?_
       try simp only [pA, pB, p1, p2, p3]
       refine wp_runW (.slice oa (n + 1) oc) wk15 (exec_appN _ _ 45 45 rfl _ _ (by kernel_rfl) (by kernel_rfl) hrun) (by kernel_rfl) ?_
       try simp only [pA, pB, p1, p2, p3]
       have HF : Hid (Fr No w wk15 [(gk1, 26, Bv.cells ⟨up, ⟨ea, en, ec⟩, ⟨la, ln, lc⟩⟩), (gk3, 26, Bv.cells bvZ), (gk6, 26, Bv.cells ⟨R.1.up, ⟨sa, sn, sc⟩, ⟨ta, tn, tc⟩⟩), (gk9, 31, Cm.cells x)]) := HF.out.app HAs.out.own hk (by simp)
       have HOE : Hid (OwE wk15 w.heap.size ⟨sa, sn, sc⟩ R.1.es) := HOE.out.kept hk (fun k h1 h2 => HOE.out.own.apart HAs.out.own (by decide) h1 h2)
       have HOL : Hid (OwL wk15 w.heap.size ⟨ta, tn, tc⟩ R.1.ls) := HOL.out.kept hk (fun k h1 h2 => HOL.out.own.apart HAs.out.own (by decide) h1 h2)
       have HAs : Hid (AnsW wk15 w.heap.size ⟨oa, n + 1, oc⟩ (vs ++ [⟨R.2.er, R.2.e, ⟨xa, xn, xc⟩⟩]) (A ++ [R.2])) := HAs.out.push HV.out HVo.out HVd.out hO hk
       clear hrun hO hk HV HVo HVd
       refine tK (.slice oa (n + 1) oc) ?_
       try simp only [pA, pB, p1, p2, p3]
       refine WL.nil ?_
       try simp only [pA, pB, p1, p2, p3]
       have HF : Hid (Fr No w wk15 [(gk1, 26, Bv.cells ⟨up, ⟨ea, en, ec⟩, ⟨la, ln, lc⟩⟩), (gk3, 26, Bv.cells bvZ), (gk6, 26, Bv.cells ⟨R.1.up, ⟨sa, sn, sc⟩, ⟨ta, tn, tc⟩⟩)]) := (show Fr No w wk15 ([(gk1, 26, Bv.cells ⟨up, ⟨ea, en, ec⟩, ⟨la, ln, lc⟩⟩), (gk3, 26, Bv.cells bvZ), (gk6, 26, Bv.cells ⟨R.1.up, ⟨sa, sn, sc⟩, ⟨ta, tn, tc⟩⟩)] ++ [(gk9, 31, Cm.cells x)]) from HF.out).front
       have HAp2 : Hid (∀ (j : Nat) v, (vs ++ [⟨R.2.er, R.2.e, ⟨xa, xn, xc⟩⟩])[j]? = some v → ∀ k, At v.l.a k → w.heap.size ≤ k ∧ ¬ At sa k) := fun j v hv k hk => by
         rcases List.mem_append.1 (List.mem_of_getElem? hv) with h | h
         · obtain ⟨j', hj⟩ := List.mem_iff_getElem?.1 h
           exact HAp.out j' v hj k hk
         · rw [List.mem_singleton.1 h] at hk
           exact HVp.out k hk
       clear HAp HVp
       go_wp2
       go_roundw
       case rel => exact ⟨i + 1, n + 1, R.1, ⟨sa, sn, sc⟩, ⟨ta, tn, tc⟩, oa, oc, vs ++ [⟨R.2.er, R.2.e, ⟨xa, xn, xc⟩⟩], A ++ [R.2], rfl, by go_num, by omega, by omega, HF, HOE, HOL, HAs, HAp2, ⟨HN1.out.1, HN1.out.2, HE2.out⟩, HFn⟩
       case measure => simp [intOf]; omega
    · skip
      have e : i = cn := by omega
      have HV : Hid (errR room ⟨up, es, ls⟩ xs = 0 ∧ runB room ⟨up, es, ls⟩ xs = ⟨bu, bes, bls⟩ ∧ runA room ⟨up, es, ls⟩ xs = A) := by
        have := HR.out
        rw [List.take_of_length_le (by rw [HL.out]; omega)] at this
        exact ⟨this.2.2, this.1, this.2.1⟩
      have HV2 : Hid (resB room ⟨up, es, ls⟩ xs = ⟨bu, bes, bls⟩ ∧ resA room ⟨up, es, ls⟩ xs = A) := by
        have := resB_0 HV.out.1
        rw [HV.out.2.1, HV.out.2.2] at this
        exact this
      clear HR
      go_upto_region 4 with fail
      refine WL.start ?_
      refine tW (.bool false) (exec_bin .lss 3 _ _ _ rfl (.int .i64 ((i : Nat) : Int)) (.int .i64 ((cn : Nat) : Int)) (.bool false) (by kernel_rfl) (by kernel_rfl) (by kernel_rfl) (by rw [b_lss, decide_eq_false (by omega)])) ?_
      try simp only [pA, pB, p1, p2, p3]
      refine WL.nil ?_
      try simp only [pA, pB, p1, p2, p3]
      go_upto_region 11 with fail
      refine WL.start ?_
      refine tW (.agg (Bv.cells ⟨bu, ⟨pa, pn, pc⟩, ⟨qa, qn, qc⟩⟩)) (exec_load 26 _ rfl ⟨gk6, 0, none⟩ (by kernel_rfl) (.agg (Bv.cells ⟨bu, ⟨pa, pn, pc⟩, ⟨qa, qn, qc⟩⟩)) (ld25 (HF.out.box 2 _ _ _ rfl))) ?_
      try simp only [pA, pB, p1, p2, p3]
      refine tK (.slice a n c) ?_
      try simp only [pA, pB, p1, p2, p3]
      refine wp_storeW 26 _ _ rfl ⟨gk3, 0, none⟩ (.agg (Bv.cells ⟨bu, ⟨pa, pn, pc⟩, ⟨qa, qn, qc⟩⟩)) (by kernel_rfl) (by kernel_rfl) (wr.setRow gk3 (Bv.cells ⟨bu, ⟨pa, pn, pc⟩, ⟨qa, qn, qc⟩⟩)) (st25 (HF.out.box 1 _ _ _ rfl) rfl) (by kernel_rfl) ?_
      try simp only [pA, pB, p1, p2, p3]
      have HOE : Hid (OwE (wr.setRow gk3 (Bv.cells ⟨bu, ⟨pa, pn, pc⟩, ⟨qa, qn, qc⟩⟩)) w.heap.size ⟨pa, pn, pc⟩ bes) := HOE.out.kept (Kept.setRow _ _ _) (fun k h e => (HOE.out.own.notBox (HF.out.box 1 _ _ _ rfl) (by decide)) ((show k = gk3 from e) ▸ h))
      have HOL : Hid (OwL (wr.setRow gk3 (Bv.cells ⟨bu, ⟨pa, pn, pc⟩, ⟨qa, qn, qc⟩⟩)) w.heap.size ⟨qa, qn, qc⟩ bls) := HOL.out.kept (Kept.setRow _ _ _) (fun k h e => (HOL.out.own.notBox (HF.out.box 1 _ _ _ rfl) (by decide)) ((show k = gk3 from e) ▸ h))
      have HAs : Hid (AnsW (wr.setRow gk3 (Bv.cells ⟨bu, ⟨pa, pn, pc⟩, ⟨qa, qn, qc⟩⟩)) w.heap.size ⟨a, n, c⟩ vs A) := HAs.out.row (HF.out.box 1 _ _ _ rfl) (by decide) (by decide) _
      have HF : Hid (Fr No w (wr.setRow gk3 (Bv.cells ⟨bu, ⟨pa, pn, pc⟩, ⟨qa, qn, qc⟩⟩)) [(gk1, 26, Bv.cells ⟨up, ⟨ea, en, ec⟩, ⟨la, ln, lc⟩⟩), (gk3, 26, Bv.cells ⟨bu, ⟨pa, pn, pc⟩, ⟨qa, qn, qc⟩⟩), (gk6, 26, Bv.cells ⟨bu, ⟨pa, pn, pc⟩, ⟨qa, qn, qc⟩⟩)]) := HF.out.set 1 rfl _
      generalize wr.setRow gk3 (Bv.cells ⟨bu, ⟨pa, pn, pc⟩, ⟨qa, qn, qc⟩⟩) = wk16 at HF HOE HOL HAs ⊢
      refine tK (.slice a n c) ?_
      try simp only [pA, pB, p1, p2, p3]
      refine tK (.int .i64 0) ?_
      try simp only [pA, pB, p1, p2, p3]
      refine WL.nil ?_
      try simp only [pA, pB, p1, p2, p3]
      go_wp2
      rw [HC.out]
      refine bodyPost_ret (results_ctt (by rfl) _ _ gk3 (Bv.cells ⟨bu, ⟨pa, pn, pc⟩, ⟨qa, qn, qc⟩⟩) (by rfl) (ld25 (HF.out.box 1 _ _ _ rfl))) rfl ?_
      rw [HV.out.1, HV2.out.1, HV2.out.2]
      exact ⟨⟨bu, ⟨pa, pn, pc⟩, ⟨qa, qn, qc⟩⟩, ⟨a, n, c⟩, vs, rfl, rfl, HOE.out, HOL.out, HAs.out, fun j v hv k hk => (HAp.out j v hv k hk).2, HF.out.kept⟩

end Go.Proofs.Ytfemlnfknebalab
