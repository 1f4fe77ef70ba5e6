import Derived.Test.YtpabpeppgpeaoaaRt
import Derived.Test.YtpabpeppgpeaoaaRi
import Derived.Test.YtpabpeppgpeaoaaZp
namespace Go.Proofs.Ytpabpeppgpeaoaa.Md
open Go.RowKit Gt
set_option linter.unusedVariables false
set_option linter.unusedSimpArgs false

theorem inL_map (l : List Int) : inL l = l.map (Value.int .i64) := by
  induction l with
  | nil => rfl
  | cons a r ih => rw [inL, List.map_cons, List.flatten_cons, List.map_cons]; exact congrArg (Value.int .i64 a :: ·) ih
theorem inL_c (l : List Int) : ∀ x ∈ l.map (fun b => [Value.int .i64 b]), x.length = 1 := by intro x hx; obtain ⟨b, _, rfl⟩ := List.mem_map.1 hx; rfl
theorem inL_len (l : List Int) : (inL l).length = l.length := by rw [inL_map, List.length_map]
theorem inL_set (l : List Int) (i : Nat) (b : Int) (h : i < l.length) : putL (inL l) (i * 1) [.int .i64 b] = inL (l.set i b) := by
  have := flat_set 1 (l.map (fun b => [Value.int .i64 b])) (inL_c l) i [.int .i64 b] rfl (by simpa using h)
  rw [inL, this, inL, List.map_set]
theorem st_I {w : World} {g : Nat} {cur : List Int} {i : Nat} (y : Int) (hb : Box w g 3 (inL cur).toArray) (hi : i < cur.length) : (storeVar 3 ⟨g, 0 + i * 1, none⟩ (.int .i64 y)).run Try.prog w = .ok () (w.setRow g (inL (cur.set i y)).toArray) := by
  have h := run_store_at (off := 0 + i * 1) (ty := 3) (vs := [.int .i64 y]) (v := .int .i64 y) hb rfl S3 (by rw [inL_len, Nat.zero_add]; show i * 1 + 1 ≤ cur.length; omega) (by simp [Value.oneCell'])
  rw [h, Nat.zero_add, inL_set _ _ _ hi]
theorem ld_I {w : World} {g : Nat} {xs : List Int} (hb : Box w g 3 (inL xs).toArray) {i : Nat} {x : Int} (hx : xs[i]? = some x) : (loadVar 3 ⟨g, 0 + i * 1, none⟩).run Try.prog w = .ok (.int .i64 x) w := by
  refine load_one ?_ U3 rfl
  rw [hb.cell, inL_map]
  simp [hx]
/-- The row that is handed in: the group, then marks up to a place. -/
def mkI (zs : List Int) (i : Nat) : List Int := zs ++ (List.replicate i (-77) ++ List.replicate (9 - i) 0)
theorem mkI_len {zs : List Int} {i : Nat} (h : i ≤ 9) : (mkI zs i).length = zs.length + 9 := by simp [mkI]; omega
theorem mkI_set {zs : List Int} {i n : Nat} (hn : zs.length = n) (h : i < 9) : (mkI zs i).set (n + i) (-77) = mkI zs (i + 1) := by
  subst hn
  unfold mkI
  rw [List.set_append_right _ _ (by omega), Nat.add_sub_cancel_left]
  have : ∀ i, i < 9 → (List.replicate i (-77 : Int) ++ List.replicate (9 - i) 0).set i (-77) = List.replicate (i + 1) (-77) ++ List.replicate (9 - (i + 1)) 0 := by decide
  rw [this i h]
theorem lay_I {w : World} {g n i : Nat} {zs : List Int} (hb : Box w g 3 (inL (mkI zs i)).toArray) (hn : zs.length = n) (h : i < 9) : (storeVar 3 ⟨g, 0 + (n + i) * 1, none⟩ (.int .i64 (-77))).run Try.prog w = .ok () (w.setRow g (inL (mkI zs (i + 1))).toArray) := by
  rw [← mkI_set hn h]
  exact st_I (-77) hb (by rw [mkI_len (by omega)]; omega)
theorem mk_nums {w : World} {g i : Nat} {zs : List Int} (hb : Box w g 3 (inL (mkI zs i)).toArray) : Nums .i64 w (some ⟨g, 0, none⟩) zs := by
  rw [inL_map] at hb
  have := hb.nums zs.length
  simpa [mkI] using this
theorem cpy_I {w : World} {g : Nat} {s : Sl} {zs : List Int} (ty : TypeId) (hb : Box w g 3 (inL (List.replicate (s.l + 9) 0)).toArray) (he : RdI w s zs) : (Builtin.copy_ #[24, 24] ty #[.slice (some ⟨g, 0, none⟩) (s.l + 9) (s.l + 9), s.v]).run Try.prog w = .ok (goInt s.l) (w.setRow g (inL (mkI zs 0)).toArray) := by
  obtain ⟨ea, en, ec⟩ := s
  dsimp only at hb ⊢
  have hl : zs.length = en := he.len
  have hp : putL (inL (List.replicate (en + 9) 0)) 0 (inL zs) = inL (mkI zs 0) := by
    simp only [inL_map]
    unfold putL mkI
    rw [List.take_zero, List.nil_append, Nat.zero_add, List.length_map, hl, ← List.replicate_append_replicate, List.map_append, List.drop_append_of_le_length (by simp), List.drop_of_length_le (by simp)]
    simp
  show (Builtin.copy_ #[24, 24] ty #[.slice (some ⟨g, 0, none⟩) (en + 9) (en + 9), .slice ea en ec]).run Try.prog w = .ok (goInt en) (w.setRow g (inL (mkI zs 0)).toArray)
  cases ea with
  | none =>
    have hes : zs = [] := by
      cases zs with
      | nil => rfl
      | cons x r =>
        obtain ⟨b, off, e, _⟩ := he.nums 0 (by simp)
        cases e
    subst hes
    have hn : en = 0 := hl.symm
    subst hn
    have : (Builtin.copy_ #[24, 24] ty #[.slice (some ⟨g, 0, none⟩) (0 + 9) (0 + 9), .slice none 0 ec]).run Try.prog w = .ok (goInt 0) w := by
      simp [Builtin.copy_, run_underlying U24, Builtin.lenOf, size_of S3, run_firstCells_none, storeCells]
    rw [this]
    rw [show w.setRow g (inL (mkI [] 0)).toArray = w from setRow_self hb]
    rfl
  | some ad =>
    rw [← hp]
    exact run_copyN 24 ty 3 1 U24 S3 hb (en + 9) (en + 9) ad en ec en (by omega) (inL zs) (by rw [inL_len, hl]; omega) (fun j u h => by
      rw [inL_map] at h
      have hlt := (List.getElem?_eq_some_iff.1 h).1
      obtain ⟨ad', e1, e2⟩ := he.nums.src (by simp at hlt ⊢; omega)
      cases e1; exact e2 j u h) (by rw [Nat.zero_add, inL_len, inL_len, List.length_replicate, hl]; omega) (by rw [inL_map]; exact num_one _ _)
/-- What the row still holds from a place on. -/
def MkR (zs ms : List Int) (i : Nat) : Prop := ms.length = zs.length + 9 ∧ ∀ j, i ≤ j → j < zs.length + 9 → ms[j]? = some (if j < zs.length then zs[j]?.getD 0 else -77)
theorem MkR.start (zs : List Int) : MkR zs (mkI zs 9) 0 := by
  refine ⟨mkI_len (Nat.le_refl _), fun j _ hj => ?_⟩
  unfold mkI
  split
  · rename_i h
    rw [List.getElem?_append_left h, List.getElem?_eq_getElem h]; rfl
  · rename_i h
    rw [List.getElem?_append_right (by omega), List.getElem?_append_left (by simp; omega), List.getElem?_replicate, if_pos (by omega)]
theorem MkR.next {zs ms : List Int} {i : Nat} (y : Int) (h : MkR zs ms i) : MkR zs (ms.set i y) (i + 1) :=
  ⟨by rw [List.length_set]; exact h.1, fun j hj hl => by rw [List.getElem?_set_ne (by omega)]; exact h.2 j (by omega) hl⟩
theorem MkR.lo {zs ms : List Int} {i : Nat} (h : MkR zs ms i) (hi : i < zs.length) : ms[i]? = some (zs[i]?.getD 0) := by rw [h.2 i (Nat.le_refl _) (by omega), if_pos hi]
theorem MkR.hi {zs ms : List Int} {i : Nat} (h : MkR zs ms i) (h1 : ¬ i < zs.length) (h2 : i < zs.length + 9) : ms[i]? = some (-77) := by rw [h.2 i (Nat.le_refl _) h2, if_neg h1]
/-- A proposer that lies behind a row. -/
def PrK (w : World) (gm : Nat) (W : World) (I : Nat → Prop) (p : Nat) (s : PS) : Prop := Prp W I p s ∧ ∀ k, I k → gm < k ∧ w.heap.size ≤ k ∧ k < W.heap.size ∧ NotM W k
theorem PrK.kept {w W W' : World} {gm p : Nat} {I S : Nat → Prop} {s : PS} (h : PrK w gm W I p s) (hk : Kept S W W') (hS : ∀ k, S k → k ≤ gm) : PrK w gm W' I p s := by
  refine ⟨h.1.kept hk (fun k e _ _ => ⟨fun f => ?_, e⟩), fun k e => ?_⟩
  · have := (h.2 k e).1; have := hS k f; omega
  · obtain ⟨h1, h2, h3, h4⟩ := h.2 k e
    have hs := hk.size
    refine ⟨h1, h2, by omega, fun cs hb => h4 cs ?_⟩
    unfold Box at hb ⊢
    rw [← hk.block k h3 (fun f => by have := hS k f; omega)]; exact hb
theorem PrK.no {w W W' : World} {gm p : Nat} {I : Nat → Prop} {s : PS} (h : PrK w gm W I p s) (hk : Kept No W W') : PrK w gm W' I p s := h.kept hk (fun _ e => e.elim)
theorem PrK.row {w W : World} {gm p : Nat} {I : Nat → Prop} {s : PS} (h : PrK w gm W I p s) (cs : Array Value) : PrK w gm (W.setRow gm cs) I p s := h.kept (Kept.setRow W gm cs) (fun k e => by have e : k = gm := e; omega)
/-- Steps that came in. -/
structure RdS (w : World) (t : Sl) (xs : List Stp) : Prop where
  row : RowsAt 31 w t.a (xs.map Stp.cs)
  len : xs.length = t.l
  each : ∀ x ∈ xs, ∃ (bs : List Int) (es : List En) (ls : List La) (cs : List Cm), MgAt w x.m bs es ls cs ∧ x.m.st.n ≤ 9223372036854775807
theorem RdS.at {w : World} {t : Sl} {xs : List Stp} (h : RdS w t xs) {i : Nat} (hi : i < t.l) : ∃ tb tq a bs es ls cs, t.a = some ⟨tb, tq, none⟩ ∧ (∀ (j : Nat) v, (Stp.cs a)[j]? = some v → w.cell? ⟨tb, tq + i * 31 + j, none⟩ = some v) ∧ MgAt w a.m bs es ls cs ∧ a.m.st.n ≤ 9223372036854775807 := by
  have hx : xs[i]? = some (xs[i]'(by rw [h.len]; exact hi)) := List.getElem?_eq_getElem _
  obtain ⟨b, off, e, hc⟩ := h.row i _ (by rw [List.getElem?_map, hx]; rfl)
  obtain ⟨bs, es, ls, cs, h1, h2⟩ := h.each _ (List.mem_of_getElem? hx)
  exact ⟨b, off, _, bs, es, ls, cs, e, hc, h1, h2⟩
theorem E29 : Try.prog.underlying 29 = some (.slice (Try.prog.elem 29)) := by kernel_rfl
theorem F29 : (Try.prog.info? (Try.prog.elem 29)).map (·.size) = some 31 := by kernel_rfl
end Go.Proofs.Ytpabpeppgpeaoaa.Md
