import Derived.Test.YtcgnbpaaalmkoaaG
namespace Go.Proofs.Ytcgnbpaaalmkoaa
open Go.RowKit
set_option linter.unusedVariables false
set_option linter.unusedSimpArgs false

def markE : En := ⟨⟨#[109, 97, 114, 107]⟩, 0, 0, -9⟩
def markL : La := ⟨-9, 0, 0, 0, 0, 0, 0⟩
theorem sliced0 (g n m c : Nat) (h : 0 < m) : sliced (some ⟨g, 0, none⟩) 0 n m c = .slice (some ⟨g, 0, none⟩) n m := by
  rw [sliced_in g 0 0 n m c h]; simp
theorem setRow_self {w : World} {g : Nat} {t : TypeId} {cs : Array Value} (h : Box w g t cs) : w.setRow g cs = w := by
  have hlt := h.lt
  have hv : w.heap[g] = .cells cs t (0, 0) := (Array.getElem?_eq_some_iff.1 h).2
  have hh : (w.setRow g cs).heap = w.heap := by
    unfold World.setRow
    apply Array.ext
    · simp
    · intro i h1 h2
      simp only [Array.getElem_modify]
      split
      · rename_i e; subst e; rw [hv]
      · rfl
  have : w.setRow g cs = { w with heap := (w.setRow g cs).heap } := rfl
  rw [this, hh]
theorem made_row (c : Nat) (z : List Value) (hz : z.length = c) (h0 : 0 < c) (n : Nat) : madeCells z.toArray (n * c) = ((List.replicate n z).flatten).toArray := by
  have hc : ∀ x ∈ List.replicate n z, x.length = c := fun x hx => by rw [(List.mem_replicate.1 hx).2]; exact hz
  have hfl : ((List.replicate n z).flatten).length = n * c := by rw [flat_len c _ hc, List.length_replicate]
  apply Array.ext
  · rw [size_madeCells]; simp only [List.size_toArray]; exact hfl.symm
  · intro i h1 h2
    rw [size_madeCells] at h1
    have hi : i / c < n := Nat.div_lt_of_lt_mul (by rw [Nat.mul_comm]; exact h1)
    have hm : i % c < z.length := by rw [hz]; exact Nat.mod_lt _ h0
    have h3 := flat_get c _ hc (i / c) z (by simp [hi]) (i % c) z[i % c] (List.getElem?_eq_getElem hm)
    rw [show i / c * c + i % c = i by rw [Nat.mul_comm]; exact Nat.div_add_mod i c] at h3
    have h4 : ((List.replicate n z).flatten)[i]? = some (((List.replicate n z).flatten)[i]'(by simpa using h2)) := List.getElem?_eq_getElem _
    rw [h4] at h3
    have h5 := Option.some.inj h3
    simp only [List.getElem_toArray, h5]
    simp [madeCells, hz]
    rw [List.getElem?_eq_getElem hm]; rfl
theorem rep_en (n : Nat) : ((List.replicate n enZ.cs).flatten) = enL (List.replicate n enZ) := by simp [enL]
theorem make_en (w : World) (n : Nat) (hb : n ≤ 3518437208883) : (Instr.makeSlice 29 (.int .i64 (n : Int)) (.int .i64 (n : Int))).run Try.prog w = .ok (.slice (some ⟨w.heap.size, 0, none⟩) n n) (w.alloc (.cells (enL (List.replicate n enZ)).toArray 110)) := by
  cases hq : Try.prog.info? 110 with
  | none => have := Try.info110; simp [hq] at this
  | some i =>
    have h1 := Try.info110
    simp only [hq, Option.map_some, Option.some.injEq, Prod.mk.injEq] at h1
    obtain ⟨hz, hs, hby⟩ := h1
    have h := run_make (P := Try.prog) w 29 110 i (.agg enZ.cells) Try.und29 hq hz .i64 .i64 (n : Int) (n : Int) (by omega) (by omega) (by rw [hby]; omega) (by omega)
    rw [h, hs, ← rep_en]
    simp only [Int.toNat_natCast]
    rw [← made_row 4 enZ.cs rfl (by omega) n]
    rfl
theorem copy_en {w : World} {g : Nat} {ea : Option Addr} {en ec : Nat} {es : List En} (ty : TypeId) (hb : Box w g 110 (enL (List.replicate (en + 1) enZ)).toArray) (he : RdE w ⟨ea, en, ec⟩ es) : (Builtin.copy_ #[29, 29] ty #[.slice (some ⟨g, 0, none⟩) (en + 1) (en + 1), .slice ea en ec]).run Try.prog w = .ok (goInt en) (w.setRow g (enL (es ++ [enZ])).toArray) := by
  have hl : es.length = en := he.len
  have hp : putL (enL (List.replicate (en + 1) enZ)) 0 (enL es) = enL (es ++ [enZ]) := by
    rw [enL_app]
    unfold putL
    rw [List.take_zero, List.nil_append, Nat.zero_add, enL_len, hl, List.replicate_succ', enL_app, List.drop_append_of_le_length (by rw [enL_len, List.length_replicate]; exact Nat.le_refl _), List.drop_of_length_le (by rw [enL_len, List.length_replicate]; exact Nat.le_refl _)]
    rfl
  cases ea with
  | none =>
    have hes : es = [] := by
      cases es with
      | nil => rfl
      | cons x r =>
        obtain ⟨b, off, e, _⟩ := he.row 0 x.cs rfl
        cases e
    subst hes
    have hn : en = 0 := hl.symm
    subst hn
    have : (Builtin.copy_ #[29, 29] ty #[.slice (some ⟨g, 0, none⟩) (0 + 1) (0 + 1), .slice none 0 ec]).run Try.prog w = .ok (goInt 0) w := by
      simp [Builtin.copy_, run_underlying Try.und29, Builtin.lenOf, size_of Try.size110, run_firstCells_none, storeCells]
    rw [this]
    rw [show w.setRow g (enL ([] ++ [enZ])).toArray = w from setRow_self hb]
    rfl
  | some ad =>
    rw [← hp]
    exact run_copyN 29 ty 110 4 Try.und29 Try.size110 hb (en + 1) (en + 1) ad en ec en (by omega) (enL es) (by rw [enL_len, hl]) (fun j u h => by
      obtain ⟨ad', e1, e2⟩ := he.src j u h
      cases e1; exact e2) (by rw [Nat.zero_add, enL_len, enL_len, List.length_replicate, hl]; omega) (enL_one _)
theorem mark_en {w : World} {g : Nat} {es : List En} (x y : En) {n : Nat} (hn : es.length = n) (hb : Box w g 110 (enL (es ++ [x])).toArray) : (storeVar 110 ⟨g, 0 + n * 4, none⟩ (.agg y.cells)).run Try.prog w = .ok () (w.setRow g (enL (es ++ [y])).toArray) := by
  have h := run_store_at (off := 0 + n * 4) (ty := 110) (vs := y.cs) (v := .agg y.cells) hb rfl Try.size110 (by rw [enL_len, List.length_append, hn]; show 0 + n * 4 + 4 ≤ (n + 1) * 4; omega) y.oneL
  rw [h]
  have : putL (enL (es ++ [x])) (0 + n * 4) y.cs = enL (es ++ [y]) := by
    rw [enL_app, enL_app, Nat.zero_add]
    have hlen : (enL es).length = n * 4 := by rw [enL_len, hn]
    unfold putL
    rw [← hlen, List.take_left', List.drop_of_length_le (by rw [List.length_append]; exact Nat.le_refl _), List.append_nil, enL_1]
    rfl
  rw [this]
theorem rep_la (n : Nat) : ((List.replicate n laZ.cs).flatten) = laL (List.replicate n laZ) := by simp [laL]
theorem make_la (w : World) (n : Nat) (hb : n ≤ 2513169434916) : (Instr.makeSlice 30 (.int .i64 (n : Int)) (.int .i64 (n : Int))).run Try.prog w = .ok (.slice (some ⟨w.heap.size, 0, none⟩) n n) (w.alloc (.cells (laL (List.replicate n laZ)).toArray 113)) := by
  cases hq : Try.prog.info? 113 with
  | none => have := Try.info113; simp [hq] at this
  | some i =>
    have h1 := Try.info113
    simp only [hq, Option.map_some, Option.some.injEq, Prod.mk.injEq] at h1
    obtain ⟨hz, hs, hby⟩ := h1
    have h := run_make (P := Try.prog) w 30 113 i (.agg laZ.cells) Try.und30 hq hz .i64 .i64 (n : Int) (n : Int) (by omega) (by omega) (by rw [hby]; omega) (by omega)
    rw [h, hs, ← rep_la]
    simp only [Int.toNat_natCast]
    rw [← made_row 7 laZ.cs rfl (by omega) n]
    rfl
theorem copy_la {w : World} {g : Nat} {ea : Option Addr} {en ec : Nat} {es : List La} (ty : TypeId) (hb : Box w g 113 (laL (List.replicate (en + 1) laZ)).toArray) (he : RdL w ⟨ea, en, ec⟩ es) : (Builtin.copy_ #[30, 30] ty #[.slice (some ⟨g, 0, none⟩) (en + 1) (en + 1), .slice ea en ec]).run Try.prog w = .ok (goInt en) (w.setRow g (laL (es ++ [laZ])).toArray) := by
  have hl : es.length = en := he.len
  have hp : putL (laL (List.replicate (en + 1) laZ)) 0 (laL es) = laL (es ++ [laZ]) := by
    rw [laL_app]
    unfold putL
    rw [List.take_zero, List.nil_append, Nat.zero_add, laL_len, hl, List.replicate_succ', laL_app, List.drop_append_of_le_length (by rw [laL_len, List.length_replicate]; exact Nat.le_refl _), List.drop_of_length_le (by rw [laL_len, List.length_replicate]; exact Nat.le_refl _)]
    rfl
  cases ea with
  | none =>
    have hes : es = [] := by
      cases es with
      | nil => rfl
      | cons x r =>
        obtain ⟨b, off, e, _⟩ := he.row 0 x.cs rfl
        cases e
    subst hes
    have hn : en = 0 := hl.symm
    subst hn
    have : (Builtin.copy_ #[30, 30] ty #[.slice (some ⟨g, 0, none⟩) (0 + 1) (0 + 1), .slice none 0 ec]).run Try.prog w = .ok (goInt 0) w := by
      simp [Builtin.copy_, run_underlying Try.und30, Builtin.lenOf, size_of Try.size113, run_firstCells_none, storeCells]
    rw [this]
    rw [show w.setRow g (laL ([] ++ [laZ])).toArray = w from setRow_self hb]
    rfl
  | some ad =>
    rw [← hp]
    exact run_copyN 30 ty 113 7 Try.und30 Try.size113 hb (en + 1) (en + 1) ad en ec en (by omega) (laL es) (by rw [laL_len, hl]) (fun j u h => by
      obtain ⟨ad', e1, e2⟩ := he.src j u h
      cases e1; exact e2) (by rw [Nat.zero_add, laL_len, laL_len, List.length_replicate, hl]; omega) (laL_one _)
theorem mark_la {w : World} {g : Nat} {es : List La} (x y : La) {n : Nat} (hn : es.length = n) (hb : Box w g 113 (laL (es ++ [x])).toArray) : (storeVar 113 ⟨g, 0 + n * 7, none⟩ (.agg y.cells)).run Try.prog w = .ok () (w.setRow g (laL (es ++ [y])).toArray) := by
  have h := run_store_at (off := 0 + n * 7) (ty := 113) (vs := y.cs) (v := .agg y.cells) hb rfl Try.size113 (by rw [laL_len, List.length_append, hn]; show 0 + n * 7 + 7 ≤ (n + 1) * 7; omega) y.oneL
  rw [h]
  have : putL (laL (es ++ [x])) (0 + n * 7) y.cs = laL (es ++ [y]) := by
    rw [laL_app, laL_app, Nat.zero_add]
    have hlen : (laL es).length = n * 7 := by rw [laL_len, hn]
    unfold putL
    rw [← hlen, List.take_left', List.drop_of_length_le (by rw [List.length_append]; exact Nat.le_refl _), List.append_nil, laL_1]
    rfl
  rw [this]
theorem exec_make {o : Oper} {a : Act} {w w' : World} {v : Value} (t : TypeId) (x y : Operand) (ho : o.op = .makeSlice t x y) (vx vy : Value) (hx : a.eval x = vx) (hy : a.eval y = vy) (hrun : (Instr.makeSlice t vx vy).run Try.prog w = .ok v w') : (execOp a.eval o).run Try.prog w = .ok (.value v) w' := by
  simp [execOp, ho, hx, hy, hrun]

end Go.Proofs.Ytcgnbpaaalmkoaa
