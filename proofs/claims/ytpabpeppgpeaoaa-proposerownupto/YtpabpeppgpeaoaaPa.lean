import Derived.Test.YtpabpeppgpeaoaaRt
import Derived.Test.YtpabpeppgpeaoaaRh
import Derived.Test.YtpabpeppgpeaoaaZp
namespace Go.Proofs.Ytpabpeppgpeaoaa.Md
open Go.RowKit Gt
set_option linter.unusedVariables false
set_option linter.unusedSimpArgs false

/-- The row that is handed in: the group, then marks up to a place. -/
def mkI (zs : List Int) (i : Nat) : List Int := zs ++ (List.replicate i (-77) ++ List.replicate (9 - i) 0)
theorem mkI_len {zs : List Int} {i : Nat} (h : i ≤ 9) : (mkI zs i).length = zs.length + 9 := by simp [mkI]; omega
/-- What the row still holds from a place on. -/
def MkR (zs ms : List Int) (i : Nat) : Prop := ms.length = zs.length + 9 ∧ ∀ j, i ≤ j → j < zs.length + 9 → ms[j]? = some (if j < zs.length then zs[j]?.getD 0 else -77)
theorem MkR.start (zs : List Int) : MkR zs (mkI zs 9) 0 := by
  refine ⟨mkI_len (Nat.le_refl _), fun j _ hj => ?_⟩
  unfold mkI
  split
  · rename_i h
    rw [List.getElem?_append_left h, List.getElem?_eq_getElem h]; rfl
  · rename_i h
    rw [List.getElem?_append_right (by omega), List.getElem?_append_left (by simp; omega), List.getElem?_replicate, if_pos (by omega)]
theorem MkR.next {zs ms : List Int} {i : Nat} (y : Int) (h : MkR zs ms i) : MkR zs (ms.set i y) (i + 1) :=
  ⟨by rw [List.length_set]; exact h.1, fun j hj hl => by rw [List.getElem?_set_ne (by omega)]; exact h.2 j (by omega) hl⟩
theorem MkR.lo {zs ms : List Int} {i : Nat} (h : MkR zs ms i) (hi : i < zs.length) : ms[i]? = some (zs[i]?.getD 0) := by rw [h.2 i (Nat.le_refl _) (by omega), if_pos hi]
theorem MkR.hi {zs ms : List Int} {i : Nat} (h : MkR zs ms i) (h1 : ¬ i < zs.length) (h2 : i < zs.length + 9) : ms[i]? = some (-77) := by rw [h.2 i (Nat.le_refl _) h2, if_neg h1]
/-- A proposer that lies behind a row. -/
def PrK (w : World) (gm : Nat) (W : World) (I : Nat → Prop) (p : Nat) (s : PS) : Prop := Prp W I p s ∧ ∀ k, I k → gm < k ∧ w.heap.size ≤ k ∧ k < W.heap.size ∧ NotM W k
theorem PrK.kept {w W W' : World} {gm p : Nat} {I S : Nat → Prop} {s : PS} (h : PrK w gm W I p s) (hk : Kept S W W') (hS : ∀ k, S k → k ≤ gm) : PrK w gm W' I p s := by
  refine ⟨h.1.kept hk (fun k e _ _ => ⟨fun f => ?_, e⟩), fun k e => ?_⟩
  · have := (h.2 k e).1; have := hS k f; omega
  · obtain ⟨h1, h2, h3, h4⟩ := h.2 k e
    have hs := hk.size
    refine ⟨h1, h2, by omega, fun cs hb => h4 cs ?_⟩
    unfold Box at hb ⊢
    rw [← hk.block k h3 (fun f => by have := hS k f; omega)]; exact hb
theorem PrK.no {w W W' : World} {gm p : Nat} {I : Nat → Prop} {s : PS} (h : PrK w gm W I p s) (hk : Kept No W W') : PrK w gm W' I p s := h.kept hk (fun _ e => e.elim)
theorem PrK.row {w W : World} {gm p : Nat} {I : Nat → Prop} {s : PS} (h : PrK w gm W I p s) (cs : Array Value) : PrK w gm (W.setRow gm cs) I p s := h.kept (Kept.setRow W gm cs) (fun k e => by have e : k = gm := e; omega)
/-- Steps that came in. -/
structure RdS (w : World) (t : Sl) (xs : List Stp) : Prop where
  row : RowsAt 31 w t.a (xs.map Stp.cs)
  len : xs.length = t.l
  each : ∀ x ∈ xs, ∃ (bs : List Int) (es : List En) (ls : List La) (cs : List Cm), MgAt w x.m bs es ls cs ∧ x.m.st.n ≤ 9223372036854775807
theorem RdS.at {w : World} {t : Sl} {xs : List Stp} (h : RdS w t xs) {i : Nat} (hi : i < t.l) : ∃ tb tq a bs es ls cs, t.a = some ⟨tb, tq, none⟩ ∧ (∀ (j : Nat) v, (Stp.cs a)[j]? = some v → w.cell? ⟨tb, tq + i * 31 + j, none⟩ = some v) ∧ MgAt w a.m bs es ls cs ∧ a.m.st.n ≤ 9223372036854775807 := by
  have hx : xs[i]? = some (xs[i]'(by rw [h.len]; exact hi)) := List.getElem?_eq_getElem _
  obtain ⟨b, off, e, hc⟩ := h.row i _ (by rw [List.getElem?_map, hx]; rfl)
  obtain ⟨bs, es, ls, cs, h1, h2⟩ := h.each _ (List.mem_of_getElem? hx)
  exact ⟨b, off, _, bs, es, ls, cs, e, hc, h1, h2⟩
end Go.Proofs.Ytpabpeppgpeaoaa.Md
