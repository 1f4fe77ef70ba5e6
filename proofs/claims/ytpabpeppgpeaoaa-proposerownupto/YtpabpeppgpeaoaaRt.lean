import Derived.Test.YtpabpeppgpeaoaaRs
namespace Go.Proofs.Ytpabpeppgpeaoaa.Md
open Go.RowKit Gt
set_option linter.unusedVariables false
set_option linter.unusedSimpArgs false

structure Stp where
  k : Int
  m : Mg
def Stp.cs (x : Stp) : List Value := [.int .i64 x.k] ++ x.m.cs
def Stp.cells (x : Stp) : Array Value := x.cs.toArray
theorem Stp.oneL (x : Stp) : ∀ v ∈ x.cs, v.oneCell' = true := by
  intro v hv
  rcases List.mem_append.1 hv with h | h
  · simp at h; subst h; rfl
  · exact Mg.oneL x.m v h
theorem MgAt.of {w : World} {m m' : Mg} {bs : List Int} {es : List En} {ls : List La} {cs : List Cm} (h : MgAt w m bs es ls cs) (e1 : m'.bl = m.bl) (e2 : m'.bk = m.bk) (e3 : m'.cm = m.cm) : MgAt w m' bs es ls cs := by
  obtain ⟨a, b, c, d, n1, n2, n3, n4⟩ := h
  exact ⟨by rw [e1]; exact a, by rw [e2]; exact b, by rw [e2]; exact c, by rw [e3]; exact d, by rw [e1]; exact n1, by rw [e2]; exact n2, by rw [e2]; exact n3, by rw [e3]; exact n4⟩
/-- Lent lists can be read. -/
theorem lm_rdE {w : World} {base : Nat} {m : Mg} {bs : List Int} {es : List En} {ls : List La} {cs : List Cm} {gb ge gl gc : Nat} (h : LmAt w base m bs es ls cs gb ge gl gc) (hm : es.length = m.bk.e.l) : Ytpabpeppgpeaoaa.RdE w (jL (lent m.bk.e ge)) (es.map dE) := rdE_up (rd_E hm h.e)
theorem lm_rdL {w : World} {base : Nat} {m : Mg} {bs : List Int} {es : List En} {ls : List La} {cs : List Cm} {gb ge gl gc : Nat} (h : LmAt w base m bs es ls cs gb ge gl gc) (hm : ls.length = m.bk.l.l) : Ytpabpeppgpeaoaa.RdL w (jL (lent m.bk.l gl)) (ls.map dL) := rdL_up (rd_L hm h.l)
end Go.Proofs.Ytpabpeppgpeaoaa.Md
