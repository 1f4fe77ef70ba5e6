import Derived.Test.YtcgnbpaaalmkoaaFd
namespace Go.Proofs.Ytcgnbpaaalmkoaa
open Go.RowKit
set_option linter.unusedVariables false
set_option linter.unusedSimpArgs false

theorem Kept.no {a b c : World} (h : Kept No a b) (hk : Kept No b c) : Kept No a c := h.then hk
theorem ins_keep : ∀ (ps : List Pl) (kb : Int) (i : In) (x : Pl), x ∈ ps → x.n ≠ kb → x ∈ insP kb i ps
 | [], kb, i, x, h, _ => by cases h
 | p :: r, kb, i, x, h, hn => by
  show x ∈ (if kb ≤ p.n then (if p.n = kb then ⟨kb, i⟩ :: r else ⟨kb, i⟩ :: p :: r) else p :: insP kb i r)
  rcases List.mem_cons.1 h with e | e
  · subst e
    split
    · first | (rw [if_neg hn]; simp) | simp
    · simp
  · split
    · split <;> simp [e]
    · exact List.mem_cons_of_mem _ (ins_keep r kb i x e hn)
theorem seqP_succ (u : Int) (j : Nat) : seqP u (j + 1) = seqP u j ++ [plN u j] := tab_succ j (plN u)
theorem HoI.next {u : Int} {m : Nat} {a a' : Hd} {ae : List En} {ap : List Pl} {kb : Int} {i : In} {s' : Sl} (H : HoI u m a ae ap) (h1 : u + m < kb) (h2 : kb ≤ u + m + 20) (hd : i.d = true → i.c = cmdN kb) (hM : MayP ⟨a.b, a.k, s'⟩ (insP kb i ap)) : HoI u m ⟨a.b, a.k, s'⟩ ae (insP kb i ap) := by
 refine ⟨hM, H.up, H.bk, fun x hx e => ?_, fun x hx => ?_, fun j hj => ?_, H.b⟩
 · rcases ins_mem ap kb i x hx with h | h
   · rw [h] at e ⊢; exact hd e
   · exact H.cm x h e
 · rcases ins_mem ap kb i x hx with h | h
   · rw [h]; exact h2
   · exact H.hi x h
 · obtain ⟨x, hx, e⟩ := H.all j hj
   refine ⟨x, ins_keep ap kb i x hx ?_, e⟩
   rw [e]; show u + 1 + ((j : Nat) : Int) ≠ kb; omega
end Go.Proofs.Ytcgnbpaaalmkoaa
