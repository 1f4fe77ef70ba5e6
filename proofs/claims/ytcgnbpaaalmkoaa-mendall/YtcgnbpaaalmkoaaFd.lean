import Derived.Test.YtcgnbpaaalmkoaaFc
namespace Go.Proofs.Ytcgnbpaaalmkoaa
open Go.RowKit
set_option linter.unusedVariables false
set_option linter.unusedSimpArgs false

theorem b_quo4 (x : Int) (w : World) : (binOp .quo 3 (.int .i64 x) (.int .i64 4)).run Try.prog w = .ok (.int .i64 (IntKind.i64.wrap (x.tdiv 4))) w := by kernel_rfl
def cmdN (n : Int) : Cm := ⟨4, 1, n, ⟨#[]⟩, 0, 0, 0, 0, 0⟩
def plN (u : Int) (j : Nat) : Pl := ⟨u + 1 + ((j : Nat) : Int), ⟨spZ, spZ, cmdN (u + 1 + ((j : Nat) : Int)), true⟩⟩
def seqP (u : Int) (m : Nat) : List Pl := tab m (plN u)
/-- What a server holds that the law has made. -/
structure HoI (u : Int) (m : Nat) (a : Hd) (ae : List En) (ap : List Pl) : Prop where
 may : MayP a ap
 up : a.k.up = u
 bk : BkOk u ae []
 cm : ∀ x ∈ ap, x.i.d = true → x.i.c = cmdN x.n
 hi : ∀ x ∈ ap, x.n ≤ u + m + 20
 all : ∀ j, j < m → ∃ x ∈ ap, x = plN u j
 b : a.b = blZ
def esOf (u : Int) : List En := if u < 1 then [] else [trE u]
theorem esOf_ok (u : Int) : BkOk u (esOf u) [] := by
 refine ⟨fun h => ?_, fun h => ?_, rfl⟩
 · unfold esOf; rw [if_pos h]
 · unfold esOf; rw [if_neg (by omega)]
def HoA (w : World) (u : Int) (m : Nat) (e : Ending) (w' : World) : Prop := ∃ (a : Hd) (ae : List En) (ap : List Pl), e = .returned (.agg (Hd.cells a)) ∧ HdAt w' a [] ae [] ap ∧ HoI u m a ae ap ∧ Kept No w w'
theorem seq_rise (u : Int) : ∀ (m : Nat), RiseL u (seqP u m) ∧ ∀ x ∈ seqP u m, GoodP x → True := fun m => ⟨by
 apply rise_of
 intro i hi
 rw [show (seqP u m).length = m from tab_len _ _] at hi
 have e : pAt (seqP u m) i = plN u i := by unfold pAt seqP; rw [tab_get hi]; rfl
 refine ⟨fun h0 => ?_, fun h0 => ?_⟩
 · rw [e, h0]; show u < u + 1 + ((0 : Nat) : Int); omega
 · have e2 : pAt (seqP u m) (i - 1) = plN u (i - 1) := by unfold pAt seqP; rw [tab_get (by omega)]; rfl
   rw [e, e2]; show u + 1 + ((i - 1 : Nat) : Int) < u + 1 + ((i : Nat) : Int); omega, fun _ _ _ => trivial⟩
theorem seq_mem2 {u : Int} {m : Nat} {x : Pl} (h : x ∈ seqP u m) : ∃ j, j < m ∧ x = plN u j := by
 unfold seqP tab at h
 obtain ⟨j, hj, e⟩ := List.mem_map.1 h
 exact ⟨j, List.mem_range.1 hj, e.symm⟩
theorem hoI_start (u : Int) (m : Nat) (se s : Sl) (h0 : 0 ≤ u) (h1 : u ≤ 1000) (h2 : m ≤ 1000) (he : (esOf u).length = se.l) : HoI u m ⟨blZ, ⟨u, se, slZ⟩, s⟩ (esOf u) (seqP u m) := by
 refine ⟨⟨⟨h0, by show u ≤ 1048576; omega⟩, fun e => ⟨?_, rfl⟩, may_of (seq_rise u m).1 (fun x hx => ?_)⟩, rfl, esOf_ok u, fun x hx _ => ?_, fun x hx => ?_, fun j hj => ?_, rfl⟩
 · have e : u = 0 := e
   show se.l = 0
   rw [← he, esOf, if_pos (by omega)]; rfl
 · obtain ⟨j, hj, rfl⟩ := seq_mem2 hx
   exact ⟨by show u + 1 + ((j : Nat) : Int) ≤ 1048576; omega, fun _ => ⟨rfl, rfl, by show (1 : Int) ≤ 4; omega⟩⟩
 · obtain ⟨j, hj, rfl⟩ := seq_mem2 hx; rfl
 · obtain ⟨j, hj, rfl⟩ := seq_mem2 hx; show u + 1 + ((j : Nat) : Int) ≤ _; omega
 · exact ⟨plN u j, List.mem_of_getElem? (by unfold seqP; exact tab_get hj), rfl⟩

end Go.Proofs.Ytcgnbpaaalmkoaa
