import Derived.Test.YtapjnanenfcdjaaYb
namespace Go.Proofs.Ytapjnanenfcdjaa
open Go.RowKit
set_option linter.unusedVariables false
set_option linter.unusedSimpArgs false

/-- A new proposal in memory. -/
def newX (b : Sp) (n : Int) : Px := ⟨newP b n, none, 0, none, 0⟩
theorem Own.nilInts (w : World) (base : Nat) : Own 3 1 w base none 0 0 (ints []) := ⟨rfl, .inl ⟨rfl, rfl⟩⟩
theorem PM.appL {w0 w w' : World} {p bI : Nat} {la : Option Addr} {lc : Nat} {st : PS} {xs : List Px} (h : PM w0 w p bI la lc st xs none) (b : Sp) (n : Int) (hk : Kept (At la) w w') {g cap : Nat}
    (hrow : Own 87 16 w' w0.heap.size (some ⟨g, 0, none⟩) cap (xs.length + 1) ((xs.map Px.cs).flatten ++ (newX b n).cs)) :
    ∃ cs : Array Value, (storeVar 67 ⟨p, 2, none⟩ (.slice (some ⟨g, 0, none⟩) (xs.length + 1) cap)).run Try.prog w' = .ok () (w'.setRow p cs) ∧ PM w0 (w'.setRow p cs) p bI (some ⟨g, 0, none⟩) cap { st with ls := st.ls ++ [newP b n] } (xs ++ [newX b n]) none := by
  have hbox : Box w' p 69 (playC st.f bI st.is.length la xs.length lc st.dec).toArray := h.box.kept hk (fun e => own_box h.row h.box (by decide) e rfl)
  have hins : Box w' bI 29 (st.is.map In.cs).flatten.toArray := h.ins.kept hk (fun e => own_box h.row h.ins (by decide) e rfl)
  refine ⟨(playC st.f bI st.is.length (some ⟨g, 0, none⟩) (xs.length + 1) cap st.dec).toArray, ?_, ?_⟩
  · exact run_store_at (ty := 67) (off := 2) (vs := [.slice (some ⟨g, 0, none⟩) (xs.length + 1) cap]) hbox rfl Try.size67 (by rw [playC_len]; simp) (by intro q hq; simp at hq; subst hq; rfl)
  · have hk2 := Kept.setRow w' p (playC st.f bI st.is.length (some ⟨g, 0, none⟩) (xs.length + 1) cap st.dec).toArray
    have hl : ∀ {a : Option Addr} {c m : Nat} {vs : List Value}, Own 3 1 w w0.heap.size a c m vs → Own 3 1 (w'.setRow p (playC st.f bI st.is.length (some ⟨g, 0, none⟩) (xs.length + 1) cap st.dec).toArray) w0.heap.size a c m vs := fun ho => by
      have h1 := ho.kept hk (fun q hq e => own_own ho h.row (by decide) hq e)
      exact h1.kept hk2 (fun q hq e => own_box h1 hbox (by decide) hq e)
    refine ⟨?_, hins.kept hk2 (fun e => box_ne hbox hins (by decide) e.symm), ?_, ?_, ?_, ?_, ?_, h.np, h.ni⟩
    · have := Box.setRow hbox (playC st.f bI st.is.length (some ⟨g, 0, none⟩) (xs.length + 1) cap st.dec).toArray
      simpa using this
    · rw [List.map_append, h.vals]; rfl
    · have h2 := hrow.kept hk2 (fun q hq e => own_box hrow hbox (by decide) hq e)
      simpa using h2
    · intro k x hx _
      rcases get_app hx with e | ⟨-, rfl⟩
      · exact hl (h.pown k x e (by simp))
      · exact Own.nilInts _ _
    · intro k x hx _
      rcases get_app hx with e | ⟨-, rfl⟩
      · exact hl (h.aown k x e (by simp))
      · exact Own.nilInts _ _
    · intro i j x y hx hy q
      have nn : ∀ {q : Nat}, ¬ At (newX b n).pa q ∧ ¬ At (newX b n).aa q := ⟨At.none, At.none⟩
      rcases get_app hx with e | ⟨-, rfl⟩ <;> rcases get_app hy with e2 | ⟨-, rfl⟩
      · exact h.ap i j x y e e2 q
      · exact ⟨fun _ a => absurd a nn.1, fun _ a => absurd a nn.2, fun _ => nn.2⟩
      · exact ⟨fun a => absurd a nn.1, fun a => absurd a nn.2, fun a => absurd a nn.1⟩
      · exact ⟨fun a => absurd a nn.1, fun a => absurd a nn.2, fun a => absurd a nn.1⟩
def BegOut (w0 w : World) (p bI : Nat) (la : Option Addr) (st : PS) (xs : List Px) (w' : World) : Prop :=
  ∃ (la' : Option Addr) (lc' : Nat) (st' : PS) (xs' : List Px), PM w0 w' p bI la' lc' st' xs' none ∧ Inv st' ∧ st'.f = st.f ∧ xs'.length ≤ xs.length + 1 ∧ Kept (PSet p bI la xs) w w'
theorem one_One {b : Sp} (h : oneB b = true) : One b := by
  simp only [oneB, inB, Bool.and_eq_true, decide_eq_true_eq] at h
  exact ⟨h.1.1, h.2.1, h.2.2⟩
theorem build27 (b : Sp) (n : Int) : True := trivial

end Go.Proofs.Ytapjnanenfcdjaa
