import Derived.Test.YtcgnbpaaalmkoabDb
namespace Go.Proofs.Ytcgnbpaaalmkoab
open Go.RowKit
set_option linter.unusedVariables false
set_option linter.unusedSimpArgs false

/-- What a Take tells: changes, message, whether there is more. -/
structure Tw where
  z : List Ch
  b : List Int
  e : List En
  l : List La
  m : Mg
  o : Bool
def TkNew (n : Nat) (s : Sl) (X : List Ch) : Prop := (∀ k, At s.a k → n ≤ k) ∧ ∀ i, i < s.l → ∀ k, (At (hAt X i).b.d.a k ∨ At (hAt X i).bk.e.a k ∨ At (hAt X i).bk.l.a k) → n ≤ k
theorem TkRd.kept {S : Nat → Prop} {W W' : World} {s : Sl} {z : List Ch} {bs : List Int} {es : List En} {ls : List La} {X : List Ch} {n : Nat} (h : TkRd W s z bs es ls X) (hn : TkNew n s X) (hk : Kept S W W') (hS : ∀ k, S k → k < n) : TkRd W' s z bs es ls X :=
  ⟨h.len, h.row.kept hk (fun k e f => by have := hn.1 k e; have := hS k f; omega), h.zl, fun i hi => ⟨(h.el i hi).s, (h.el i hi).b.kept hk (fun k e f => by have := hn.2 i hi k (.inl e); have := hS k f; omega), (h.el i hi).e.kept hk (fun k e f => by have := hn.2 i hi k (.inr (.inl e)); have := hS k f; omega), (h.el i hi).l.kept hk (fun k e f => by have := hn.2 i hi k (.inr (.inr e)); have := hS k f; omega)⟩⟩
theorem TkRd.nil (w : World) : TkRd w slZ [] [] [] [] [] := ⟨rfl, RowsAt.nil _ _ _, rfl, fun i hi => absurd hi (Nat.not_lt_zero _)⟩
theorem TkNew.nil (n : Nat) : TkNew n slZ [] := ⟨fun k e => absurd e At.none, fun i hi => absurd hi (Nat.not_lt_zero _)⟩
theorem newF_mem (a f up : Int) (cs ks : List Cm) : ∀ k x, x ∈ newF a f up cs ks k → ∃ n c, x = chM a n c
  | 0, x, h => by simp [newF] at h
  | k + 1, x, h => by
    unfold newF at h
    split at h
    · exact newF_mem a f up cs ks k x h
    · rcases List.mem_append.1 h with h | h
      · exact newF_mem a f up cs ks k x h
      · exact ⟨_, _, by simpa using h⟩
theorem hAt_mem {X : List Ch} {i : Nat} (h : i < X.length) : hAt X i ∈ X := by unfold hAt; rw [List.getElem?_eq_getElem h]; exact List.getElem_mem h
theorem new_el {w : World} {a f up : Int} {cs ks : List Cm} {k i : Nat} (hi : i < (newF a f up cs ks k).length) : ChRd w (hAt (newF a f up cs ks k) i) (hAt (newF a f up cs ks k) i) [] [] [] := by
  obtain ⟨n, c, e⟩ := newF_mem a f up cs ks k _ (hAt_mem hi)
  rw [e]
  exact ⟨rfl, RdB.nil _, RdE.nil _, RdL.nil _⟩
theorem new_new {a f up : Int} {cs ks : List Cm} {k i m : Nat} (hi : i < (newF a f up cs ks k).length) : ∀ j, (At (hAt (newF a f up cs ks k) i).b.d.a j ∨ At (hAt (newF a f up cs ks k) i).bk.e.a j ∨ At (hAt (newF a f up cs ks k) i).bk.l.a j) → m ≤ j := by
  obtain ⟨n, c, e⟩ := newF_mem a f up cs ks k _ (hAt_mem hi)
  rw [e]
  rintro j (h | h | h) <;> exact absurd h At.none
theorem row_one {w : World} {g : Nat} {T : TypeId} {x : Ch} (hb : Box w g T (Ch.cells x)) : RowsAt 24 w (some ⟨g, 0, none⟩) ([x].map Ch.cs) := by
  intro i it hi
  refine ⟨g, 0, rfl, fun j v hv => ?_⟩
  have hi0 : i = 0 := by have := (List.getElem?_eq_some_iff.1 hi).1; simp at this; exact this
  subst hi0
  simp at hi
  subst hi
  rw [Nat.zero_mul, Nat.zero_add, hb.cell]
  exact cell_ch _ _ _ hv
theorem one_el {w : World} {x z : Ch} {bs : List Int} {es : List En} {ls : List La} (h : ChRd w x z bs es ls) : ∀ i, i < 1 → ChRd w (hAt [x] i) (hAt [z] i) bs es ls := by
  intro i hi
  have : i = 0 := by omega
  subst this
  exact h
def msgT (m : Mg) (n : Int) : Mg := if moreB m then askM m.to m.fr m.ky n else mgZ
def takeA (m : Mg) (h : Hd) (bs : List Int) (es : List En) (ls : List La) (cs : List Cm) (ps : List Pl) : Tw :=
  bif (m.k == 22 && (m.ky.k == 1 || (m.ky.k == 2 && ((decide (1 ≤ m.bk.up) && decide (m.bk.up ≤ 1048576)) || (m.bk.up == 0 && askB m.st.n))))) then
    bif m.ky.k == 1 then
      bif lessB h.b.s m.st then ⟨[⟨m.ky, ⟨m.st, slZ⟩, inZ, bvZ⟩], bs, [], [], mgZ, false⟩ else ⟨[], [], [], [], mgZ, false⟩
    else bif m.bk.up == 0 then ⟨newF m.ky.a m.st.n h.k.up cs (decF m.st.n m.cm.l (decd ps)) m.cm.l, [], [], [], msgT m (m.st.n + ((m.cm.l : Nat) : Int)), moreB m⟩
    else bif decide (edgeF h.k.up (decd ps) < m.bk.up) then ⟨[⟨m.ky, blZ, inZ, ⟨m.bk.up, slZ, slZ⟩⟩], [], es, ls, msgT m (m.bk.up + 1), moreB m⟩ else ⟨[], [], [], [], msgT m (m.bk.up + 1), moreB m⟩
  else ⟨[], [], [], [], mgZ, false⟩
theorem tk_len (m : Mg) (h : Hd) (bs : List Int) (es : List En) (ls : List La) (cs : List Cm) (ps : List Pl) (hc : m.cm.l ≤ 4000000000000) (he : es.length ≤ 4000000000000) (hl : ls.length ≤ 4000000000000) : (takeA m h bs es ls cs ps).z.length ≤ 4000000000000 ∧ (takeA m h bs es ls cs ps).e.length ≤ 4000000000000 ∧ (takeA m h bs es ls cs ps).l.length ≤ 4000000000000 := by
  unfold takeA
  cases (m.k == 22 && (m.ky.k == 1 || (m.ky.k == 2 && ((decide (1 ≤ m.bk.up) && decide (m.bk.up ≤ 1048576)) || (m.bk.up == 0 && askB m.st.n))))) with
  | false => exact ⟨Nat.zero_le _, Nat.zero_le _, Nat.zero_le _⟩
  | true =>
    cases (m.ky.k == 1) with
    | true => cases (lessB h.b.s m.st) <;> exact ⟨by simp, Nat.zero_le _, Nat.zero_le _⟩
    | false =>
      cases (m.bk.up == 0) with
      | true =>
        refine ⟨?_, Nat.zero_le _, Nat.zero_le _⟩
        have := newF_len m.ky.a m.st.n h.k.up cs (decF m.st.n m.cm.l (decd ps)) m.cm.l
        exact Nat.le_trans this hc
      | false => cases decide (edgeF h.k.up (decd ps) < m.bk.up) with
        | true => exact ⟨by simp, he, hl⟩
        | false => exact ⟨Nat.zero_le _, Nat.zero_le _, Nat.zero_le _⟩
end Go.Proofs.Ytcgnbpaaalmkoab
