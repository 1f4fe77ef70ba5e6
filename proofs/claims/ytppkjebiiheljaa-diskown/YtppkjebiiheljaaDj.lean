import Derived.Test.YtppkjebiiheljaaDi
namespace Go.Proofs.Ytppkjebiiheljaa
open Go.RowKit
set_option linter.unusedVariables false
set_option linter.unusedSimpArgs false

theorem Try.info5 : (Try.prog.info? 5).map (fun i => (i.zero, i.size, i.bytes)) = some (some (.int .u8 0), 1, 1) := by kernel_rfl
theorem made_u8 (n : Nat) : (madeCells (Value.int .u8 0).cells (n * 1)).toList = (List.replicate n (0 : Int)).map (Value.int .u8) := by
  apply List.ext_getElem
  · simp [size_madeCells]
  · intro i h1 h2
    simp [madeCells, Value.cells, Nat.mod_one]
theorem made_box {q : IntKind} {w : World} {base g n : Nat} {t : TypeId} {zs : List Int} (h : w.ownsRow base t 1 (.slice (some ⟨g, 0, none⟩) n n) n (zs.map (Value.int q))) : Box w g t (zs.map (Value.int q)).toArray := by
  rcases h.2 with ⟨h', _⟩ | ⟨g', cap', cur, h', hb, hg, _, _, hcs, htake⟩
  · simp at h'
  · simp only [Value.slice.injEq, Option.some.injEq, Addr.mk.injEq, and_true, true_and] at h'
    obtain ⟨rfl, rfl⟩ := h'
    rw [List.take_of_length_le (by simp [hcs])] at htake
    unfold Box
    rw [hg, ← htake]
theorem flatN_zs : ∀ n, flatN n (fun _ => zs) = List.replicate (n * 512) 0
  | 0 => rfl
  | n + 1 => by rw [flatN, flatN_zs n, Nat.succ_mul, ← List.replicate_append_replicate]; rfl

/-- The disk is as a disk is. -/
structure Fine (x : DS) : Prop where
  n1 : 1 ≤ x.N
  n2 : x.N ≤ 65536
  len : ∀ m, (x.c m).length = 512
  out : ∀ m, x.N ≤ m → x.c m = zs

/-- How far the image is: f m is there, or not yet. -/
def Half (c : Nat → List Int) (es : Array MapEntry) (seen : Array Nat) (f : Nat → List Int) : Prop :=
  (∀ m, f m = c m ∨ f m = zs) ∧ ∀ e ∈ es.toList, seen.contains e.born = true → ∀ m : Nat, e.key = .int .i64 m → f m = c m
theorem Half.start (c : Nat → List Int) (es : Array MapEntry) : Half c es #[] (fun _ => zs) :=
  ⟨fun _ => .inr rfl, fun e _ h => by simp at h⟩
theorem Half.len {c f : Nat → List Int} {es : Array MapEntry} {seen : Array Nat} (h : Half c es seen f) (hc : ∀ m, (c m).length = 512) (m : Nat) : (f m).length = 512 := by
  rcases h.1 m with e | e <;> rw [e]
  · exact hc m
  · exact zs_len
theorem Half.step {c f : Nat → List Int} {es : Array MapEntry} {clock : Nat} {seen : Array Nat} (he : Ents es clock (gOf c)) (h : Half c es seen f) {e : MapEntry} (hem : e ∈ es.toList) {m : Nat} (hk : e.key = .int .i64 m) : Half c es (seen.push e.born) (updC f m (c m)) := by
  refine ⟨fun k => ?_, fun e' he' hs k hk' => ?_⟩
  · unfold updC
    split
    · rename_i e1; rw [e1]; exact .inl rfl
    · exact h.1 k
  · unfold updC
    split
    · rename_i e1; rw [e1]
    · rename_i hne
      refine h.2 e' he' ?_ k hk'
      simp only [Array.contains_push, Bool.or_eq_true, beq_iff_eq] at hs
      rcases hs with hs | hs
      · first | exact hs | (exfalso; have := born_inj he.1.2.1 he' hem hs; rw [this, hk] at hk'; simp at hk'; omega)
      · first | exact hs | (exfalso; have := born_inj he.1.2.1 he' hem hs; rw [this, hk] at hk'; simp at hk'; omega)
theorem Half.fin {c f : Nat → List Int} {es : Array MapEntry} {clock : Nat} {seen : Array Nat} (he : Ents es clock (gOf c)) (h : Half c es seen f) (h0 : (leftOf es seen).size = 0) (m : Nat) : f m = c m := by
  by_cases hz : c m = zs
  · rcases h.1 m with e | e
    · exact e
    · rw [e, hz]
  · obtain ⟨e, hem, hk⟩ := he.2.2 m (c m) (by simp [gOf, hz])
    refine h.2 e hem ?_ m hk
    exact all_seen es seen h0 e hem

end Go.Proofs.Ytppkjebiiheljaa
