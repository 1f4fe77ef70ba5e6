import Derived.Test.YtpapbleabjpbfabFo
import Derived.Test.YtpapbleabjpbfabKn
namespace Go.Proofs.Ytpapbleabjpbfab
open Go.RowKit
set_option linter.unusedVariables false

theorem own_block {w : World} {base : Nat} {t : TypeId} {c n : Nat} {v : Value} {xs : List Value} (h : w.ownsRow base t c v n xs) (k : Nat) (hk : v.ownBlock = some k) : base ≤ k := by
  rcases h.2 with ⟨e, _⟩ | ⟨g, cap, cur, e, hb, _⟩
  · rw [e] at hk; cases hk
  · rw [e] at hk; cases hk; exact hb

theorem owns_no {w w' : World} {base : Nat} {t : TypeId} {c n : Nat} {v : Value} {xs : List Value} (h : w.ownsRow base t c v n xs) (hk : Kept No w w') : w'.ownsRow base t c v n xs := by
  refine ⟨h.1, ?_⟩
  rcases h.2 with e | ⟨g, cap, cur, e, hb, hheap, hr⟩
  · exact .inl e
  · exact .inr ⟨g, cap, cur, e, hb, Box.kept hheap hk (fun e => e), hr⟩

theorem RingAt.no {w w' : World} {base r : Nat} {zs : List Int} {f : Int} {p : Nat} {bu bl ro : Int} {ps : List (Int × Int)} (h : RingAt w base r zs f p bu bl ro ps) (hk : Kept No w w') : RingAt w' base r zs f p bu bl ro ps := by
  obtain ⟨sg, sc, pg, pc, n, m, hn, hm, hb, ho, hp, h0⟩ := h
  exact ⟨sg, sc, pg, pc, n, m, hn, hm, hb.kept hk (fun e => e), ho.no hk, Own.no hp hk, h0⟩
theorem RingAt.lower {w : World} {base base' r : Nat} {zs : List Int} {f : Int} {p : Nat} {bu bl ro : Int} {ps : List (Int × Int)} (h : RingAt w base r zs f p bu bl ro ps) (hb' : base' ≤ base) : RingAt w base' r zs f p bu bl ro ps := by
  obtain ⟨sg, sc, pg, pc, n, m, hn, hm, hb, ho, hp, h0⟩ := h
  exact ⟨sg, sc, pg, pc, n, m, hn, hm, hb, ho.lower hb', Own.lower hp hb', by omega⟩
theorem pts_le {zs : List Int} {f : Int} {p : Nat} {bu bl ro : Int} (hc : cfgB zs f p bu bl ro = true) : (ptsOf (sortI zs) p).length ≤ 4096 := by
  obtain ⟨⟨_, _, _, h64⟩, _, ⟨_, hp⟩, _⟩ := cfgB_true hc
  rw [ptsOf_len, sortI_len]
  have : zs.length * p ≤ 64 * 64 := Nat.mul_le_mul h64 (by omega)
  omega

theorem pts_pos {zs : List Int} {f : Int} {p : Nat} {bu bl ro : Int} (hc : cfgB zs f p bu bl ro = true) : 1 ≤ (sortP (ptsOf (sortI zs) p)).length ∧ (sortP (ptsOf (sortI zs) p)).length ≤ 4096 := by
  have h := pts_le hc
  obtain ⟨⟨h0, _, h1, h64⟩, _, ⟨hp0, hp⟩, _⟩ := cfgB_true hc
  rw [sortP_len]
  refine ⟨?_, h⟩
  rw [ptsOf_len, sortI_len]
  have : 1 * 1 ≤ zs.length * p := Nat.mul_le_mul (by omega) (by omega)
  omega

theorem pts_rising (zs : List Int) (p : Nat) : Rising (sortP (ptsOf zs p)) := by
  have h : (sortP (ptsOf zs p)).Pairwise (fun x y => x.1 ≤ y.1) := by
    have := List.pairwise_mergeSort (le := fun x y : Int × Int => !ltP y x) (by intro a b c; simp only [ltP_eq]; simp; omega) (by intro a b; simp only [ltP_eq]; simp; omega) (ptsOf zs p)
    refine this.imp ?_
    intro x y h
    simp only [ltP_eq] at h
    simp at h
    omega
  intro a b hab hb
  by_cases e : a = b
  · subst e; exact Int.le_refl _
  · have := List.pairwise_iff_getElem.1 h a b (by omega) hb (by omega)
    rw [List.getElem?_eq_getElem hb, List.getElem?_eq_getElem (by omega)]
    exact this
theorem pts_srvI {zs : List Int} {f : Int} {p : Nat} {bu bl ro : Int} (hc : cfgB zs f p bu bl ro = true) : SrvI (sortP (ptsOf (sortI zs) p)) := by
  intro i
  rcases h : (sortP (ptsOf (sortI zs) p))[i]? with _ | x
  · simp [I64]
  · have hx : x ∈ ptsOf (sortI zs) p := (List.mergeSort_perm _ _).subset (List.mem_of_getElem? h)
    simp only [Option.getD_some]
    unfold ptsOf at hx
    obtain ⟨l, hl, hx⟩ := List.mem_flatten.1 hx
    obtain ⟨z, hz, rfl⟩ := List.mem_map.1 hl
    obtain ⟨n, _, rfl⟩ := List.mem_map.1 hx
    have hz' : z ∈ zs := (List.mergeSort_perm _ _).subset hz
    obtain ⟨j, hj, rfl⟩ := List.mem_iff_getElem.1 hz'
    have := ((cfgB_true hc).2.1 j hj).1
    rw [List.getElem?_eq_getElem hj, Option.getD_some] at this
    show I64 (zs[j])
    unfold I64
    omega

theorem pts_hash (zs : List Int) (p : Nat) : HashI (sortP (ptsOf zs p)) := by
  intro i
  rcases h : (sortP (ptsOf zs p))[i]? with _ | x
  · simp
  · have hx : x ∈ ptsOf zs p := (List.mergeSort_perm _ _).subset (List.mem_of_getElem? h)
    simp only [Option.getD_some]
    unfold ptsOf at hx
    obtain ⟨l, hl, hx⟩ := List.mem_flatten.1 hx
    obtain ⟨z, _, rfl⟩ := List.mem_map.1 hl
    obtain ⟨n, _, rfl⟩ := List.mem_map.1 hx
    exact fnv_bd _

/-- What Group tells. -/
def GrpR (w w' : World) (e : Ending) (l : List Int) : Prop := ∃ ga gc, e = .returned (.tuple #[.slice ga l.length gc, .int .i64 0]) ∧ Nums .i64 w' ga l ∧ Kept No w w'


end Go.Proofs.Ytpapbleabjpbfab
