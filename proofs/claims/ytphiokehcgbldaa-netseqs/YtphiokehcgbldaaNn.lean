import Derived.Test.YtphiokehcgbldaaNn0
import Derived.Shelf.SlSortCmp.WholeK
import Derived.Shelf.Lay
import Derived.Ground.SlsfProg
namespace Go.Proofs.Ytphiokehcgbldaa
open Go.RowKit Go.Sort Go.Shelf Go.Lib
set_option linter.unusedVariables false
set_option linter.unusedSimpArgs false

shelf_lay_g SlLaysF0.n6 Slsf 6 at Try 43 as sortSt

instance : Inhabited Pq := ⟨⟨((false, 0), 0), (false, 0), none, 0, [], 0⟩⟩
theorem ltP (x y : Pq) : ltOf cfP x y = decide (x.pl < y.pl) := by
  unfold ltOf cfP Lib.compareInt
  by_cases h1 : x.pl < y.pl
  · simp [h1]
  · by_cases h2 : y.pl < x.pl <;> simp [h1, h2]
theorem swoP : SWO (ltOf cfP) where
  irrefl x := by rw [ltP]; simp
  trans x y z h1 h2 := by rw [ltP] at *; simp at *; omega
  ntrans x y z h1 h2 := by rw [ltP] at *; simp at *; omega
theorem fm_get {α : Type} (enc : α → List Value) (k : Nat) (hk : ∀ x, (enc x).length = k) (h0 : 0 < k) : ∀ (M : List α) (t : Nat), (M.flatMap enc)[t]? = (M[t / k]?).bind fun x => (enc x)[t % k]?
  | [], t => by simp
  | x :: M, t => by
    rw [List.flatMap_cons]
    by_cases h : t < k
    · rw [List.getElem?_append_left (by rw [hk]; exact h), Nat.div_eq_of_lt h, Nat.mod_eq_of_lt h]
      simp
    · obtain ⟨u, rfl⟩ : ∃ u, t = k + u := ⟨t - k, by omega⟩
      rw [List.getElem?_append_right (by rw [hk]; omega), hk, Nat.add_sub_cancel_left, fm_get enc k hk h0 M u, Nat.add_div_left _ h0, Nat.add_mod_left]
      simp
theorem flat_eq {α : Type} [Inhabited α] (enc : α → List Value) (k : Nat) (hk : ∀ x, (enc x).length = k) (h0 : 0 < k) (M : List α) : (flatK enc k M.toArray).toList = M.flatMap enc := by
  apply List.ext_getElem?
  intro t
  rw [fm_get enc k hk h0]
  by_cases h : t < M.length * k
  · have h1 : t / k < M.length := (Nat.div_lt_iff_lt_mul h0).2 h
    have h2 : t % k < k := Nat.mod_lt _ h0
    rw [List.getElem?_eq_getElem h1]
    have hs : t < (flatK enc k M.toArray).size := by simpa using h
    have e := get_flatK enc k M.toArray t (by simpa using h)
    rw [getElem!_pos _ t hs] at e
    rw [Array.getElem?_toList, Array.getElem?_eq_getElem hs, e]
    have e1 : M.toArray[t / k]! = M[t / k] := by simp [h1]
    rw [e1]
    have h3 : t % k < (enc M[t / k]).length := by rw [hk]; exact h2
    simp [getElem!_pos, h3]
  · have h1 : ¬ t / k < M.length := fun f => h ((Nat.div_lt_iff_lt_mul h0).1 f)
    rw [List.getElem?_eq_none (l := (flatK enc k M.toArray).toList) (by simpa using h), List.getElem?_eq_none (l := M) (by simpa using h1)]
    rfl
theorem stC_len (L : List Pq) (P : Nm → Nat × Nat × Nat) (q : Pq) : (stC L P q).length = 8 := rfl
theorem isAgg89 : ∀ w, (isAgg 89).run Try.prog w = .ok true w := fun w => by kernel_rfl
theorem sizeOf89 : ∀ w, (Go.sizeOf 89).run Try.prog w = .ok 8 w := fun w => by kernel_rfl
/-- The world behind a sort. -/
theorem sortW {base g cap : Nat} {M M' : List Pq} {L : List Pq} {P : Nm → Nat × Nat × Nat} {W : World} {m : Nat} {os : Array Obj} (h : Own 89 8 W base (some ⟨g, 0, none⟩) cap M.length (M.flatMap (stC L P))) (hl : M'.length = M.length) :
    Own 89 8 (sortWorldK (stC L P) 8 W g 0 m M'.toArray os) base (some ⟨g, 0, none⟩) cap M.length (M'.flatMap (stC L P)) ∧ Kept (At (some ⟨g, 0, none⟩)) W (sortWorldK (stC L P) 8 W g 0 m M'.toArray os) := by
  rcases h.2 with ⟨hv, _⟩ | ⟨g', cap', cur, hv, hb, hg, h1, h2, h3, h4⟩
  · cases hv
  · simp only [Value.slice.injEq, Option.some.injEq, Addr.mk.injEq] at hv
    obtain ⟨⟨rfl, _⟩, _, rfl⟩ := hv
    have hlt := (Array.getElem?_eq_some_iff.1 hg).1
    have hfl : (M'.flatMap (stC L P)).length = M.length * 8 := by
      rw [← hl]
      clear hl
      induction M' with
      | nil => rfl
      | cons q M' ih => rw [List.flatMap_cons, List.length_append, ih, stC_len, List.length_cons]; omega
    have hF := flat_eq (stC L P) 8 (stC_len L P) (by omega) M'
    have hFs : (flatK (stC L P) 8 M'.toArray).size = M.length * 8 := by rw [← hfl, ← hF]; simp
    have hheap : ∀ k, k < W.heap.size → (sortWorldK (stC L P) 8 W g 0 m M'.toArray os).heap[k]? = if k = g then some (.cells (putCells id 0 (flatK (stC L P) 8 M'.toArray) cur) 89 (0, 0)) else W.heap[k]? := by
      intro k hk
      unfold sortWorldK grow putRowK putRow mapBlock Sort.ahead
      show ((W.heap.modify g _) ++ os)[k]? = _
      rw [Array.getElem?_append_left (by simpa using hk), Array.getElem?_modify]
      by_cases e : k = g
      · subst e
        rw [if_pos rfl, if_pos rfl, hg]; rfl
      · rw [if_neg (Ne.symm e), if_neg e]
    refine ⟨⟨hfl, .inr ⟨g, cap, putCells id 0 (flatK (stC L P) 8 M'.toArray) cur, rfl, hb, ?_, h1, h2, ?_, ?_⟩⟩, ⟨rfl, rfl, rfl, ?_, fun k hk hS => ?_⟩⟩
    · rw [hheap g hlt, if_pos rfl]
    · simpa [putCells] using h3
    · apply List.ext_getElem?
      intro t
      rw [List.getElem?_take]
      by_cases ht : t < M.length * 8
      · rw [if_pos ht, ← hF]
        have hc : t < cur.size := by rw [h3]; omega
        simp only [putCells, Array.getElem?_toList]
        rw [Array.getElem?_mapIdx, Array.getElem?_eq_getElem hc, Option.map_some, if_pos (by omega), Array.getElem?_eq_getElem (by omega), Nat.sub_zero, getElem!_pos _ t (by omega)]
        rfl
      · rw [if_neg ht, List.getElem?_eq_none (by omega)]
    · unfold sortWorldK grow putRowK putRow mapBlock Sort.ahead
      simp
    · rw [hheap k hk, if_neg (fun e => hS ⟨_, rfl, e.symm⟩)]
theorem ownHolds {base g cap : Nat} {M : List Pq} {L : List Pq} {P : Nm → Nat × Nat × Nat} {W : World} (h : Own 89 8 W base (some ⟨g, 0, none⟩) cap M.length (M.flatMap (stC L P))) : HoldsK (stC L P) 8 W g 0 M.toArray ∧ g < W.heap.size := by
  rcases h.2 with ⟨hv, _⟩ | ⟨g', cap', cur, hv, hb, hg, h1, h2, h3, h4⟩
  · cases hv
  · simp only [Value.slice.injEq, Option.some.injEq, Addr.mk.injEq] at hv
    obtain ⟨⟨rfl, _⟩, _, rfl⟩ := hv
    refine ⟨fun j hj => ?_, (Array.getElem?_eq_some_iff.1 hg).1⟩
    have hF := flat_eq (stC L P) 8 (stC_len L P) (by omega) M
    have hj' : j < M.length * 8 := by simpa using hj
    have e : cur[j]? = some (flatK (stC L P) 8 M.toArray)[j]! := by
      have h5 : (cur.toList.take (M.length * 8))[j]? = (flatK (stC L P) 8 M.toArray).toList[j]? := by rw [h4, hF]
      rw [List.getElem?_take, if_pos hj', Array.getElem?_toList, Array.getElem?_toList, Array.getElem?_eq_getElem hj] at h5
      rw [h5, getElem!_pos _ j hj]
    rw [Nat.zero_add]
    exact ⟨by simp [World.cell?, hg, e], by simp [World.frozen?, hg]⟩
theorem sort_some (L : List Pq) (P : Nm → Nat × Nat × Nat) (W : World) (base g rc : Nat) (M : List Pq) (h : Own 89 8 W base (some ⟨g, 0, none⟩) rc M.length (M.flatMap (stC L P))) (hl : M.length < 1000000000001) : Calls Try.prog 43 #[.slice (some ⟨g, 0, none⟩) M.length rc, .func (.func 44) #[] #[]] W (fun e W' => e = .returned (.tuple #[]) ∧ ∃ M' : List Pq, M'.Perm M ∧ M'.Pairwise (fun p q => p.pl ≤ q.pl) ∧ Own 89 8 W' base (some ⟨g, 0, none⟩) rc M.length (M'.flatMap (stC L P)) ∧ Kept (At (some ⟨g, 0, none⟩)) W W') := by
  have eg : ∀ args w, (callFunc 44 args).run Try.prog w = .ok (.enter 44 args) w := enters_of Try.func44 (by kernel_rfl) rfl
  have hh := ownHolds h
  have hcon := AnyQ.slices_SortFunc sortSt 8 isAgg89 sizeOf89 (stC L P) (stC_len L P) (fun x v hv => by simp [stC, plV] at hv; rcases hv with rfl | rfl | rfl | rfl | rfl | rfl | rfl | rfl <;> rfl) cfP swoP 44 #[] g 0 rc M.toArray W eg (fun m os dk hs x y => closure44 L P x y _) hh.1 hh.2 (by simp; omega)
  change Calls Try.prog 43 _ _ _ at hcon
  simp only [List.size_toArray] at hcon
  refine hcon.mono ?_
  rintro e w' ⟨rfl, d', n, os, hp, hs, rfl⟩
  have hsz : d'.size = M.length := by simpa using hp.1
  have hd : d' = d'.toList.toArray := by simp
  have hl' : d'.toList.length = M.length := by simpa using hsz
  have hsw := sortW (m := n) (os := os) h hl'
  rw [← hd] at hsw
  refine ⟨rfl, d'.toList, ?_, ?_, hsw⟩
  · have := hp.2.2
    rw [show d'.extract 0 M.length = d' by rw [← hsz]; simp, show M.toArray.extract 0 M.length = M.toArray by simp] at this
    simpa using this
  · rw [List.pairwise_iff_getElem]
    intro i j hi hj hij
    have := hs i j (Nat.zero_le _) hij (by omega)
    rw [ltP] at this
    have hi' : i < d'.size := by simpa using hi
    have hj' : j < d'.size := by simpa using hj
    rw [getElem!_pos d' i hi', getElem!_pos d' j hj'] at this
    simp at this
    simpa using this
end Go.Proofs.Ytphiokehcgbldaa
