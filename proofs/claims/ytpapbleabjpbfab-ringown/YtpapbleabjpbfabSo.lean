import Derived.Test.YtpapbleabjpbfabIn
namespace Go.Proofs.Ytpapbleabjpbfab
open Go.RowKit
set_option linter.unusedVariables false

theorem ltP_eq (x y : Int × Int) : ltP x y = decide (x.1 < y.1 ∨ (x.1 = y.1 ∧ x.2 < y.2)) := by
  unfold ltP cmpP
  simp only [orOf, Lib.compareInt]
  congr 1
  apply propext
  by_cases h1 : x.1 < y.1
  · simp [h1]
  · by_cases h2 : x.1 > y.1
    · simp [h1, h2]; omega
    · have e : x.1 = y.1 := by omega
      by_cases h3 : x.2 < y.2
      · simp [h3, e]
      · by_cases h4 : x.2 > y.2 <;> simp [h3, h4, e]

theorem swoP : Sort.SWO ltP where
  irrefl x := by rw [ltP_eq]; simp
  trans x y z h1 h2 := by rw [ltP_eq] at *; simp at *; omega
  ntrans x y z h1 h2 := by rw [ltP_eq] at *; simp at *; omega

theorem totP (x y : Int × Int) (h1 : ltP x y = false) (h2 : ltP y x = false) : x = y := by
  rw [ltP_eq] at h1 h2
  simp at h1 h2
  exact Prod.ext (by omega) (by omega)

/-- Points in the ring's order. -/
def sortP (ps : List (Int × Int)) : List (Int × Int) := ps.mergeSort fun x y => !ltP y x
theorem sortP_len (ps : List (Int × Int)) : (sortP ps).length = ps.length := by simp [sortP]

theorem ins_sorts (d : Array (Int × Int)) : (Sort.insertionSort ltP d 0 d.size).toList = sortP d.toList := by
  have h := Sort.insertionSort_holds (lt := ltP) swoP d 0 d.size (Nat.zero_le _) (Nat.le_refl _)
  exact Sort.sorted_unique_holds swoP totP d _ h.1 h.2

theorem len_any (n : Int) (w : World) (h0 : 0 ≤ n) (h1 : n ≤ 18446744073709551615) : Calls Try.prog 45 #[.int .u64 n] w fun e w' => e = .returned (.int .i64 (Lib.bitLen n.toNat)) ∧ w' = w :=
  Any.bits_Len Try.laysLen n w h0 h1

set_option maxRecDepth 100000 in
set_option maxHeartbeats 1000000 in
theorem pdqSmall_any (g cap : Nat) (d : Array (Int × Int)) (sp : List Value) (limit : Int) (w : World) (h1 : 1 ≤ d.size) (hm : d.size ≤ 12) (hp : Pts w g d sp) :
    Calls Try.prog 67 #[.slice (some ⟨g, 0, none⟩) d.size cap, .int .i64 0, .int .i64 d.size, .int .i64 limit, cmpV] w fun e w' => e = .returned (.tuple #[]) ∧ Pts w' g (Sort.insertionSort ltP d 0 d.size) sp ∧ Kept (Only g) w w' := by
  have HI : Hid _ := insertion_any g cap d sp w h1 hm hp
  generalize Sort.insertionSort ltP d 0 d.size = r at HI
  clear hp
  go_enter Try.func67, Try.ntmps67
  go_wp2
  refine wp_loop_once ?_
  go_wp2_with fail
  refine Calls.mono HI.out ?_
  rintro e w1 ⟨rfl, hp1, hk1⟩
  have HP1 : Hid _ := hp1
  have HK1 : Hid _ := hk1
  clear hp1 hk1 HI
  go_wp2
  first | go_end0 | refine bodyPost_ret (results_none rfl _ _ _) rfl ?_
  exact ⟨rfl, HP1.out, HK1.out⟩

set_option maxRecDepth 100000 in
set_option maxHeartbeats 1000000 in
theorem sortFuncSmall_any (g cap : Nat) (d : Array (Int × Int)) (sp : List Value) (w : World) (h1 : 1 ≤ d.size) (hm : d.size ≤ 12) (hp : Pts w g d sp) :
    Calls Try.prog 60 #[.slice (some ⟨g, 0, none⟩) d.size cap, cmpV] w fun e w' => e = .returned (.tuple #[]) ∧ Pts w' g (Sort.insertionSort ltP d 0 d.size) sp ∧ Kept (Only g) w w' := by
  have HI : Hid _ := fun limit => pdqSmall_any g cap d sp limit w h1 hm hp
  generalize Sort.insertionSort ltP d 0 d.size = r at HI
  clear hp
  have hw : IntKind.u64.wrap (d.size : Int) = d.size := by simp [IntKind.wrap, IntKind.bits, IntKind.signed]; omega
  go_enter Try.func60, Try.ntmps60
  go_wp2_with (go_at_call 45; refine (len_any _ _ (by omega) (by omega)).mono ?_; rintro e w1 ⟨rfl, h1⟩; rw [h1]; clear h1 w1)
  refine Calls.mono (HI.out _) ?_
  rintro e w1 ⟨rfl, hp1, hk1⟩
  have HP1 : Hid _ := hp1
  have HK1 : Hid _ := hk1
  clear hp1 hk1 HI
  go_wp2
  first | go_end0 | refine bodyPost_ret (results_none rfl _ _ _) rfl ?_
  exact ⟨rfl, HP1.out, HK1.out⟩

/-- A slice of points that the call itself has made. -/
def OwnP (w : World) (base g cap : Nat) (ps : List (Int × Int)) : Prop := Own 68 2 w base (some ⟨g, 0, none⟩) cap ps.length (flatL ps)

theorem OwnP.pts {w : World} {base g cap : Nat} {ps : List (Int × Int)} (h : OwnP w base g cap ps) : base ≤ g ∧ ps.length ≤ cap ∧ cap ≤ maxLen ∧ ∃ sp, Pts w g ps.toArray sp ∧ ps.length * 2 + sp.length = cap * 2 := by
  rcases h.2 with ⟨e, _⟩ | ⟨g', cap', cur, e, hb, hheap, hle, hmax, hsz, htake⟩
  · cases e
  · simp only [Value.slice.injEq, Option.some.injEq, Addr.mk.injEq, and_true, true_and] at e
    obtain ⟨rfl, rfl⟩ := e
    refine ⟨hb, hle, hmax, cur.toList.drop (ps.length * 2), ?_, ?_⟩
    · unfold Pts Box
      rw [← htake, List.take_append_drop, hheap]
    · have : ps.length * 2 ≤ cap * 2 := Nat.mul_le_mul_right _ hle
      simp; omega

theorem OwnP.of_pts {w : World} {base g cap : Nat} {ps : List (Int × Int)} {sp : List Value} (hb : base ≤ g) (hle : ps.length ≤ cap) (hmax : cap ≤ maxLen) (hp : Pts w g ps.toArray sp) (hl : ps.length * 2 + sp.length = cap * 2) : OwnP w base g cap ps :=
  ⟨by rw [flatL_len], .inr ⟨g, cap, _, rfl, hb, hp, hle, hmax, by simp [flatL_len]; omega, by simp [flatL_len]⟩⟩

/-- sortAll does what it should with these points. -/
def Sorts (ps : List (Int × Int)) : Prop := ∀ (g cap base : Nat) (w : World), OwnP w base g cap ps →
  Calls Try.prog 46 #[.slice (some ⟨g, 0, none⟩) ps.length cap] w fun e w' => e = .returned (.tuple #[]) ∧ OwnP w' base g cap (sortP ps) ∧ Kept (Only g) w w'

set_option maxRecDepth 100000 in
set_option maxHeartbeats 1000000 in
theorem sorts_small (ps : List (Int × Int)) (h1 : 1 ≤ ps.length) (hm : ps.length ≤ 12) : Sorts ps := by
  intro g cap base w ho
  obtain ⟨hb, hle, hmax, sp, hp, hl⟩ := ho.pts
  have HI : Hid _ := sortFuncSmall_any g cap ps.toArray sp w (by simpa using h1) (by simpa using hm) hp
  clear ho hp
  have hs : ps.toArray.size = ps.length := by simp
  rw [hs] at HI
  go_enter Try.func46, Try.ntmps46
  go_wp2_with fail
  refine Calls.mono HI.out ?_
  rintro e w1 ⟨rfl, hp1, hk1⟩
  have e1 : (sortP ps).toArray = Sort.insertionSort ltP ps.toArray 0 ps.length := by
    have := ins_sorts ps.toArray
    rw [hs] at this
    rw [← Array.toList_inj]
    simpa using this.symm
  have HO1 : Hid (OwnP w1 base g cap (sortP ps)) := by
    rw [← e1] at hp1
    exact OwnP.of_pts hb (by rw [sortP_len]; exact hle) hmax hp1 (by rw [sortP_len]; exact hl)
  have HK1 : Hid _ := hk1
  clear hp1 hk1 HI e1
  go_wp2
  first | go_end0 | refine bodyPost_ret (results_none rfl _ _ _) rfl ?_
  exact ⟨rfl, HO1.out, HK1.out⟩

end Go.Proofs.Ytpapbleabjpbfab
