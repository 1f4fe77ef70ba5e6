import Derived.Test.YtpapbleabjpbfabFn
namespace Go.Proofs.Ytpapbleabjpbfab
open Go.RowKit
set_option linter.unusedVariables false
set_option linter.unusedSimpArgs false


theorem pdq_sortsP (d : Array (Int × Int)) (limit : Nat) : (Sort.pdq ltP d 0 d.size limit true true).toList = sortP d.toList := by
  have h := Sort.pdq_sorts ltP swoP d 0 d.size limit true true (Nat.zero_le _) (Nat.le_refl _) (Or.inl rfl)
  exact Sort.sorted_unique_holds swoP totP d _ h.1 h.2

set_option maxRecDepth 100000 in
set_option maxHeartbeats 1000000 in
theorem sortFunc_any (g cap n : Nat) (d : Array (Int × Int)) (sp : List Value) (w : World) (hn : d.size = n) (hm : n ≤ 4096) (hp : Pts w g d sp) :
    Calls Try.prog 60 #[.slice (some ⟨g, 0, none⟩) n cap, cmpV] w fun e w' => e = .returned (.tuple #[]) ∧ Pts w' g (sortP d.toList).toArray sp ∧ Kept (Only g) w w' := by
  have HI : Hid (∀ limit : Nat, limit ≤ 100 → Calls Try.prog 67 #[.slice (some ⟨g, 0, none⟩) n cap, .int .i64 0, .int .i64 n, .int .i64 limit, cmpV] w fun e w' => e = .returned (.tuple #[]) ∧ Pts w' g (sortP d.toList).toArray sp ∧ Kept (Only g) w w') := by
    intro limit hl
    refine Calls.mono (pdq_any g cap n sp w hm (n + 1) 0 n limit d w (by omega) hn ⟨hp, Kept.refl _ _⟩ (Nat.zero_le _) (Nat.le_refl _) hl (Or.inl rfl)) ?_
    rintro e w' ⟨he, hs⟩
    have e1 : (sortP d.toList).toArray = Sort.pdq ltP d 0 n limit true true := by
      rw [← Array.toList_inj, ← hn, pdq_sortsP d limit]
    rw [e1]
    exact ⟨he, hs.1, hs.2⟩
  have HL : Hid (Calls Try.prog 45 #[.int .u64 (n : Int)] w fun e w' => e = .returned (.int .i64 (Sort.bitsLen n : Nat)) ∧ w' = w) := by
    have h := len_any (n : Int) w (by omega) (by omega)
    rwa [Int.toNat_natCast, bitLen_eq _ (by omega)] at h
  have hk : Sort.bitsLen n ≤ 62 := (Sort.bitsLen_le_iff n 62).2 (by omega)
  generalize (sortP d.toList).toArray = r at HI
  generalize Sort.bitsLen n = lim at HL hk
  clear hp hn
  have hw : IntKind.u64.wrap (n : Int) = n := by simp [IntKind.wrap, IntKind.bits, IntKind.signed]; omega
  go_enter Try.func60, Try.ntmps60
  go_wp2_with fail
  refine Calls.mono HL.out ?_
  rintro e w1 ⟨rfl, rfl⟩
  go_wp2_with fail
  refine Calls.mono (HI.out _ (by omega)) ?_
  rintro e w1 ⟨rfl, hp1, hk1⟩
  have HP1 : Hid _ := hp1
  have HK1 : Hid _ := hk1
  clear hp1 hk1 HI HL
  go_wp2
  first | go_end0 | refine bodyPost_ret (results_none rfl _ _ _) rfl ?_
  exact ⟨rfl, HP1.out, HK1.out⟩

set_option maxRecDepth 100000 in
set_option maxHeartbeats 1000000 in
/-- sortAll sorts the points of every ring. -/
theorem sorts_all (ps : List (Int × Int)) (hm : ps.length ≤ 4096) : Sorts ps := by
  intro g cap base w ho
  obtain ⟨hb, hle, hmax, sp, hp, hl⟩ := ho.pts
  have HI : Hid _ := sortFunc_any g cap ps.length ps.toArray sp w (by simp) hm hp
  clear ho hp
  go_enter Try.func46, Try.ntmps46
  go_wp2_with fail
  refine Calls.mono HI.out ?_
  rintro e w1 ⟨rfl, hp1, hk1⟩
  have HO1 : Hid (OwnP w1 base g cap (sortP ps)) :=
    OwnP.of_pts hb (by rw [sortP_len]; exact hle) hmax hp1 (by rw [sortP_len]; exact hl)
  have HK1 : Hid _ := hk1
  clear hp1 hk1 HI
  go_wp2
  first | go_end0 | refine bodyPost_ret (results_none rfl _ _ _) rfl ?_
  exact ⟨rfl, HO1.out, HK1.out⟩

end Go.Proofs.Ytpapbleabjpbfab
