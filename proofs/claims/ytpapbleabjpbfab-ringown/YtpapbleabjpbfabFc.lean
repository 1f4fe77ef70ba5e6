import Derived.Test.YtpapbleabjpbfabFb
namespace Go.Proofs.Ytpapbleabjpbfab
open Go.RowKit
set_option linter.unusedVariables false


theorem median_rng (d : Array (Int × Int)) (a b c s n : Nat) (ha : a < n) (hb : b < n) (hc : c < n) : (Sort.median ltP d a b c s).1 < n ∧ (Sort.median ltP d a b c s).2 ≤ s + 3 := by
  have r1 := order2_rng d a b s n ha hb
  have r2 := order2_rng d (Sort.order2 ltP d a b s).2.1 c (Sort.order2 ltP d a b s).2.2 n r1.2.1 hc
  have r3 := order2_rng d (Sort.order2 ltP d a b s).1 (Sort.order2 ltP d (Sort.order2 ltP d a b s).2.1 c (Sort.order2 ltP d a b s).2.2).1 (Sort.order2 ltP d (Sort.order2 ltP d a b s).2.1 c (Sort.order2 ltP d a b s).2.2).2.2 n r1.1 r2.1
  exact ⟨r3.2.1, by have h1 := r1.2.2; have h2 := r2.2.2; have h3 := r3.2.2; show _ ≤ _; unfold Sort.median; simp only; omega⟩

open Go.Sort in
set_option maxRecDepth 100000 in
set_option maxHeartbeats 2000000 in
theorem medianAdj_any (g cap a n sb s : Nat) (d : Array (Int × Int)) (sp : List Value) (w : World) (hn : d.size = n) (ha1 : 1 ≤ a) (ha : a + 1 < n) (hm : n ≤ 4096) (hs : s ≤ 900) (hne : sb ≠ g) (hp : Pts w g d sp) (hsb : Box w sb 3 #[.int .i64 (s : Int)]) :
    Calls Try.prog 78 #[.slice (some ⟨g, 0, none⟩) n cap, .int .i64 a, .pointer (some ⟨sb, 0, none⟩), cmpV] w fun e w' => e = .returned (.int .i64 ((medianAdjacent ltP d a s).1 : Nat)) ∧ Cnt w w' g sb (medianAdjacent ltP d a s).2 d sp := by
  obtain ⟨c, rfl⟩ : ∃ c, a = c + 1 := ⟨a - 1, by omega⟩
  have H1 : Hid _ := median_any g cap c (c + 1) (c + 1 + 1) n sb s d sp w hn (by omega) (by omega) ha hm hs hne hp hsb
  have HM : Hid (medianAdjacent ltP d (c + 1) s = median ltP d c (c + 1) (c + 1 + 1) s) := rfl
  have hw0 : IntKind.i64.wrap (c : Int) = (c : Int) := by rw [IntKind.wrap_i64]; omega
  clear hp hsb hn
  go_enter Try.func78, Try.ntmps78
  go_wp2_with fail
  refine Calls.mono H1.out ?_
  rintro e w1 ⟨rfl, hc1⟩
  have HC1 : Hid _ := hc1
  clear hc1 H1
  go_wp2
  go_ret
  rw [HM.out]
  exact ⟨rfl, HC1.out⟩

def hintN : Sort.Hint → Nat
  | .unknown => 0
  | .increasing => 1
  | .decreasing => 2

end Go.Proofs.Ytpapbleabjpbfab
