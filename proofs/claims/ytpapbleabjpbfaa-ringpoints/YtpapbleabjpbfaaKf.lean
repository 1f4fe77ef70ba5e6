import Derived.Test.YtpapbleabjpbfaaL
namespace Go.Proofs.Ytpapbleabjpbfaa
open Go.RowKit
set_option linter.unusedVariables false

theorem lent_mark (zs : List Int) : ((zs ++ [-77]).map (Value.int .i64)).toArray[zs.length]? = some (.int .i64 (-77)) := by
  simp
theorem lent_take (zs : List Int) : (zs ++ [-77]).take zs.length = zs := by simp

set_option maxRecDepth 100000 in
set_option maxHeartbeats 1000000 in
theorem keptf_any (g : Nat) (a : Option Addr) (cap : Nat) (zs : List Int) (f p bu bl ro f' p' bu' bl' ro' : Int) (w : World) (hm : zs.length ≤ 17592186043904) (hg : Box w g 3 ((zs ++ [-77]).map (Value.int .i64)).toArray) (hb : Nums .i64 w a zs) :
    Calls Try.prog 28 #[cfgV (.slice (some ⟨g, 0, none⟩) zs.length (zs.length + 1)) f' p' bu' bl' ro', cfgV (.slice a zs.length cap) f p bu bl ro] w fun e w' => e = .returned (.bool true) ∧ Kept No w w' := by
  have HB : Hid (Nums .i64 w a zs) := hb
  have HG : Hid (Box w g 3 ((zs ++ [-77]).map (Value.int .i64)).toArray) := hg
  have hlt := hg.lt
  clear hb hg
  go_enter Try.func28, Try.ntmps28
  obtain ⟨w0, hw0⟩ : ∃ w0, w0 = (w.alloc (.cells #[.slice (some ⟨g, 0, none⟩) zs.length (zs.length + 1), .int .i64 f', .int .i64 p', .int .i64 bu', .int .i64 bl', .int .i64 ro'] 29)).alloc (.cells #[.slice a zs.length cap, .int .i64 f, .int .i64 p, .int .i64 bu, .int .i64 bl, .int .i64 ro] 29) := ⟨_, rfl⟩
  have HG0 : Hid (Box w0 g 3 ((zs ++ [-77]).map (Value.int .i64)).toArray) := by rw [hw0]; exact (HG.out.alloc _).alloc _
  have HK0 : Hid (Kept No w w0) := by rw [hw0]; exact ((Kept.refl No w).alloc _).alloc _
  have g1 := HG0.out.cell zs.length
  rw [lent_mark] at g1
  rw [hw0] at g1
  go_wp2
  go_quiet (fail)
  go_wp2_with fail
  rw [← hw0]
  have HX : Hid (Nums .i64 (w0.drewN nq) (some ⟨g, 0, none⟩) zs) := (by have := HG0.out.nums zs.length; rw [lent_take] at this; exact this)
  refine (sameInts_any _ _ _ _ zs zs _ (by omega) (by omega) HX.out ((HB.out.no HK0.out).no (Kept.no_drewN _ _))).mono ?_
  rintro e w1 ⟨rfl, n, rfl⟩
  rw [eqB_refl]
  go_wp2
  go_ret
  have := HK0.out
  rw [hw0] at this
  exact ⟨rfl, this.drewN _⟩

end Go.Proofs.Ytpapbleabjpbfaa
