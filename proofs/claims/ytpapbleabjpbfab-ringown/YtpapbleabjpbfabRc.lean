import Derived.Test.YtpapbleabjpbfabRs
namespace Go.Proofs.Ytpapbleabjpbfab
open Go.RowKit
set_option linter.unusedVariables false

open Classical in
theorem cfg_and (zs : List Int) (f p bu bl ro : Int) : (inB f 0 3 && (inB p 1 64 && (inB bu 1 256 && (inB bl 1 4096 && (inB ro 1 256 && srvB zs (2 * f + 1)))))) = cfgB zs f p bu bl ro := by
  have e : (inB f 0 3 && srvB zs (2 * f + 1)) = decide (HeadOk zs f ∧ Good zs zs.length) := by
    by_cases h : HeadOk zs f ∧ Good zs zs.length
    · rw [decide_eq_true h]
      obtain ⟨⟨h1, h2, h3, h4⟩, hg⟩ := h
      have : srvB zs (2 * f + 1) = true := by unfold srvB; exact decide_eq_true ⟨⟨h3, h4⟩, hg⟩
      rw [this, (inB_iff f 0 3).2 ⟨h1, h2⟩]; rfl
    · rw [decide_eq_false h]
      cases hf : inB f 0 3 with
      | false => rfl
      | true =>
        rw [inB_iff] at hf
        have : srvB zs (2 * f + 1) = false := by unfold srvB; exact decide_eq_false (fun ⟨⟨h3, h4⟩, hg⟩ => h ⟨⟨hf.1, hf.2, h3, h4⟩, hg⟩)
        rw [this]; rfl
  unfold cfgB
  rw [← e]
  cases inB f 0 3 <;> cases inB p 1 64 <;> cases inB bu 1 256 <;> cases inB bl 1 4096 <;> cases inB ro 1 256 <;> cases srvB zs (2 * f + 1) <;> rfl

set_option maxRecDepth 100000 in
set_option maxHeartbeats 2000000 in
theorem rightConfig_any (a : Option Addr) (cap : Nat) (zs : List Int) (f p bu bl ro : Int) (w : World) (hb : Nums .i64 w a zs) (hI : AllI zs) (hm : zs.length ≤ 17592186043904) :
    Calls Try.prog 36 #[cfgV (.slice a zs.length cap) f p bu bl ro] w fun e w' => e = .returned (.bool (cfgB zs f p bu bl ro)) ∧ Kept No w w' := by
  rw [← cfg_and]
  have HR := fun w2 (h : Kept No w w2) => rightServers_any a cap zs (2 * f + 1) w2 (hb.no h) hI hm
  have HR' : Hid _ := HR
  clear HR hb hI hm
  generalize srvB zs (2 * f + 1) = sv at HR'
  by_cases hf : inB f 0 3 = true
  · have hf2 := (inB_iff f 0 3).1 hf
    rw [hf]
    go_enter Try.func36, Try.ntmps36
    go_wp2_with (first
      | (go_at_call 41; refine (within_any _ _ _ _).mono ?_; rintro e w2 ⟨rfl, h2⟩; rw [h2]; clear h2 w2)
      | (go_at_call 43; refine (HR'.out _ ((Kept.refl No w).alloc _)).mono ?_; rintro e w2 ⟨rfl, hk2⟩))
    all_goals go_ret
    all_goals first
      | exact ⟨ret_bool (by simp_all), ((Kept.refl No w).alloc _).then hk2⟩
      | exact ⟨ret_bool (by simp_all), (Kept.refl No w).alloc _⟩
  · have hf2 : inB f 0 3 = false := by simpa using hf
    rw [hf2]
    go_enter Try.func36, Try.ntmps36
    go_wp2_with (go_at_call 41; refine (within_any _ _ _ _).mono ?_; rintro e w2 ⟨rfl, h2⟩; rw [h2, hf2]; clear h2 w2)
    go_ret
    exact ⟨rfl, (Kept.refl No w).alloc _⟩

end Go.Proofs.Ytpapbleabjpbfab
