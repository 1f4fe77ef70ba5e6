import Derived.Test.YtnhjpghkmbgeaabMo
import Derived.Test.YtnhjpghkmbgeaabNw
namespace Go.Proofs.Ytnhjpghkmbgeaab
open Go.RowKit
set_option linter.unusedVariables false

/-- An item, made right. -/
def rightIt (x : Item) : Item := ⟨rightK x.k, rightN x.k x.n, x.a, x.m, x.c, x.zs⟩
/-- What is put of these. -/
def rightsOf (xs : List Item) : List Item := (xs.filter (fun x => decide (x.m ≤ 2000))).map rightIt
theorem rightsOf_take {xs : List Item} {k : Nat} {x : Item} (h : xs[k]? = some x) : rightsOf (xs.take (k + 1)) = rightsOf (xs.take k) ++ (if x.m ≤ 2000 then [rightIt x] else []) := by
  rw [List.take_add_one, h]
  unfold rightsOf
  simp only [Option.toList_some, List.filter_append, List.map_append]
  congr 1
  by_cases hm : x.m ≤ 2000 <;> simp [hm]

set_option maxRecDepth 100000 in
set_option maxHeartbeats 2000000 in
theorem rights_any (la : Option Addr) (ln lc : Nat) (xs : List Item) (w : World) (hn : xs.length = ln) (hb : ln ≤ 140737488355328) (hx : Its w la xs) (hok : ∀ x ∈ xs, ItOk w x) :
    Calls Try.prog 24 #[.slice la ln lc] w fun e w' => ∃ a' n' c', e = .returned (.slice a' n' c') ∧ n' = (rightsOf (xs.take 60)).length ∧ OwnI w' w.heap.size a' c' (rightsOf (xs.take 60)) ∧ Kept No w w' := by
  have HX : Hid (Its w la xs) := hx
  have HO : Hid (∀ x ∈ xs, ItOk w x) := hok
  have HN : Hid (xs.length = ln) := hn
  clear hx hok hn
  go_enter Try.func24, Try.ntmps24
  go_wp2
  go_loopw [3, 4] (fun o i wr => ∃ k : Nat, ∃ na nn nc, k ≤ ln ∧ k ≤ 60 ∧ i = .int .i64 (k : Int) ∧ o = .slice na nn nc ∧ Hid (nn = (rightsOf (xs.take k)).length ∧ nn ≤ 60 ∧ OwnI wr w.heap.size na nc (rightsOf (xs.take k)) ∧ Kept No w wr)) (fun _ i _ => ln - (intOf i).toNat)
  case atStart => exact ⟨0, none, 0, 0, Nat.zero_le _, Nat.zero_le _, rfl, rfl, rfl, Nat.zero_le _, OwnI.nil _ _, Kept.refl _ _⟩
  case round =>
    obtain ⟨k, na, nn, nc, hk, hk4, rfl, rfl, HI⟩ := hrel
    by_cases hlt : k < ln ∧ k < 60
    · obtain ⟨hl1, hl2⟩ := hlt
      obtain ⟨x, hxk⟩ : ∃ x, xs[k]? = some x := ⟨xs[k]'(by rw [HN.out]; exact hl1), by rw [List.getElem?_eq_getElem]⟩
      have HIx0 : Hid (ItOk w x) := HO.out x (List.mem_of_getElem? hxk)
      have HT : Hid (rightsOf (xs.take (k + 1)) = rightsOf (xs.take k) ++ (if x.m ≤ 2000 then [rightIt x] else [])) := rightsOf_take hxk
      obtain ⟨b, off, rfl, hc0, hc1, hc2⟩ := (HX.out.no HI.out.2.2.2) k x hxk
      clear hxk
      have i1 : (k : Int) < (ln : Int) := by omega
      have i2 : (k : Int) < 60 := by omega
      obtain ⟨xk, xn, xa, xm, xc, zs⟩ := x
      simp only at hc0 hc1 hc2
      go_wp2_with fail
      refine (right_any xk xn xa xm xc wr HIx0.out.lo HIx0.out.hi).mono ?_
      rintro e w0 ⟨rfl, hK0⟩
      have HK0 : Hid (Kept No wr w0) := hK0
      clear hK0 hc0 hc1 hc2 HIx0
      simp only [rightIt] at HT
      generalize rightK xk = rk at HT
      generalize rightN xk xn = rn at HT
      by_cases hm : (xm : Int) ≤ 2000
      · have HT2 : Hid (rightsOf (xs.take (k + 1)) = rightsOf (xs.take k) ++ [⟨rk, rn, xa, xm, xc, zs⟩]) := by have := HT.out; rw [if_pos (by omega)] at this; exact this
        clear HT
        have HOw : Hid (OwnI ((w0.alloc (Obj.cells #[.int .i64 rk, .int .i64 rn, .slice xa xm xc] 42)).alloc (Obj.cells #[.int .i64 rk, .int .i64 rn, .slice xa xm xc] 42)) w.heap.size na nc (rightsOf (xs.take k))) := (HI.out.2.2.1.no HK0.out).no (((Kept.refl _ _).alloc _).alloc _)
        have HKw : Hid (Kept No w ((w0.alloc (Obj.cells #[.int .i64 rk, .int .i64 rn, .slice xa xm xc] 42)).alloc (Obj.cells #[.int .i64 rk, .int .i64 rn, .slice xa xm xc] 42))) := (((HI.out.2.2.2.then HK0.out).alloc _).alloc _)
        have HL : Hid ((rightsOf (xs.take k)).length = nn) := HI.out.1.symm
        have HJ : Hid (nn ≤ k) := by
          have h1 := HI.out.1
          have h2 : (rightsOf (xs.take k)).length ≤ (xs.take k).length := by unfold rightsOf; rw [List.length_map]; exact List.length_filter_le _ _
          have h3 := List.length_take_le k xs
          unfold Hid; omega
        go_wp2_with (at_builtin; go_must (refine wp_appI _ Try.underlying34 Try.info42 rfl _ _ rfl w.heap.size _ _ _ (rightsOf (xs.take k)) rfl HL.out HOw.out (w0.heap.size + 1) _ ⟨rk, rn, xa, xm, xc, zs⟩ rfl (by simp) (by simp) (by simp) (by have := HJ.out; omega) (by have := HKw.out.size; omega) ?_; intro a4 c4 w4 HO4 HK4 HM4))
        have HJ2 : Hid (nn + 1 = (rightsOf (xs.take (k + 1))).length ∧ nn + 1 ≤ 60 ∧ OwnI w4 w.heap.size a4 c4 (rightsOf (xs.take (k + 1))) ∧ Kept No w w4) := by
          rw [HT2.out]
          exact ⟨by rw [List.length_append, HL.out]; rfl, by have := HJ.out; omega, HO4.out, HKw.out.fresh HK4.out (fun i e => own_at HOw.out e)⟩
        clear HO4 HK4 HM4 HI HK0 HT2 HOw HKw HL
        go_roundw
        case rel => exact ⟨k + 1, a4, nn + 1, c4, by omega, by omega, by go_num, rfl, HJ2⟩
        case measure => simp [intOf]; omega
      · have HT2 : Hid (rightsOf (xs.take (k + 1)) = rightsOf (xs.take k)) := by have := HT.out; rw [if_neg (by omega), List.append_nil] at this; exact this
        clear HT
        have HJ : Hid (∀ W, Kept No w0 W → nn = (rightsOf (xs.take (k + 1))).length ∧ nn ≤ 60 ∧ OwnI W w.heap.size na nc (rightsOf (xs.take (k + 1))) ∧ Kept No w W) := by
          intro W hW
          rw [HT2.out]
          exact ⟨HI.out.1, HI.out.2.1, (HI.out.2.2.1.no HK0.out).no hW, (HI.out.2.2.2.then HK0.out).then hW⟩
        clear HI HK0 HT2
        go_wp2
        go_roundw
        case rel => exact ⟨k + 1, na, nn, nc, by omega, by omega, by go_num, rfl, HJ.out _ ((Kept.refl _ _).alloc _)⟩
        case measure => simp [intOf]; omega
    · have HE : Hid (xs.take k = xs.take 60) := by
        unfold Hid
        by_cases h6 : k = 60
        · rw [h6]
        · rw [List.take_of_length_le (by rw [HN.out]; omega), List.take_of_length_le (by rw [HN.out]; omega)]
      by_cases hl1 : k < ln
      · have i1 : (k : Int) < (ln : Int) := by omega
        have i2 : ¬ (k : Int) < 60 := by omega
        clear hlt
        go_wp2
        go_ret
        exact ⟨na, nn, nc, rfl, by rw [← HE.out]; exact HI.out.1, by rw [← HE.out]; exact HI.out.2.2.1, HI.out.2.2.2⟩
      · have i1 : ¬ (k : Int) < (ln : Int) := by omega
        clear hlt
        go_wp2
        go_ret
        exact ⟨na, nn, nc, rfl, by rw [← HE.out]; exact HI.out.1, by rw [← HE.out]; exact HI.out.2.2.1, HI.out.2.2.2⟩

end Go.Proofs.Ytnhjpghkmbgeaab
