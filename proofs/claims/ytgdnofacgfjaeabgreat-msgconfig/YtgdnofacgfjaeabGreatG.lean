import Derived.Test.YtgdnofacgfjaeabGreatF
import Derived.Test.YtgdnofacgfjaeabGreatB
import Derived.WalkSpells
namespace Go.Proofs.YtgdnofacgfjaeabGreat
open Go.RowKit
set_option linter.unusedVariables false

theorem sumN_any (a : Option Addr) (m cap : Nat) (zs : List Int) (w : World) (hz : zs.length = m) (hm : m ≤ 140737488355328) (hb : Bytes w a zs) (h8 : U8 zs) :
    Calls Tryz.prog 53 #[.slice a m cap] w fun e w' => e = .returned (.int .i64 (sumOf zs)) ∧ w' = w := by
  subst hz; exact sum_any a cap zs w hm hb h8
theorem rsumN_any (a : Option Addr) (m cap : Nat) (zs : List Int) (w : World) (hz : zs.length = m) (hm : m ≤ 140737488355328) (hb : Bytes w a zs) (h8 : U8 zs) :
    Calls Tryz.prog 196 #[.slice a m cap] w fun e w' => e = .returned (.int .i64 (sumOf zs)) ∧ w' = w := by
  subst hz; exact rsum_any a cap zs w hm hb h8
theorem sameN_any (a b : Option Addr) (ma mb ca cb : Nat) (xs ys : List Int) (w : World) (hxn : xs.length = ma) (hyn : ys.length = mb) (hm : ma ≤ 281474976710656) (hn : mb ≤ 281474976710656) (hx : Bytes w a xs) (hy : Bytes w b ys) :
    Calls Tryz.prog 10 #[.slice a ma ca, .slice b mb cb] w fun e w' => e = .returned (.bool (eqB xs ys)) ∧ ∃ n, w' = w.drewN n := by
  subst hxn hyn; exact same_any a b ca cb xs ys w hm hn hx hy
set_option maxRecDepth 1000000 in
set_option maxHeartbeats 400000 in
theorem putFour_any (base : Nat) (sa : Option Addr) (sn sc : Nat) (zs : List Int) (n : Int) (w : World) (hsn : zs.length = sn) (hown : OwnS w base sa sc zs) (hbase : base ≤ w.heap.size)
    (h0 : 0 ≤ n) (h1 : n ≤ 4294967295) (hlen : sn ≤ 140737488350000) :
    Calls Tryz.prog 52 #[.slice sa sn sc, .int .i64 n] w fun e w' => ∃ a' c', e = .returned (.slice a' (sn + 4) c') ∧ OwnS w' base a' c' (zs ++ fourOf n) ∧ Kept (At sa) w w' := by
  have HO : Hid (OwnS w base sa sc zs) := hown
  have HL : Hid (zs.length = sn) := hsn
  clear hown hsn
  go_enter Tryz.func52, Tryz.ntmps52
  go_wp2_with (at_builtin; go_must (refine wp_app _ Tryz.underlying30 Tryz.info5 rfl _ _ rfl base sa sn sc zs rfl HL.out (HO.out.no ((Kept.refl _ _).alloc _)) _ _ _ (fourOf n) rfl (fourOf_len n) (four_own w n h0 h1).bytes (fun e => by cases e) (by have := HL.out; rw [fourOf_len]; omega) (by simp; omega) ?_; intro a' c' w' HO' HK' HN'))
  go_ret
  exact ⟨a', c', rfl, HO'.out, ((Kept.refl No _).alloc _).of_no.then HK'.out⟩

theorem own_empty (w : World) : OwnS (w.alloc (Obj.cells #[] 5)) w.heap.size (some ⟨w.heap.size, 0, none⟩) 0 [] :=
  World.ownsRow_lit w #[] 0 (Nat.le_refl _) (by unfold maxLen; omega) rfl

set_option maxRecDepth 1000000 in
set_option maxHeartbeats 400000 in
theorem clone_any (xa : Option Addr) (xn xc : Nat) (ys : List Int) (w : World) (hxn : ys.length = xn) (hy : Bytes w xa ys) (hxc : xa = none → xn = 0 ∧ xc = 0) (hlen : xn ≤ 140737488355328) :
    Calls Tryz.prog 126 #[.slice xa xn xc] w fun e w' => ∃ a' c', e = .returned (.slice a' xn c') ∧ OwnS w' w.heap.size a' c' ys ∧ Kept No w w' ∧ (xa = none → a' = none) := by
  have heq := fun (a : Option Addr) (n c : Nat) (w : World) => Lib.run_eql_slice_nil (P := Tryz.prog) w 30 5 a n c 0 0 Tryz.underlying30
  have HY : Hid (Bytes w xa ys) := hy
  have HL : Hid (ys.length = xn) := hxn
  clear hy hxn
  cases xa with
  | none =>
    obtain ⟨rfl, rfl⟩ := hxc rfl
    obtain rfl : ys = [] := List.eq_nil_of_length_eq_zero HL.out
    go_enter Tryz.func126, Tryz.ntmps126
    go_wp2
    go_ret
    exact ⟨none, 0, rfl, OwnS.nil _ _, Kept.refl _ _, by simp⟩
  | some ad =>
    clear hxc
    go_enter Tryz.func126, Tryz.ntmps126
    go_wp2_with (at_builtin; go_must (refine wp_app _ Tryz.underlying30 Tryz.info5 rfl _ _ rfl w.heap.size _ 0 0 [] rfl rfl (own_empty w) _ _ _ ys rfl HL.out (HY.out.no ((Kept.refl _ _).alloc _)) (fun e => by cases e) (by have := HL.out; simp; omega) (by simp) ?_; intro a' c' w' HO' HK' HN'))
    go_ret
    refine ⟨a', c', rfl, HO'.out, (((Kept.refl No _).alloc _).of_no.then HK'.out).mono (fun i hi e => ?_), by simp⟩
    obtain ⟨ad', e1, e2⟩ := e
    cases e1
    simp at e2
    omega

end Go.Proofs.YtgdnofacgfjaeabGreat
