import Derived.Test.YtgdnofacgfjaeabGreatY
namespace Go.Proofs.YtgdnofacgfjaeabGreat
open Go.RowKit
set_option linter.unusedVariables false

theorem Ws.wr {w : World} {base g : Nat} {a : Option Addr} {c : Nat} {st : Option (List Int)} (h : Ws w base g a c st) : ∃ zs bad, Wr w base g a c zs bad := by
  cases st with
  | some zs => exact ⟨zs, false, h⟩
  | none => exact ⟨[], true, h.1⟩

def putNum (st : Option (List Int)) (n : Int) : Option (List Int) := if n < 0 then none else st.map (· ++ vint n.toNat)

theorem num_neg_end {w : World} {base g : Nat} {a : Option Addr} {v0 v1 : Value} {st : Option (List Int)} {n : Int} (hn : n < 0) (HG : w.heap[g]? = some (.cells #[v0, v1] 128 (0, 0))) (HB : base ≤ g) :
    Puts w base g a (putNum st n) (Ending.returned (Value.tuple #[])) ((w.setCell ⟨g, 0, none⟩ (Value.slice none 0 0)).setCell ⟨g, 1, none⟩ (Value.bool true)) := by
  have h1 := heap_setCell_same w g 0 _ 128 (Value.slice none 0 0) HG
  have h2 := heap_setCell_same _ g 1 _ 128 (Value.bool true) h1
  have e : putNum st n = none := by unfold putNum; rw [if_pos hn]
  rw [e]
  refine ⟨rfl, none, 0, ⟨⟨by rw [h2]; rfl, OwnS.nil _ _, HB⟩, rfl⟩, ?_, fun k h => absurd h At.none⟩
  exact ((Kept.refl _ _).setCell (p := ⟨g, 0, none⟩) (fun _ => .inl rfl) _).setCell (p := ⟨g, 1, none⟩) (fun _ => .inl rfl) _

set_option maxRecDepth 1000000 in
set_option maxHeartbeats 400000 in
theorem num_all (base g : Nat) (a : Option Addr) (c : Nat) (st : Option (List Int)) (n : Int) (w : World) (h : Ws w base g a c st) (h1 : n ≤ 9223372036854775807) (hlen : stLen st + 10 ≤ 140737488355328) (hbase : base ≤ w.heap.size) :
    Calls Tryz.prog 98 #[.pointer (some ⟨g, 0, none⟩), .int .i64 n] w (Puts w base g a (putNum st n)) := by
  by_cases hn : n < 0
  · obtain ⟨zs, bad, hw⟩ := h.wr
    have HG : Hid (w.heap[g]? = some (.cells #[.slice a zs.length c, .bool bad] 128 (0, 0))) := hw.cell
    have HB : Hid (base ≤ g) := hw.bg
    have hf0 := frozen_of_row w g 0 _ 128 HG.out
    have hf1 := frozen_of_row w g 1 _ 128 HG.out
    have c0 : w.cell? ⟨g, 0, none⟩ = some (.slice a zs.length c) := by rw [cell_of_row w g 0 _ 128 (0, 0) HG.out]; rfl
    have c1 : w.cell? ⟨g, 1, none⟩ = some (.bool bad) := by rw [cell_of_row w g 1 _ 128 (0, 0) HG.out]; rfl
    clear h hw
    go_enter Tryz.func98, Tryz.ntmps98
    go_wp2
    go_end0
    exact num_neg_end hn HG.out HB.out
  · obtain ⟨m, rfl⟩ := Int.eq_ofNat_of_zero_le (by omega : 0 ≤ n)
    have HW : Hid (Ws w base g a c st) := h
    have HP : Hid (putNum st (m : Int) = st.map (· ++ vint m)) := by unfold Hid putNum; rw [if_neg hn]; simp
    clear h
    go_enter Tryz.func98, Tryz.ntmps98
    go_wp2_with fail
    refine (varint_all base g a c st m w HW.out (by unfold W64; omega) hlen hbase).mono ?_
    rintro e w1 ⟨rfl, hr⟩
    have HR : Hid _ := hr
    clear hr
    go_wp2
    go_end0
    rw [HP.out]
    exact ⟨rfl, HR.out⟩


theorem stLen_map (st : Option (List Int)) (ys : List Int) : stLen (st.map (· ++ ys)) ≤ stLen st + ys.length := by
  cases st <;> simp [stLen]

def putBytes (st : Option (List Int)) (ys : List Int) : Option (List Int) := st.map (· ++ (vint ys.length ++ ys))

set_option maxRecDepth 1000000 in
set_option maxHeartbeats 400000 in
theorem bytes_all (base g : Nat) (a : Option Addr) (c : Nat) (st : Option (List Int)) (xa : Option Addr) (xn xc : Nat) (ys : List Int) (w : World) (h : Ws w base g a c st) (hxn : ys.length = xn) (hy : Bytes w xa ys) (hxc : xa = none → xc = 0)
    (hd : ∀ k, At xa k → ¬ WrAt g a k) (hx : xn ≤ 140737488355328) (hlen : stLen st + 10 + xn ≤ 140737488355328) (hbase : base ≤ w.heap.size) :
    Calls Tryz.prog 77 #[.pointer (some ⟨g, 0, none⟩), .slice xa xn xc] w (Puts w base g a (putBytes st ys)) := by
  have HW : Hid (Ws w base g a c st) := h
  have HY : Hid (Bytes w xa ys) := hy
  have HC : Hid (xa = none → xc = 0) := hxc
  have HL : Hid (ys.length = xn) := hxn
  have HD : Hid (∀ k, At xa k → ¬ WrAt g a k) := hd
  clear h hy hxc hxn hd
  go_enter Tryz.func77, Tryz.ntmps77
  go_wp2_with fail
  refine (num_all base g a c st (xn : Int) w HW.out (by omega) (by omega) hbase).mono ?_
  rintro e w1 ⟨rfl, a1, c1, hw1, hk1, hm1⟩
  have HW1 : Hid (Ws w1 base g a1 c1 (st.map (· ++ vint xn))) := by
    have e : putNum st (xn : Int) = st.map (· ++ vint xn) := by unfold putNum; rw [if_neg (by omega)]; simp
    rw [e] at hw1; exact hw1
  have HK1 : Hid (Kept (WrAt g a) w w1) := hk1
  have HM1 : Hid (Moved w a a1) := hm1
  have HY1 : Hid (Bytes w1 xa ys) := HY.out.kept hk1 (fun b off e => HD.out b ⟨_, e, rfl⟩)
  have HS : Hid (stLen (st.map (· ++ vint xn)) ≤ stLen st + 10) := Nat.le_trans (stLen_map st (vint xn)) (by have := vint_len10 xn (by omega); omega)
  clear hw1 hk1 hm1 HY HW
  go_wp2_with fail
  refine (join_all base g a1 c1 (st.map (· ++ vint xn)) xa xn xc ys w1 HW1.out HL.out HY1.out HC.out (by have := HS.out; omega) (by have := HK1.out.size; omega)).mono ?_
  rintro e w2 ⟨rfl, a2, c2, hw2, hk2, hm2⟩
  have HF : Hid (∃ a' c', Ws w2 base g a' c' (putBytes st ys) ∧ Kept (WrAt g a) w w2 ∧ Moved w a a') :=
    ⟨a2, c2, by
      have e : putBytes st ys = (st.map (· ++ vint xn)).map (· ++ ys) := by unfold putBytes; rw [HL.out]; cases st <;> simp
      rw [e]; exact hw2, HK1.out.moved hk2 HM1.out, HM1.out.trans hm2 HK1.out.size⟩
  clear hw2 hk2 hm2
  go_wp2
  go_end0
  exact ⟨rfl, HF.out⟩

end Go.Proofs.YtgdnofacgfjaeabGreat
