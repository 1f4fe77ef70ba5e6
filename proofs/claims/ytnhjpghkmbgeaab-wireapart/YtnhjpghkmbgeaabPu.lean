import Derived.Test.YtnhjpghkmbgeaabJt
namespace Go.Proofs.Ytnhjpghkmbgeaab
open Go.RowKit
set_option linter.unusedVariables false

/-- Bytes stay where only the blocks of S have turned, and, if there are any, theirs is none of them. -/
theorem Bytes.kept2 {S : Nat → Prop} {w w' : World} {a : Option Addr} {zs : List Int} (h : Bytes w a zs) (hk : Kept S w w') (hS : 0 < zs.length → ∀ k, At a k → ¬ S k) : Bytes w' a zs := by
  intro i hi
  obtain ⟨b, off, rfl, hc⟩ := h i hi
  exact ⟨b, off, rfl, hk.cell hc (hS (by omega) b ⟨_, rfl, rfl⟩)⟩

theorem World.heap_size_alloc1 (w : World) (o : Obj) : (w.alloc o).heap.size = w.heap.size + 1 := by simp

theorem put_end {w w1 w2 w3 : World} {base g : Nat} {a a2 : Option Addr} {c c2 : Nat} {st ST : Option (List Int)} (hw : Ws w base g a c st) (h1 : Kept No w w1) (hs : w.heap.size + 1 < w1.heap.size)
    (hw2 : Ws w2 base g a2 c2 ST) (hk2 : Kept (WrAt g a) w1 w2) (hm2 : Moved w1 a a2) (hk3 : Kept (Only (w.heap.size + 1)) w2 w3) : ∃ a' c', Ws w3 base g a' c' ST ∧ Kept (WrAt g a) w w3 ∧ Moved w a a' := by
  refine ⟨a2, c2, hw2.kept hk3 (fun k hk e => ?_), ?_, (Moved.refl w a).trans hm2 h1.size⟩
  · have e' : k = w.heap.size + 1 := e
    rcases hk with rfl | hk
    · have := hw.lt (.inl rfl : WrAt k a k); omega
    · rcases hm2 k hk with h | h
      · have := hw.lt (.inr h : WrAt g a k); omega
      · omega
  · refine (h1.of_no.then hk2).trans hk3 (fun _ e => e) (fun i hi e => ?_)
    have e' : i = w.heap.size + 1 := e
    omega

set_option maxHeartbeats 1000000 in
theorem put_1 (base g : Nat) (a : Option Addr) (c : Nat) (st : Option (List Int)) (k n : Int) (xa : Option Addr) (xm xc : Nat) (zs : List Int) (w : World) (hw : Ws w base g a c st) (hs : Sl w xa xm xc zs) (h0 : -9223372036854775808 ≤ n) (h1 : n ≤ 9223372036854775807)
    (hd : 0 < zs.length → ∀ k, At xa k → ¬ WrAt g a k) (hkk : k = 1) (hlen : stLen st + 10 + xm ≤ 140737488355328) (hbase : base ≤ w.heap.size) :
    Calls Try.prog 15 #[.pointer (some ⟨g, 0, none⟩), .agg #[.int .i64 k, .int .i64 n, .slice xa xm xc]] w fun e w' => e = .returned (.bool true) ∧ ∃ a' c', Ws w' base g a' c' (putNum st n) ∧ Kept (WrAt g a) w w' ∧ Moved w a a' := by
  have HW : Hid (Ws w base g a c st) := hw
  have HS : Hid (Sl w xa xm xc zs) := hs
  have HD : Hid (0 < zs.length → ∀ k, At xa k → ¬ WrAt g a k) := hd
  have hbd := hs.bd
  clear hw hs hd
  obtain ⟨ST, hST⟩ : ∃ ST, ST = putNum st n := ⟨_, rfl⟩
  rw [← hST]
  have HP : Hid (putNum st n = ST) := hST.symm
  have HA : Hid (Kept No w (w.alloc (.cells #[.int .i64 k, .int .i64 n, .slice xa xm xc] 42))) := (Kept.refl _ _).alloc _
  have HC0 : Hid ((w.alloc (.cells #[.int .i64 k, .int .i64 n, .slice xa xm xc] 42)).cell? ⟨w.heap.size, 0, none⟩ = some (.int .i64 k)) := by simp [Hid]
  have HC1 : Hid ((w.alloc (.cells #[.int .i64 k, .int .i64 n, .slice xa xm xc] 42)).cell? ⟨w.heap.size, 1, none⟩ = some (.int .i64 n)) := by simp [Hid]
  have HC2 : Hid ((w.alloc (.cells #[.int .i64 k, .int .i64 n, .slice xa xm xc] 42)).cell? ⟨w.heap.size, 2, none⟩ = some (.slice xa xm xc)) := by simp [Hid]
  have q1 : (k == 1) = true := by rw [hkk]; rfl
  clear hST hkk
  go_enter Try.func15, Try.ntmps15
  go_wp2_with fail
  refine (lendN_any _ _ _ zs _ HS.out.len (by omega) (HS.out.no HA.out).bytes).mono ?_
  rintro e w1 ⟨rfl, hB1, hK1⟩
  rw [World.heap_size_alloc1] at hB1
  have HB1 : Hid (Blk w1 (w.heap.size + 1) (lent zs 5)) := hB1
  have HK1 : Hid (Kept No w w1) := HA.out.then hK1
  have cK : w1.cell? ⟨w.heap.size, 0, none⟩ = some (.int .i64 k) := hK1.cell HC0.out (fun e => e)
  have cN : w1.cell? ⟨w.heap.size, 1, none⟩ = some (.int .i64 n) := hK1.cell HC1.out (fun e => e)
  have cB : w1.cell? ⟨w.heap.size, 2, none⟩ = some (.slice xa xm xc) := hK1.cell HC2.out (fun e => e)
  have hsz1 : w.heap.size + 1 < w1.heap.size := hB1.lt
  have HW1 : Hid (Ws w1 base g a c st) := HW.out.no HK1.out
  clear hB1 hK1
  go_wp2_with fail
  refine (num_all base g a c st n w1 HW1.out h1 (by omega) (by have := HK1.out.size; omega)).mono ?_
  rw [HP.out]
  rintro e w2 ⟨rfl, a2, c2, hw2, hk2, hm2⟩
  have HW2 : Hid (Ws w2 base g a2 c2 ST) := hw2
  have HK2 : Hid (Kept (WrAt g a) w1 w2) := hk2
  have HM2 : Hid (Moved w1 a a2) := hm2
  have cB2 : w2.cell? ⟨w.heap.size, 2, none⟩ = some (.slice xa xm xc) := hk2.cell cB (fun e => by have := HW.out.lt e; simp at this)
  have HB2 : Hid (Blk w2 (w.heap.size + 1) (lent zs 5)) := HB1.out.kept hk2 (fun e => by have h1 := HW.out.lt e; omega)
  have HY2 : Hid (Bytes w2 xa zs) := (HS.out.no HK1.out).bytes.kept2 hk2 HD.out
  clear hw2 hk2 hm2 cK cN cB HB1 HW1
  go_wp2_with fail
  refine (backN_any _ _ _ _ _ zs _ HS.out.len rfl (by omega) HB2.out HY2.out).mono ?_
  rintro e w3 ⟨rfl, hk3⟩
  have HF : Hid (∃ a' c', Ws w3 base g a' c' ST ∧ Kept (WrAt g a) w w3 ∧ Moved w a a') := put_end HW.out HK1.out hsz1 HW2.out HK2.out HM2.out hk3
  clear hk3
  go_wp2
  go_ret
  exact ⟨rfl, HF.out⟩

set_option maxHeartbeats 1000000 in
theorem put_2 (base g : Nat) (a : Option Addr) (c : Nat) (st : Option (List Int)) (k n : Int) (xa : Option Addr) (xm xc : Nat) (zs : List Int) (w : World) (hw : Ws w base g a c st) (hs : Sl w xa xm xc zs) (h0 : -9223372036854775808 ≤ n) (h1 : n ≤ 9223372036854775807)
    (hd : 0 < zs.length → ∀ k, At xa k → ¬ WrAt g a k) (hkk : k = 2) (hlen : stLen st + 10 + xm ≤ 140737488355328) (hbase : base ≤ w.heap.size) :
    Calls Try.prog 15 #[.pointer (some ⟨g, 0, none⟩), .agg #[.int .i64 k, .int .i64 n, .slice xa xm xc]] w fun e w' => e = .returned (.bool true) ∧ ∃ a' c', Ws w' base g a' c' (st.map (· ++ vint (zz n))) ∧ Kept (WrAt g a) w w' ∧ Moved w a a' := by
  have HW : Hid (Ws w base g a c st) := hw
  have HS : Hid (Sl w xa xm xc zs) := hs
  have HD : Hid (0 < zs.length → ∀ k, At xa k → ¬ WrAt g a k) := hd
  have hbd := hs.bd
  clear hw hs hd
  obtain ⟨ST, hST⟩ : ∃ ST, ST = st.map (· ++ vint (zz n)) := ⟨_, rfl⟩
  rw [← hST]
  have HP : Hid (st.map (· ++ vint (zz n)) = ST) := hST.symm
  have HA : Hid (Kept No w (w.alloc (.cells #[.int .i64 k, .int .i64 n, .slice xa xm xc] 42))) := (Kept.refl _ _).alloc _
  have HC0 : Hid ((w.alloc (.cells #[.int .i64 k, .int .i64 n, .slice xa xm xc] 42)).cell? ⟨w.heap.size, 0, none⟩ = some (.int .i64 k)) := by simp [Hid]
  have HC1 : Hid ((w.alloc (.cells #[.int .i64 k, .int .i64 n, .slice xa xm xc] 42)).cell? ⟨w.heap.size, 1, none⟩ = some (.int .i64 n)) := by simp [Hid]
  have HC2 : Hid ((w.alloc (.cells #[.int .i64 k, .int .i64 n, .slice xa xm xc] 42)).cell? ⟨w.heap.size, 2, none⟩ = some (.slice xa xm xc)) := by simp [Hid]
  have q1 : (k == 1) = false := by rw [hkk]; rfl
  have q2 : (k == 2) = true := by rw [hkk]; rfl
  clear hST hkk
  go_enter Try.func15, Try.ntmps15
  go_wp2_with fail
  refine (lendN_any _ _ _ zs _ HS.out.len (by omega) (HS.out.no HA.out).bytes).mono ?_
  rintro e w1 ⟨rfl, hB1, hK1⟩
  rw [World.heap_size_alloc1] at hB1
  have HB1 : Hid (Blk w1 (w.heap.size + 1) (lent zs 5)) := hB1
  have HK1 : Hid (Kept No w w1) := HA.out.then hK1
  have cK : w1.cell? ⟨w.heap.size, 0, none⟩ = some (.int .i64 k) := hK1.cell HC0.out (fun e => e)
  have cN : w1.cell? ⟨w.heap.size, 1, none⟩ = some (.int .i64 n) := hK1.cell HC1.out (fun e => e)
  have cB : w1.cell? ⟨w.heap.size, 2, none⟩ = some (.slice xa xm xc) := hK1.cell HC2.out (fun e => e)
  have hsz1 : w.heap.size + 1 < w1.heap.size := hB1.lt
  have HW1 : Hid (Ws w1 base g a c st) := HW.out.no HK1.out
  clear hB1 hK1
  go_wp2_with fail
  refine (int_all base g a c st n w1 HW1.out h0 h1 (by omega) (by have := HK1.out.size; omega)).mono ?_
  rw [HP.out]
  rintro e w2 ⟨rfl, a2, c2, hw2, hk2, hm2⟩
  have HW2 : Hid (Ws w2 base g a2 c2 ST) := hw2
  have HK2 : Hid (Kept (WrAt g a) w1 w2) := hk2
  have HM2 : Hid (Moved w1 a a2) := hm2
  have cB2 : w2.cell? ⟨w.heap.size, 2, none⟩ = some (.slice xa xm xc) := hk2.cell cB (fun e => by have := HW.out.lt e; simp at this)
  have HB2 : Hid (Blk w2 (w.heap.size + 1) (lent zs 5)) := HB1.out.kept hk2 (fun e => by have h1 := HW.out.lt e; omega)
  have HY2 : Hid (Bytes w2 xa zs) := (HS.out.no HK1.out).bytes.kept2 hk2 HD.out
  clear hw2 hk2 hm2 cK cN cB HB1 HW1
  go_wp2_with fail
  refine (backN_any _ _ _ _ _ zs _ HS.out.len rfl (by omega) HB2.out HY2.out).mono ?_
  rintro e w3 ⟨rfl, hk3⟩
  have HF : Hid (∃ a' c', Ws w3 base g a' c' ST ∧ Kept (WrAt g a) w w3 ∧ Moved w a a') := put_end HW.out HK1.out hsz1 HW2.out HK2.out HM2.out hk3
  clear hk3
  go_wp2
  go_ret
  exact ⟨rfl, HF.out⟩

set_option maxHeartbeats 1000000 in
theorem put_3 (base g : Nat) (a : Option Addr) (c : Nat) (st : Option (List Int)) (k n : Int) (xa : Option Addr) (xm xc : Nat) (zs : List Int) (w : World) (hw : Ws w base g a c st) (hs : Sl w xa xm xc zs) (h0 : -9223372036854775808 ≤ n) (h1 : n ≤ 9223372036854775807)
    (hd : 0 < zs.length → ∀ k, At xa k → ¬ WrAt g a k) (hkk : k = 3) (hlen : stLen st + 10 + xm ≤ 140737488355328) (hbase : base ≤ w.heap.size) :
    Calls Try.prog 15 #[.pointer (some ⟨g, 0, none⟩), .agg #[.int .i64 k, .int .i64 n, .slice xa xm xc]] w fun e w' => e = .returned (.bool true) ∧ ∃ a' c', Ws w' base g a' c' (putBytes st zs) ∧ Kept (WrAt g a) w w' ∧ Moved w a a' := by
  have HW : Hid (Ws w base g a c st) := hw
  have HS : Hid (Sl w xa xm xc zs) := hs
  have HD : Hid (0 < zs.length → ∀ k, At xa k → ¬ WrAt g a k) := hd
  have hbd := hs.bd
  clear hw hs hd
  obtain ⟨ST, hST⟩ : ∃ ST, ST = putBytes st zs := ⟨_, rfl⟩
  rw [← hST]
  have HP : Hid (putBytes st zs = ST) := hST.symm
  have HA : Hid (Kept No w (w.alloc (.cells #[.int .i64 k, .int .i64 n, .slice xa xm xc] 42))) := (Kept.refl _ _).alloc _
  have HC0 : Hid ((w.alloc (.cells #[.int .i64 k, .int .i64 n, .slice xa xm xc] 42)).cell? ⟨w.heap.size, 0, none⟩ = some (.int .i64 k)) := by simp [Hid]
  have HC1 : Hid ((w.alloc (.cells #[.int .i64 k, .int .i64 n, .slice xa xm xc] 42)).cell? ⟨w.heap.size, 1, none⟩ = some (.int .i64 n)) := by simp [Hid]
  have HC2 : Hid ((w.alloc (.cells #[.int .i64 k, .int .i64 n, .slice xa xm xc] 42)).cell? ⟨w.heap.size, 2, none⟩ = some (.slice xa xm xc)) := by simp [Hid]
  have q1 : (k == 1) = false := by rw [hkk]; rfl
  have q2 : (k == 2) = false := by rw [hkk]; rfl
  have q3 : (k == 3) = true := by rw [hkk]; rfl
  clear hST hkk
  go_enter Try.func15, Try.ntmps15
  go_wp2_with fail
  refine (lendN_any _ _ _ zs _ HS.out.len (by omega) (HS.out.no HA.out).bytes).mono ?_
  rintro e w1 ⟨rfl, hB1, hK1⟩
  rw [World.heap_size_alloc1] at hB1
  have HB1 : Hid (Blk w1 (w.heap.size + 1) (lent zs 5)) := hB1
  have HK1 : Hid (Kept No w w1) := HA.out.then hK1
  have cK : w1.cell? ⟨w.heap.size, 0, none⟩ = some (.int .i64 k) := hK1.cell HC0.out (fun e => e)
  have cN : w1.cell? ⟨w.heap.size, 1, none⟩ = some (.int .i64 n) := hK1.cell HC1.out (fun e => e)
  have cB : w1.cell? ⟨w.heap.size, 2, none⟩ = some (.slice xa xm xc) := hK1.cell HC2.out (fun e => e)
  have hsz1 : w.heap.size + 1 < w1.heap.size := hB1.lt
  have HW1 : Hid (Ws w1 base g a c st) := HW.out.no HK1.out
  clear hB1 hK1
  go_wp2_with fail
  refine (bytes_all base g a c st _ _ _ zs w1 HW1.out HS.out.len (lent_sl HB1.out HS.out.len HS.out.u8 hbd).bytes (fun e => by cases e) (fun i hi e => by have h1 := HW.out.lt e; have := at_some hi; omega) (by omega) (by omega) (by have := HK1.out.size; omega)).mono ?_
  rw [HP.out]
  rintro e w2 ⟨rfl, a2, c2, hw2, hk2, hm2⟩
  have HW2 : Hid (Ws w2 base g a2 c2 ST) := hw2
  have HK2 : Hid (Kept (WrAt g a) w1 w2) := hk2
  have HM2 : Hid (Moved w1 a a2) := hm2
  have cB2 : w2.cell? ⟨w.heap.size, 2, none⟩ = some (.slice xa xm xc) := hk2.cell cB (fun e => by have := HW.out.lt e; simp at this)
  have HB2 : Hid (Blk w2 (w.heap.size + 1) (lent zs 5)) := HB1.out.kept hk2 (fun e => by have h1 := HW.out.lt e; omega)
  have HY2 : Hid (Bytes w2 xa zs) := (HS.out.no HK1.out).bytes.kept2 hk2 HD.out
  clear hw2 hk2 hm2 cK cN cB HB1 HW1
  go_wp2_with fail
  refine (backN_any _ _ _ _ _ zs _ HS.out.len rfl (by omega) HB2.out HY2.out).mono ?_
  rintro e w3 ⟨rfl, hk3⟩
  have HF : Hid (∃ a' c', Ws w3 base g a' c' ST ∧ Kept (WrAt g a) w w3 ∧ Moved w a a') := put_end HW.out HK1.out hsz1 HW2.out HK2.out HM2.out hk3
  clear hk3
  go_wp2
  go_ret
  exact ⟨rfl, HF.out⟩

set_option maxHeartbeats 1000000 in
theorem put_4 (base g : Nat) (a : Option Addr) (c : Nat) (st : Option (List Int)) (k n : Int) (xa : Option Addr) (xm xc : Nat) (zs : List Int) (w : World) (hw : Ws w base g a c st) (hs : Sl w xa xm xc zs) (h0 : -9223372036854775808 ≤ n) (h1 : n ≤ 9223372036854775807)
    (hd : 0 < zs.length → ∀ k, At xa k → ¬ WrAt g a k) (hkk : k = 4) (hlen : stLen st + 10 + xm ≤ 140737488355328) (hbase : base ≤ w.heap.size) :
    Calls Try.prog 15 #[.pointer (some ⟨g, 0, none⟩), .agg #[.int .i64 k, .int .i64 n, .slice xa xm xc]] w fun e w' => e = .returned (.bool true) ∧ ∃ a' c', Ws w' base g a' c' (putBytes st zs) ∧ Kept (WrAt g a) w w' ∧ Moved w a a' := by
  have HW : Hid (Ws w base g a c st) := hw
  have HS : Hid (Sl w xa xm xc zs) := hs
  have HD : Hid (0 < zs.length → ∀ k, At xa k → ¬ WrAt g a k) := hd
  have hbd := hs.bd
  clear hw hs hd
  obtain ⟨ST, hST⟩ : ∃ ST, ST = putBytes st zs := ⟨_, rfl⟩
  rw [← hST]
  have HP : Hid (putBytes st zs = ST) := hST.symm
  have HA : Hid (Kept No w (w.alloc (.cells #[.int .i64 k, .int .i64 n, .slice xa xm xc] 42))) := (Kept.refl _ _).alloc _
  have HC0 : Hid ((w.alloc (.cells #[.int .i64 k, .int .i64 n, .slice xa xm xc] 42)).cell? ⟨w.heap.size, 0, none⟩ = some (.int .i64 k)) := by simp [Hid]
  have HC1 : Hid ((w.alloc (.cells #[.int .i64 k, .int .i64 n, .slice xa xm xc] 42)).cell? ⟨w.heap.size, 1, none⟩ = some (.int .i64 n)) := by simp [Hid]
  have HC2 : Hid ((w.alloc (.cells #[.int .i64 k, .int .i64 n, .slice xa xm xc] 42)).cell? ⟨w.heap.size, 2, none⟩ = some (.slice xa xm xc)) := by simp [Hid]
  have q1 : (k == 1) = false := by rw [hkk]; rfl
  have q2 : (k == 2) = false := by rw [hkk]; rfl
  have q3 : (k == 3) = false := by rw [hkk]; rfl
  have q4 : (k == 4) = true := by rw [hkk]; rfl
  clear hST hkk
  go_enter Try.func15, Try.ntmps15
  go_wp2_with fail
  refine (lendN_any _ _ _ zs _ HS.out.len (by omega) (HS.out.no HA.out).bytes).mono ?_
  rintro e w1 ⟨rfl, hB1, hK1⟩
  rw [World.heap_size_alloc1] at hB1
  have HB1 : Hid (Blk w1 (w.heap.size + 1) (lent zs 5)) := hB1
  have HK1 : Hid (Kept No w w1) := HA.out.then hK1
  have cK : w1.cell? ⟨w.heap.size, 0, none⟩ = some (.int .i64 k) := hK1.cell HC0.out (fun e => e)
  have cN : w1.cell? ⟨w.heap.size, 1, none⟩ = some (.int .i64 n) := hK1.cell HC1.out (fun e => e)
  have cB : w1.cell? ⟨w.heap.size, 2, none⟩ = some (.slice xa xm xc) := hK1.cell HC2.out (fun e => e)
  have hsz1 : w.heap.size + 1 < w1.heap.size := hB1.lt
  have HW1 : Hid (Ws w1 base g a c st) := HW.out.no HK1.out
  clear hB1 hK1
  have hcv := run_str (xc := xc) (HS.out.no HK1.out).bytes HS.out.u8 HS.out.len
  go_wp2_with fail
  refine (text_all base g a c st _ w1 HW1.out (by rw [strOf_size, HS.out.len]; omega) (by rw [strOf_size, HS.out.len]; omega) (by have := HK1.out.size; omega)).mono ?_
  rw [numsOf_strOf HS.out.u8, HP.out]
  rintro e w2 ⟨rfl, a2, c2, hw2, hk2, hm2⟩
  have HW2 : Hid (Ws w2 base g a2 c2 ST) := hw2
  have HK2 : Hid (Kept (WrAt g a) w1 w2) := hk2
  have HM2 : Hid (Moved w1 a a2) := hm2
  have cB2 : w2.cell? ⟨w.heap.size, 2, none⟩ = some (.slice xa xm xc) := hk2.cell cB (fun e => by have := HW.out.lt e; simp at this)
  have HB2 : Hid (Blk w2 (w.heap.size + 1) (lent zs 5)) := HB1.out.kept hk2 (fun e => by have h1 := HW.out.lt e; omega)
  have HY2 : Hid (Bytes w2 xa zs) := (HS.out.no HK1.out).bytes.kept2 hk2 HD.out
  clear hw2 hk2 hm2 cK cN cB HB1 HW1
  go_wp2_with fail
  refine (backN_any _ _ _ _ _ zs _ HS.out.len rfl (by omega) HB2.out HY2.out).mono ?_
  rintro e w3 ⟨rfl, hk3⟩
  have HF : Hid (∃ a' c', Ws w3 base g a' c' ST ∧ Kept (WrAt g a) w w3 ∧ Moved w a a') := put_end HW.out HK1.out hsz1 HW2.out HK2.out HM2.out hk3
  clear hk3
  go_wp2
  go_ret
  exact ⟨rfl, HF.out⟩

theorem put_any (base g : Nat) (a : Option Addr) (c : Nat) (st : Option (List Int)) (k n : Int) (xa : Option Addr) (xm xc : Nat) (zs : List Int) (w : World) (hw : Ws w base g a c st) (hs : Sl w xa xm xc zs) (h0 : -9223372036854775808 ≤ n) (h1 : n ≤ 9223372036854775807)
    (hd : 0 < zs.length → ∀ k, At xa k → ¬ WrAt g a k) (hkk : 1 ≤ k ∧ k ≤ 4) (hlen : stLen st + 10 + xm ≤ 140737488355328) (hbase : base ≤ w.heap.size) :
    Calls Try.prog 15 #[.pointer (some ⟨g, 0, none⟩), .agg #[.int .i64 k, .int .i64 n, .slice xa xm xc]] w fun e w' => e = .returned (.bool true) ∧ ∃ a' c', Ws w' base g a' c' (putIt st ⟨k, n, xa, xm, xc, zs⟩) ∧ Kept (WrAt g a) w w' ∧ Moved w a a' := by
  have hc : k = 1 ∨ k = 2 ∨ k = 3 ∨ k = 4 := by omega
  rcases hc with rfl | rfl | rfl | rfl
  · exact put_1 base g a c st 1 n xa xm xc zs w hw hs h0 h1 hd rfl hlen hbase
  · exact put_2 base g a c st 2 n xa xm xc zs w hw hs h0 h1 hd rfl hlen hbase
  · exact put_3 base g a c st 3 n xa xm xc zs w hw hs h0 h1 hd rfl hlen hbase
  · exact put_4 base g a c st 4 n xa xm xc zs w hw hs h0 h1 hd rfl hlen hbase

set_option maxHeartbeats 1000000 in
theorem done_any (base g : Nat) (a : Option Addr) (c : Nat) (la : Option Addr) (ln lc : Nat) (xs : List Item) (w : World) (hw : Ws w base g a c (allOf xs)) (hn : xs.length = ln) (hb : ln ≤ 140737488355328) (hx : Its w la xs) (hok : ∀ x ∈ xs, ItOk w x) (ht : tot xs ≤ 140737488355328) :
    Calls Try.prog 23 #[.pointer (some ⟨g, 0, none⟩), .slice la ln lc] w fun e w' => e = .returned (.bool true) ∧ Kept No w w' := by
  have HW : Hid (Ws w base g a c (allOf xs)) := hw
  have HX : Hid (Its w la xs) := hx
  have HO : Hid (∀ x ∈ xs, ItOk w x) := hok
  have HT : Hid (tot xs ≤ 140737488355328) := ht
  have HN : Hid (xs.length = ln) := hn
  have HL : Hid (stLen (allOf xs) ≤ 140737488355328) := Nat.le_trans (allOf_len xs hok) ht
  have HL2 : Hid ((doneOf (allOf xs)).1.length ≤ 140737488355328) := by
    have := HL.out; revert this; cases allOf xs <;> simp [stLen, doneOf, Hid]
  clear hw hx hok ht hn
  go_enter Try.func23, Try.ntmps23
  go_wp2_with fail
  refine (Done_all base g a c (allOf xs) w HW.out HL.out).mono ?_
  rintro e w1 ⟨a1, n1, c1, rfl, hn1, hO1, hK1⟩
  have HN1 : Hid (n1 = (doneOf (allOf xs)).1.length) := hn1
  have HO1 : Hid (OwnS w1 w.heap.size a1 c1 (doneOf (allOf xs)).1) := hO1
  have HK1 : Hid (Kept No w w1) := hK1
  clear hn1 hO1 hK1
  go_wp2_with fail
  refine (rDone_any la ln lc xs w1 HN.out hb (HX.out.no HK1.out) (fun x hx => (HO.out x hx).no HK1.out) HT.out).mono ?_
  rintro e w2 ⟨a2, n2, c2, rfl, hn2, hO2, hK2⟩
  have HN2 : Hid (n2 = (doneOf (allOf xs)).1.length) := hn2
  have HO2 : Hid (OwnS w2 w1.heap.size a2 c2 (doneOf (allOf xs)).1) := hO2
  have HO3 : Hid (OwnS w2 w.heap.size a1 c1 (doneOf (allOf xs)).1) := HO1.out.no hK2
  have HK2 : Hid (Kept No w w2) := HK1.out.then hK2
  have hl1 : n1 ≤ 140737488355328 := by rw [HN1.out]; exact HL2.out
  have hl2 : n2 ≤ 140737488355328 := by rw [HN2.out]; exact HL2.out
  clear hn2 hO2 hK2 HO1 HK1
  go_wp2_with fail
  refine (sameN_any _ _ _ _ _ _ (doneOf (allOf xs)).1 (doneOf (allOf xs)).1 _ HN1.out.symm HN2.out.symm (by omega) (by omega) HO3.out.bytes HO2.out.bytes).mono ?_
  rintro e w3 ⟨rfl, n3, rfl⟩
  rw [eqB_refl]
  go_wp2
  go_ret
  exact ⟨rfl, HK2.out.drewN _⟩

end Go.Proofs.Ytnhjpghkmbgeaab
