import Derived.Test.YtgnfeegnhdbnkaaN
namespace Go.Proofs.Ytgnfeegnhdbnkaa
open Go.RowKit Go.Lib
set_option linter.unusedVariables false
set_option linter.unusedSimpArgs false

theorem b_geq (x y : Int) (w : World) : (binOp .geq 3 (.int .i64 x) (.int .i64 y)).run Try.prog w = .ok (.bool (decide (y ≤ x))) w := by kernel_rfl
theorem b_leq (x y : Int) (w : World) : (binOp .leq 3 (.int .i64 x) (.int .i64 y)).run Try.prog w = .ok (.bool (decide (x ≤ y))) w := by kernel_rfl
theorem exec_index {o : Oper} {a : Act} {w : World} (x y : Operand) (ho : o.op = .index 9 x y) (l : List UInt8) (i : Nat) (c : UInt8) (hx : a.eval x = .string (bs l)) (hy : a.eval y = .int .i64 (i : Int)) (hc : l[i]? = some c) : (execOp a.eval o).run Try.prog w = .ok (.value (.int .u8 (bi c))) w := by
  obtain ⟨hi, hc⟩ := List.getElem?_eq_some_iff.1 hc
  have hrun : (Instr.index 9 (.string (bs l)) (.int .i64 (i : Int))).run Try.prog w = .ok (.int .u8 (bi c)) w := by
    rw [run_index_string (P := Try.prog) (w := w) 9 (bs l) .i64 (i : Int) U9, dif_pos ⟨by omega, by rw [bs_size]; omega⟩]
    have e : (bs l)[(i : Int).toNat]'(by rw [bs_size]; omega) = c := by rw [bs_at]; simpa using hc
    rw [e]; rfl
  simp only [execOp, ho, hx, hy, Sem.run_bind, hrun, Result.andThen_ok, Sem.run_pure]
theorem runS_step {l : List UInt8} {i : Nat} {c : UInt8} (hc : l[i]? = some c) (hb : (runS s0 (l.take i)).bad = false) : runS s0 (l.take (i + 1)) = nextS (runS s0 (l.take i)) c := by
  rw [List.take_add_one, hc, runS_app]
  generalize runS s0 (l.take i) = t at hb
  show runS t [c] = _
  simp [runS, hb]
theorem runS_end {l : List UInt8} {i : Nat} (hi : i ≤ l.length) (h : i = l.length ∨ (runS s0 (l.take i)).bad = true) : runS s0 l = runS s0 (l.take i) := by
  rcases h with rfl | h
  · rw [List.take_length]
  · conv => lhs; rw [← List.take_append_drop i l, runS_app, runS_bad h]
def FJ (n : Nat) (w : World) (l : List UInt8) (i : Nat) (wr : World) : Prop := RdA (n + 1) wr n (runS s0 (l.take i)) ∧ Kept No w wr ∧ Rin (runS s0 (l.take i)) i ∧ i ≤ l.length
theorem RdA.cell4 {n0 : Nat} {w : World} {g : Nat} {t : St} (h : RdA n0 w g t) : w.cell? ⟨g, 4, none⟩ = some (.bool t.bad) := by
  obtain ⟨wa, wc, ba, bc, h⟩ := h
  rw [h.box.cell]; rfl
set_option maxRecDepth 100000 in
set_option maxHeartbeats 4000000 in
theorem refWords_any (l : List UInt8) (hl : l.length ≤ 1000000000000) (w : World) : Calls Try.prog 8 #[.string (bs l)] w (fun e w' => WsO w.heap.size w' 200 (wordsOf l) e ∧ Kept No w w') := by
  obtain ⟨C, hC⟩ : ∃ C : Ending → World → Prop, C = (fun e w' => WsO w.heap.size w' 200 (wordsOf l) e ∧ Kept No w w') := ⟨_, rfl⟩
  have HC : Hid (C = (fun e w' => WsO w.heap.size w' 200 (wordsOf l) e ∧ Kept No w w')) := hC
  rw [← hC]
  clear hC
  have HLl : Hid (l.length ≤ 1000000000000) := hl
  clear hl
  obtain ⟨n, hn⟩ : ∃ n, n = w.heap.size := ⟨_, rfl⟩
  have HN : Hid (n = w.heap.size) := hn
  go_enter Try.func8, Try.ntmps8
  go_upto_region 0 with fail
  refine WL.start ?_
  refine tK (.slice none 0 0) ?_
  try simp only [pA, pB, p1, p2, p3]
  refine tK (.int .i64 0) ?_
  try simp only [pA, pB, p1, p2, p3]
  refine WL.nil ?_
  try simp only [pA, pB, p1, p2, p3]
  go_upto_region 1 with fail
  refine WL.start ?_
  refine tW (.agg #[.int .i64 0, .slice none 0 0, .slice none 0 0, .int .i64 0, .bool false]) (exec_build 46 _ rfl _ (by kernel_rfl)) ?_
  try simp only [pA, pB, p1, p2, p3]
  refine wp_runW (.pointer (some ⟨w.heap.size, 0, none⟩)) (w.alloc (.cells #[.int .i64 0, .slice none 0 0, .slice none 0 0, .int .i64 0, .bool false] 46)) (exec_box 46 _ rfl _ (by kernel_rfl)) (by kernel_rfl) ?_
  try simp only [pA, pB, p1, p2, p3]
  rw [← hn]
  refine tK (.pointer (some ⟨n, 0, none⟩)) ?_
  try simp only [pA, pB, p1, p2, p3]
  refine WL.nil ?_
  try simp only [pA, pB, p1, p2, p3]
  have HJ : Hid (FJ n w l 0 (w.alloc (.cells #[.int .i64 0, .slice none 0 0, .slice none 0 0, .int .i64 0, .bool false] 46))) := by
    have hb := Box.new w 46 #[.int .i64 0, .slice none 0 0, .slice none 0 0, .int .i64 0, .bool false]
    rw [← hn] at hb
    exact ⟨⟨none, 0, none, 0, hb, Own.nil _ _ _ _, Own.nil _ _ _ _, by rw [size_alloc]; omega⟩, (Kept.refl No w).alloc _, ⟨by show 0 ≤ 7; omega, fun _ e => (by have e : (0 : Nat) = 5 := e; omega), by show 0 + 0 ≤ 0; omega⟩, Nat.zero_le _⟩
  generalize w.alloc (.cells #[.int .i64 0, .slice none 0 0, .slice none 0 0, .int .i64 0, .bool false] 46) = W1 at HJ ⊢
  clear hn
  go_wp2
  go_loopw [5] (fun v5 wr => ∃ i : Nat, v5 = .int .i64 ((i : Nat) : Int) ∧ Hid (FJ n w l i wr)) (fun v5 _ => l.length - (intOf v5).toNat)
  case atStart => exact ⟨0, by go_num, HJ⟩
  case round =>
    clear HJ
    obtain ⟨i, rfl, HJ⟩ := hrel
    obtain ⟨hA, hkr, hri, hil⟩ := HJ.out
    have HI : Hid (i ≤ l.length ∧ l.length ≤ 1000000000000) := ⟨hil, HLl.out⟩
    by_cases hp : i < l.length
    · have hcm : ((i : Nat) : Int) < ((l.length : Nat) : Int) := by omega
      cases hbad : (runS s0 (l.take i)).bad with
      | false =>
        obtain ⟨c, hcc⟩ : ∃ c, l[i]? = some c := ⟨_, List.getElem?_eq_getElem hp⟩
        have HCc : Hid (l[i]? = some c) := hcc
        have hst := runS_step hcc hbad
        have HSt : Hid (runS s0 (l.take (i + 1)) = nextS (runS s0 (l.take i)) c) := hst
        have HPp : Hid (i < l.length) := hp
        have HRn : Hid (Rin (nextS (runS s0 (l.take i)) c) (i + 1)) := hri.next c
        have HA : Hid (RdA (n + 1) wr n (runS s0 (l.take i))) := hA
        have HRi : Hid (Rin (runS s0 (l.take i)) i) := hri
        have HKr : Hid (Kept No w wr) := hkr
        clear hst hri hA hil hkr hcc hp
        generalize hte : runS s0 (l.take i) = t at hbad HSt HRn HA HRi
        clear hte
        obtain ⟨wa, wc, ba, bc, hC0⟩ := HA.out
        have HB : Hid (Box wr n 46 #[.int .i64 (t.inn : Int), .slice ba t.word.length bc, .slice wa t.ws.length wc, .int .i64 t.dg, .bool false]) := by rw [← hbad]; exact hC0.box
        have HW : Hid (Own 9 1 wr (n + 1) wa wc t.ws.length (t.ws.map strV)) := hC0.hw
        have HY : Hid (Own 5 1 wr (n + 1) ba bc t.word.length (t.word.map u8V)) := hC0.hb
        have HK : Hid (Kept (Sg (n + 1) n) wr wr) := Kept.refl _ _
        clear hC0
        go_upto_region 3 with fail
        refine WL.start ?_
        refine tK (.int .i64 ((i : Nat) : Int)) ?_
        try simp only [pA, pB, p1, p2, p3]
        refine tK (.string (bs l)) ?_
        try simp only [pA, pB, p1, p2, p3]
        refine tK (.int .i64 ((l.length : Nat) : Int)) ?_
        try simp only [pA, pB, p1, p2, p3]
        refine tW (.bool true) (exec_bin .lss 3 _ _ _ rfl (.int .i64 ((i : Nat) : Int)) (.int .i64 ((l.length : Nat) : Int)) (.bool true) (by kernel_rfl) (by kernel_rfl) (by kernel_rfl) (by rw [b_lss, decide_eq_true hcm])) ?_
        try simp only [pA, pB, p1, p2, p3]
        refine tK (.bool true) ?_
        try simp only [pA, pB, p1, p2, p3]
        refine tK (.pointer (some ⟨n, 0, none⟩)) ?_
        try simp only [pA, pB, p1, p2, p3]
        refine tK (.pointer (some ⟨n, 0, none⟩)) ?_
        try simp only [pA, pB, p1, p2, p3]
        refine tK (.pointer (some ⟨n, 4, none⟩)) ?_
        try simp only [pA, pB, p1, p2, p3]
        refine tW (.bool false) (exec_load 4 _ rfl ⟨n, 4, none⟩ (by kernel_rfl) (.bool false) (load_one (HB.out.cell 4) U4 rfl)) ?_
        try simp only [pA, pB, p1, p2, p3]
        refine tK (.bool true) ?_
        try simp only [pA, pB, p1, p2, p3]
        refine tK (.bool true) ?_
        try simp only [pA, pB, p1, p2, p3]
        refine WL.nil ?_
        try simp only [pA, pB, p1, p2, p3]
        go_upto_region 5 with fail
        refine WL.start ?_
        refine tK (.pointer (some ⟨n, 0, none⟩)) ?_
        try simp only [pA, pB, p1, p2, p3]
        refine tK (.string (bs l)) ?_
        try simp only [pA, pB, p1, p2, p3]
        refine tK (.int .i64 ((i : Nat) : Int)) ?_
        try simp only [pA, pB, p1, p2, p3]
        refine tW (.int .u8 (bi c)) (exec_index _ _ rfl l i c (by kernel_rfl) (by kernel_rfl) HCc.out) ?_
        try simp only [pA, pB, p1, p2, p3]
        refine wp_callW 20 #[.pointer (some ⟨n, 0, none⟩), .int .u8 (bi c)] (by kernel_rfl) _ (next_any HRi.out hbad (by have := HI.out; have := HLl.out; omega) c wr HA.out) (by kernel_rfl) ?_
        rintro e W9 ⟨rfl, hc9, hk9⟩
        have HJ2 : Hid (FJ n w l (i + 1) W9) := by
          refine ⟨by rw [HSt.out]; exact hc9, HKr.out.trans hk9 (fun _ e => e) (fun j hj e => by have := HN.out; rcases e with rfl | e <;> omega), by rw [HSt.out]; exact HRn.out, by have := HPp.out; omega⟩
        clear hc9 hk9
        refine ⟨.tuple #[], rfl, ?_⟩
        try simp only [pA, pB, p1, p2, p3]
        refine WL.nil ?_
        try simp only [pA, pB, p1, p2, p3]
        go_upto_region 4 with fail
        refine WL.start ?_
        refine tK (.int .i64 ((i : Nat) : Int)) ?_
        try simp only [pA, pB, p1, p2, p3]
        refine tW (.int .i64 ((i + 1 : Nat) : Int)) (exec_bin .add 3 _ _ _ rfl (.int .i64 ((i : Nat) : Int)) (.int .i64 1) (.int .i64 ((i + 1 : Nat) : Int)) (by kernel_rfl) (by kernel_rfl) (by kernel_rfl) (b_add1 i (by have := HI.out; omega) _)) ?_
        try simp only [pA, pB, p1, p2, p3]
        refine tK (.int .i64 ((i + 1 : Nat) : Int)) ?_
        try simp only [pA, pB, p1, p2, p3]
        refine WL.nil ?_
        try simp only [pA, pB, p1, p2, p3]
        go_wp2
        go_roundw
        case rel => exact ⟨i + 1, by go_num, HJ2⟩
        case measure => have := HPp.out; simp [intOf]; omega
      | true =>
        have hE := runS_end hil (Or.inr hbad)
        have HT : Hid (runS s0 l = runS s0 (l.take i)) := hE
        have HSz : Hid ((runS s0 (l.take i)).ws.length ≤ 1000000000000 ∧ (runS s0 (l.take i)).word.length ≤ 1000000000000) := by have h1 := hri.len; have h2 := HLl.out; exact ⟨by omega, by omega⟩
        clear hri hE hil HJ
        generalize runS s0 (l.take i) = t at hA HT HSz hbad
        have hc4 := hA.cell4
        rw [hbad] at hc4
        have HB4 : Hid (wr.cell? ⟨n, 4, none⟩ = some (.bool true)) := hc4
        clear hc4
        go_upto_region 3 with fail
        refine WL.start ?_
        refine tK (.int .i64 ((i : Nat) : Int)) ?_
        try simp only [pA, pB, p1, p2, p3]
        refine tK (.string (bs l)) ?_
        try simp only [pA, pB, p1, p2, p3]
        refine tK (.int .i64 ((l.length : Nat) : Int)) ?_
        try simp only [pA, pB, p1, p2, p3]
        refine tW (.bool true) (exec_bin .lss 3 _ _ _ rfl (.int .i64 ((i : Nat) : Int)) (.int .i64 ((l.length : Nat) : Int)) (.bool true) (by kernel_rfl) (by kernel_rfl) (by kernel_rfl) (by rw [b_lss, decide_eq_true hcm])) ?_
        try simp only [pA, pB, p1, p2, p3]
        refine tK (.bool true) ?_
        try simp only [pA, pB, p1, p2, p3]
        refine tK (.pointer (some ⟨n, 0, none⟩)) ?_
        try simp only [pA, pB, p1, p2, p3]
        refine tK (.pointer (some ⟨n, 0, none⟩)) ?_
        try simp only [pA, pB, p1, p2, p3]
        refine tK (.pointer (some ⟨n, 4, none⟩)) ?_
        try simp only [pA, pB, p1, p2, p3]
        refine tW (.bool true) (exec_load 4 _ rfl ⟨n, 4, none⟩ (by kernel_rfl) (.bool true) (load_one HB4.out U4 rfl)) ?_
        try simp only [pA, pB, p1, p2, p3]
        refine tK (.bool false) ?_
        try simp only [pA, pB, p1, p2, p3]
        refine tK (.bool false) ?_
        try simp only [pA, pB, p1, p2, p3]
        refine WL.nil ?_
        try simp only [pA, pB, p1, p2, p3]
        clear HB4 hcm hp
        clear hbad
        by_cases hin1 : t.inn = 1
        · skip
          have he1 : ((t.inn : Int) == 1) = true := by simp; exact_mod_cast hin1
          cases hbad : t.bad with
          | false =>
            obtain ⟨wa, wc, ba, bc, hC0⟩ := hA
            have HB : Hid (Box wr n 46 #[.int .i64 (t.inn : Int), .slice ba t.word.length bc, .slice wa t.ws.length wc, .int .i64 t.dg, .bool false]) := by rw [← hbad]; exact hC0.box
            have HW : Hid (Own 9 1 wr (n + 1) wa wc t.ws.length (t.ws.map strV)) := hC0.hw
            have HY : Hid (Own 5 1 wr (n + 1) ba bc t.word.length (t.word.map u8V)) := hC0.hb
            have HL : Hid (n + 1 ≤ wr.heap.size) := hC0.hn
            have HK : Hid (Kept No w wr) := hkr
            clear hC0 hkr
            go_upto_region 6 with fail
            refine WL.start ?_
            refine tK (.pointer (some ⟨n, 0, none⟩)) ?_
            try simp only [pA, pB, p1, p2, p3]
            refine tK (.pointer (some ⟨n, 0, none⟩)) ?_
            try simp only [pA, pB, p1, p2, p3]
            refine tK (.pointer (some ⟨n, 0, none⟩)) ?_
            try simp only [pA, pB, p1, p2, p3]
            refine tW (.int .i64 (t.inn : Int)) (exec_load 3 _ rfl ⟨n, 0, none⟩ (by kernel_rfl) (.int .i64 (t.inn : Int)) (load_one (HB.out.cell 0) U3 rfl)) ?_
            try simp only [pA, pB, p1, p2, p3]
            refine tW (.bool true) (exec_bin .eql 3 _ _ _ rfl (.int .i64 (t.inn : Int)) (.int .i64 1) (.bool true) (by kernel_rfl) (by kernel_rfl) (by kernel_rfl) (by rw [b_eq3, he1])) ?_
            try simp only [pA, pB, p1, p2, p3]
            refine WL.nil ?_
            try simp only [pA, pB, p1, p2, p3]
            go_upto_region 7 with fail
            refine WL.start ?_
            refine tK (.pointer (some ⟨n, 0, none⟩)) ?_
            try simp only [pA, pB, p1, p2, p3]
            refine wp_callW 21 #[.pointer (some ⟨n, 0, none⟩), .int .i64 0] (by kernel_rfl) _ (ends_any (n + 1) n t 0 wr ⟨_, _, _, _, by rw [hbad]; exact HB.out, HW.out, HY.out, HL.out⟩ HSz.out.1 HSz.out.2) (by kernel_rfl) ?_
            rintro e W9 ⟨rfl, hc9, hk9⟩
            have HCe : Hid (RdA (n + 1) W9 n (endS t 0)) := hc9
            have HKe : Hid (Kept No w W9) := HK.out.trans hk9 (fun _ e => e) (fun j hj e => by have := HN.out; rcases e with rfl | e <;> omega)
            clear hc9 hk9
            refine ⟨.tuple #[], rfl, ?_⟩
            try simp only [pA, pB, p1, p2, p3]
            refine WL.nil ?_
            try simp only [pA, pB, p1, p2, p3]
            obtain ⟨wa9, wc9, ba9, bc9, hC9⟩ := HCe.out
            have HB : Hid (Box W9 n 46 #[.int .i64 0, .slice ba9 0 bc9, .slice wa9 (t.ws ++ [t.word]).length wc9, .int .i64 t.dg, .bool false]) := by rw [← hbad]; exact hC9.box
            have HW : Hid (Own 9 1 W9 (n + 1) wa9 wc9 (t.ws ++ [t.word]).length ((t.ws ++ [t.word]).map strV)) := hC9.hw
            have HK : Hid (Kept No w W9) := HKe.out
            clear hC9
            go_upto_region 8 with fail
            refine WL.start ?_
            refine tK (.pointer (some ⟨n, 0, none⟩)) ?_
            try simp only [pA, pB, p1, p2, p3]
            refine tK (.pointer (some ⟨n, 0, none⟩)) ?_
            try simp only [pA, pB, p1, p2, p3]
            refine tK (.pointer (some ⟨n, 4, none⟩)) ?_
            try simp only [pA, pB, p1, p2, p3]
            refine tW (.bool false) (exec_load 4 _ rfl ⟨n, 4, none⟩ (by kernel_rfl) (.bool false) (load_one (HB.out.cell 4) U4 rfl)) ?_
            try simp only [pA, pB, p1, p2, p3]
            refine tK (.bool false) ?_
            try simp only [pA, pB, p1, p2, p3]
            refine tK (.pointer (some ⟨n, 0, none⟩)) ?_
            try simp only [pA, pB, p1, p2, p3]
            refine tK (.pointer (some ⟨n, 0, none⟩)) ?_
            try simp only [pA, pB, p1, p2, p3]
            refine tK (.pointer (some ⟨n, 0, none⟩)) ?_
            try simp only [pA, pB, p1, p2, p3]
            refine tW (.int .i64 0) (exec_load 3 _ rfl ⟨n, 0, none⟩ (by kernel_rfl) (.int .i64 0) (load_one (HB.out.cell 0) U3 rfl)) ?_
            try simp only [pA, pB, p1, p2, p3]
            refine tW (.bool false) (exec_bin .geq 3 _ _ _ rfl (.int .i64 0) (.int .i64 2) (.bool false) (by kernel_rfl) (by kernel_rfl) (by kernel_rfl) (by rw [b_geq, decide_eq_false (by decide)])) ?_
            try simp only [pA, pB, p1, p2, p3]
            refine tK (.bool false) ?_
            try simp only [pA, pB, p1, p2, p3]
            refine sK ?_
            try simp only [pA, pB, p1, p2, p3]
            refine sK ?_
            try simp only [pA, pB, p1, p2, p3]
            refine sK ?_
            try simp only [pA, pB, p1, p2, p3]
            refine sK ?_
            try simp only [pA, pB, p1, p2, p3]
            refine sK ?_
            try simp only [pA, pB, p1, p2, p3]
            refine tK (.bool false) ?_
            try simp only [pA, pB, p1, p2, p3]
            refine tK (.bool false) ?_
            try simp only [pA, pB, p1, p2, p3]
            refine WL.nil ?_
            try simp only [pA, pB, p1, p2, p3]
            go_upto_region 10 with fail
            refine WL.start ?_
            refine tK (.pointer (some ⟨n, 0, none⟩)) ?_
            try simp only [pA, pB, p1, p2, p3]
            refine tK (.pointer (some ⟨n, 0, none⟩)) ?_
            try simp only [pA, pB, p1, p2, p3]
            refine tK (.pointer (some ⟨n, 2, none⟩)) ?_
            try simp only [pA, pB, p1, p2, p3]
            refine tW (.slice wa9 (t.ws ++ [t.word]).length wc9) (exec_load 22 _ rfl ⟨n, 2, none⟩ (by kernel_rfl) (.slice wa9 (t.ws ++ [t.word]).length wc9) (load_one (HB.out.cell 2) U22 rfl)) ?_
            try simp only [pA, pB, p1, p2, p3]
            refine tK (.slice wa9 (t.ws ++ [t.word]).length wc9) ?_
            try simp only [pA, pB, p1, p2, p3]
            refine tK (.int .i64 0) ?_
            try simp only [pA, pB, p1, p2, p3]
            refine WL.nil ?_
            try simp only [pA, pB, p1, p2, p3]
            go_wp2
            rw [HC.out]
            exact ⟨by rw [show wordsOf l = some (t.ws ++ [t.word]) from by unfold wordsOf; rw [HT.out, if_neg (by rw [hbad]; rintro (e | e); cases e; omega), if_pos hin1]]; exact ⟨_, _, rfl, Own.lower HW.out (by have := HN.out; omega)⟩, HK.out⟩
          | true =>
            obtain ⟨wa, wc, ba, bc, hC0⟩ := hA
            have HB : Hid (Box wr n 46 #[.int .i64 (t.inn : Int), .slice ba t.word.length bc, .slice wa t.ws.length wc, .int .i64 t.dg, .bool true]) := by rw [← hbad]; exact hC0.box
            have HW : Hid (Own 9 1 wr (n + 1) wa wc t.ws.length (t.ws.map strV)) := hC0.hw
            have HY : Hid (Own 5 1 wr (n + 1) ba bc t.word.length (t.word.map u8V)) := hC0.hb
            have HL : Hid (n + 1 ≤ wr.heap.size) := hC0.hn
            have HK : Hid (Kept No w wr) := hkr
            clear hC0 hkr
            go_upto_region 6 with fail
            refine WL.start ?_
            refine tK (.pointer (some ⟨n, 0, none⟩)) ?_
            try simp only [pA, pB, p1, p2, p3]
            refine tK (.pointer (some ⟨n, 0, none⟩)) ?_
            try simp only [pA, pB, p1, p2, p3]
            refine tK (.pointer (some ⟨n, 0, none⟩)) ?_
            try simp only [pA, pB, p1, p2, p3]
            refine tW (.int .i64 (t.inn : Int)) (exec_load 3 _ rfl ⟨n, 0, none⟩ (by kernel_rfl) (.int .i64 (t.inn : Int)) (load_one (HB.out.cell 0) U3 rfl)) ?_
            try simp only [pA, pB, p1, p2, p3]
            refine tW (.bool true) (exec_bin .eql 3 _ _ _ rfl (.int .i64 (t.inn : Int)) (.int .i64 1) (.bool true) (by kernel_rfl) (by kernel_rfl) (by kernel_rfl) (by rw [b_eq3, he1])) ?_
            try simp only [pA, pB, p1, p2, p3]
            refine WL.nil ?_
            try simp only [pA, pB, p1, p2, p3]
            go_upto_region 7 with fail
            refine WL.start ?_
            refine tK (.pointer (some ⟨n, 0, none⟩)) ?_
            try simp only [pA, pB, p1, p2, p3]
            refine wp_callW 21 #[.pointer (some ⟨n, 0, none⟩), .int .i64 0] (by kernel_rfl) _ (ends_any (n + 1) n t 0 wr ⟨_, _, _, _, by rw [hbad]; exact HB.out, HW.out, HY.out, HL.out⟩ HSz.out.1 HSz.out.2) (by kernel_rfl) ?_
            rintro e W9 ⟨rfl, hc9, hk9⟩
            have HCe : Hid (RdA (n + 1) W9 n (endS t 0)) := hc9
            have HKe : Hid (Kept No w W9) := HK.out.trans hk9 (fun _ e => e) (fun j hj e => by have := HN.out; rcases e with rfl | e <;> omega)
            clear hc9 hk9
            refine ⟨.tuple #[], rfl, ?_⟩
            try simp only [pA, pB, p1, p2, p3]
            refine WL.nil ?_
            try simp only [pA, pB, p1, p2, p3]
            obtain ⟨wa9, wc9, ba9, bc9, hC9⟩ := HCe.out
            have HB : Hid (Box W9 n 46 #[.int .i64 0, .slice ba9 0 bc9, .slice wa9 (t.ws ++ [t.word]).length wc9, .int .i64 t.dg, .bool true]) := by rw [← hbad]; exact hC9.box
            have HW : Hid (Own 9 1 W9 (n + 1) wa9 wc9 (t.ws ++ [t.word]).length ((t.ws ++ [t.word]).map strV)) := hC9.hw
            have HK : Hid (Kept No w W9) := HKe.out
            clear hC9
            go_upto_region 8 with fail
            refine WL.start ?_
            refine tK (.pointer (some ⟨n, 0, none⟩)) ?_
            try simp only [pA, pB, p1, p2, p3]
            refine tK (.pointer (some ⟨n, 0, none⟩)) ?_
            try simp only [pA, pB, p1, p2, p3]
            refine tK (.pointer (some ⟨n, 4, none⟩)) ?_
            try simp only [pA, pB, p1, p2, p3]
            refine tW (.bool true) (exec_load 4 _ rfl ⟨n, 4, none⟩ (by kernel_rfl) (.bool true) (load_one (HB.out.cell 4) U4 rfl)) ?_
            try simp only [pA, pB, p1, p2, p3]
            refine tK (.bool true) ?_
            try simp only [pA, pB, p1, p2, p3]
            refine sK ?_
            try simp only [pA, pB, p1, p2, p3]
            refine sK ?_
            try simp only [pA, pB, p1, p2, p3]
            refine sK ?_
            try simp only [pA, pB, p1, p2, p3]
            refine sK ?_
            try simp only [pA, pB, p1, p2, p3]
            refine sK ?_
            try simp only [pA, pB, p1, p2, p3]
            refine sK ?_
            try simp only [pA, pB, p1, p2, p3]
            refine sK ?_
            try simp only [pA, pB, p1, p2, p3]
            refine sK ?_
            try simp only [pA, pB, p1, p2, p3]
            refine sK ?_
            try simp only [pA, pB, p1, p2, p3]
            refine sK ?_
            try simp only [pA, pB, p1, p2, p3]
            refine sK ?_
            try simp only [pA, pB, p1, p2, p3]
            refine sK ?_
            try simp only [pA, pB, p1, p2, p3]
            refine tK (.bool true) ?_
            try simp only [pA, pB, p1, p2, p3]
            refine WL.nil ?_
            try simp only [pA, pB, p1, p2, p3]
            go_upto_region 9 with fail
            refine WL.start ?_
            refine tK (.slice none 0 0) ?_
            try simp only [pA, pB, p1, p2, p3]
            refine tK (.int .i64 200) ?_
            try simp only [pA, pB, p1, p2, p3]
            refine WL.nil ?_
            try simp only [pA, pB, p1, p2, p3]
            go_wp2
            rw [HC.out]
            exact ⟨by rw [show wordsOf l = none from by unfold wordsOf; rw [HT.out, if_pos (Or.inl hbad)]]; rfl, HK.out⟩
        · skip
          have he1 : ((t.inn : Int) == 1) = false := by simp; omega
          cases hbad : t.bad with
          | false =>
            by_cases h2 : 2 ≤ t.inn
            · by_cases h5 : t.inn ≤ 5
              · skip
                have hg2 : (2 : Int) ≤ (t.inn : Int) := by omega
                have hg5 : (t.inn : Int) ≤ 5 := by omega
                obtain ⟨wa, wc, ba, bc, hC0⟩ := hA
                have HB : Hid (Box wr n 46 #[.int .i64 (t.inn : Int), .slice ba t.word.length bc, .slice wa t.ws.length wc, .int .i64 t.dg, .bool false]) := by rw [← hbad]; exact hC0.box
                have HW : Hid (Own 9 1 wr (n + 1) wa wc t.ws.length (t.ws.map strV)) := hC0.hw
                have HY : Hid (Own 5 1 wr (n + 1) ba bc t.word.length (t.word.map u8V)) := hC0.hb
                have HL : Hid (n + 1 ≤ wr.heap.size) := hC0.hn
                have HK : Hid (Kept No w wr) := hkr
                clear hC0 hkr
                go_upto_region 6 with fail
                refine WL.start ?_
                refine tK (.pointer (some ⟨n, 0, none⟩)) ?_
                try simp only [pA, pB, p1, p2, p3]
                refine tK (.pointer (some ⟨n, 0, none⟩)) ?_
                try simp only [pA, pB, p1, p2, p3]
                refine tK (.pointer (some ⟨n, 0, none⟩)) ?_
                try simp only [pA, pB, p1, p2, p3]
                refine tW (.int .i64 (t.inn : Int)) (exec_load 3 _ rfl ⟨n, 0, none⟩ (by kernel_rfl) (.int .i64 (t.inn : Int)) (load_one (HB.out.cell 0) U3 rfl)) ?_
                try simp only [pA, pB, p1, p2, p3]
                refine tW (.bool false) (exec_bin .eql 3 _ _ _ rfl (.int .i64 (t.inn : Int)) (.int .i64 1) (.bool false) (by kernel_rfl) (by kernel_rfl) (by kernel_rfl) (by rw [b_eq3, he1])) ?_
                try simp only [pA, pB, p1, p2, p3]
                refine WL.nil ?_
                try simp only [pA, pB, p1, p2, p3]
                go_upto_region 8 with fail
                refine WL.start ?_
                refine tK (.pointer (some ⟨n, 0, none⟩)) ?_
                try simp only [pA, pB, p1, p2, p3]
                refine tK (.pointer (some ⟨n, 0, none⟩)) ?_
                try simp only [pA, pB, p1, p2, p3]
                refine tK (.pointer (some ⟨n, 4, none⟩)) ?_
                try simp only [pA, pB, p1, p2, p3]
                refine tW (.bool false) (exec_load 4 _ rfl ⟨n, 4, none⟩ (by kernel_rfl) (.bool false) (load_one (HB.out.cell 4) U4 rfl)) ?_
                try simp only [pA, pB, p1, p2, p3]
                refine tK (.bool false) ?_
                try simp only [pA, pB, p1, p2, p3]
                refine tK (.pointer (some ⟨n, 0, none⟩)) ?_
                try simp only [pA, pB, p1, p2, p3]
                refine tK (.pointer (some ⟨n, 0, none⟩)) ?_
                try simp only [pA, pB, p1, p2, p3]
                refine tK (.pointer (some ⟨n, 0, none⟩)) ?_
                try simp only [pA, pB, p1, p2, p3]
                refine tW (.int .i64 (t.inn : Int)) (exec_load 3 _ rfl ⟨n, 0, none⟩ (by kernel_rfl) (.int .i64 (t.inn : Int)) (load_one (HB.out.cell 0) U3 rfl)) ?_
                try simp only [pA, pB, p1, p2, p3]
                refine tW (.bool true) (exec_bin .geq 3 _ _ _ rfl (.int .i64 (t.inn : Int)) (.int .i64 2) (.bool true) (by kernel_rfl) (by kernel_rfl) (by kernel_rfl) (by rw [b_geq, decide_eq_true hg2])) ?_
                try simp only [pA, pB, p1, p2, p3]
                refine tK (.bool true) ?_
                try simp only [pA, pB, p1, p2, p3]
                refine tK (.pointer (some ⟨n, 0, none⟩)) ?_
                try simp only [pA, pB, p1, p2, p3]
                refine tK (.pointer (some ⟨n, 0, none⟩)) ?_
                try simp only [pA, pB, p1, p2, p3]
                refine tK (.pointer (some ⟨n, 0, none⟩)) ?_
                try simp only [pA, pB, p1, p2, p3]
                refine tW (.int .i64 (t.inn : Int)) (exec_load 3 _ rfl ⟨n, 0, none⟩ (by kernel_rfl) (.int .i64 (t.inn : Int)) (load_one (HB.out.cell 0) U3 rfl)) ?_
                try simp only [pA, pB, p1, p2, p3]
                refine tW (.bool true) (exec_bin .leq 3 _ _ _ rfl (.int .i64 (t.inn : Int)) (.int .i64 5) (.bool true) (by kernel_rfl) (by kernel_rfl) (by kernel_rfl) (by rw [b_leq, decide_eq_true hg5])) ?_
                try simp only [pA, pB, p1, p2, p3]
                refine tK (.bool true) ?_
                try simp only [pA, pB, p1, p2, p3]
                refine tK (.bool true) ?_
                try simp only [pA, pB, p1, p2, p3]
                refine WL.nil ?_
                try simp only [pA, pB, p1, p2, p3]
                go_upto_region 9 with fail
                refine WL.start ?_
                refine tK (.slice none 0 0) ?_
                try simp only [pA, pB, p1, p2, p3]
                refine tK (.int .i64 200) ?_
                try simp only [pA, pB, p1, p2, p3]
                refine WL.nil ?_
                try simp only [pA, pB, p1, p2, p3]
                go_wp2
                rw [HC.out]
                exact ⟨by rw [show wordsOf l = none from by unfold wordsOf; rw [HT.out, if_pos (Or.inr ⟨by omega, by omega⟩)]]; rfl, HK.out⟩
              · skip
                have hg2 : (2 : Int) ≤ (t.inn : Int) := by omega
                have hg5 : ¬ (t.inn : Int) ≤ 5 := by omega
                obtain ⟨wa, wc, ba, bc, hC0⟩ := hA
                have HB : Hid (Box wr n 46 #[.int .i64 (t.inn : Int), .slice ba t.word.length bc, .slice wa t.ws.length wc, .int .i64 t.dg, .bool false]) := by rw [← hbad]; exact hC0.box
                have HW : Hid (Own 9 1 wr (n + 1) wa wc t.ws.length (t.ws.map strV)) := hC0.hw
                have HY : Hid (Own 5 1 wr (n + 1) ba bc t.word.length (t.word.map u8V)) := hC0.hb
                have HL : Hid (n + 1 ≤ wr.heap.size) := hC0.hn
                have HK : Hid (Kept No w wr) := hkr
                clear hC0 hkr
                go_upto_region 6 with fail
                refine WL.start ?_
                refine tK (.pointer (some ⟨n, 0, none⟩)) ?_
                try simp only [pA, pB, p1, p2, p3]
                refine tK (.pointer (some ⟨n, 0, none⟩)) ?_
                try simp only [pA, pB, p1, p2, p3]
                refine tK (.pointer (some ⟨n, 0, none⟩)) ?_
                try simp only [pA, pB, p1, p2, p3]
                refine tW (.int .i64 (t.inn : Int)) (exec_load 3 _ rfl ⟨n, 0, none⟩ (by kernel_rfl) (.int .i64 (t.inn : Int)) (load_one (HB.out.cell 0) U3 rfl)) ?_
                try simp only [pA, pB, p1, p2, p3]
                refine tW (.bool false) (exec_bin .eql 3 _ _ _ rfl (.int .i64 (t.inn : Int)) (.int .i64 1) (.bool false) (by kernel_rfl) (by kernel_rfl) (by kernel_rfl) (by rw [b_eq3, he1])) ?_
                try simp only [pA, pB, p1, p2, p3]
                refine WL.nil ?_
                try simp only [pA, pB, p1, p2, p3]
                go_upto_region 8 with fail
                refine WL.start ?_
                refine tK (.pointer (some ⟨n, 0, none⟩)) ?_
                try simp only [pA, pB, p1, p2, p3]
                refine tK (.pointer (some ⟨n, 0, none⟩)) ?_
                try simp only [pA, pB, p1, p2, p3]
                refine tK (.pointer (some ⟨n, 4, none⟩)) ?_
                try simp only [pA, pB, p1, p2, p3]
                refine tW (.bool false) (exec_load 4 _ rfl ⟨n, 4, none⟩ (by kernel_rfl) (.bool false) (load_one (HB.out.cell 4) U4 rfl)) ?_
                try simp only [pA, pB, p1, p2, p3]
                refine tK (.bool false) ?_
                try simp only [pA, pB, p1, p2, p3]
                refine tK (.pointer (some ⟨n, 0, none⟩)) ?_
                try simp only [pA, pB, p1, p2, p3]
                refine tK (.pointer (some ⟨n, 0, none⟩)) ?_
                try simp only [pA, pB, p1, p2, p3]
                refine tK (.pointer (some ⟨n, 0, none⟩)) ?_
                try simp only [pA, pB, p1, p2, p3]
                refine tW (.int .i64 (t.inn : Int)) (exec_load 3 _ rfl ⟨n, 0, none⟩ (by kernel_rfl) (.int .i64 (t.inn : Int)) (load_one (HB.out.cell 0) U3 rfl)) ?_
                try simp only [pA, pB, p1, p2, p3]
                refine tW (.bool true) (exec_bin .geq 3 _ _ _ rfl (.int .i64 (t.inn : Int)) (.int .i64 2) (.bool true) (by kernel_rfl) (by kernel_rfl) (by kernel_rfl) (by rw [b_geq, decide_eq_true hg2])) ?_
                try simp only [pA, pB, p1, p2, p3]
                refine tK (.bool true) ?_
                try simp only [pA, pB, p1, p2, p3]
                refine tK (.pointer (some ⟨n, 0, none⟩)) ?_
                try simp only [pA, pB, p1, p2, p3]
                refine tK (.pointer (some ⟨n, 0, none⟩)) ?_
                try simp only [pA, pB, p1, p2, p3]
                refine tK (.pointer (some ⟨n, 0, none⟩)) ?_
                try simp only [pA, pB, p1, p2, p3]
                refine tW (.int .i64 (t.inn : Int)) (exec_load 3 _ rfl ⟨n, 0, none⟩ (by kernel_rfl) (.int .i64 (t.inn : Int)) (load_one (HB.out.cell 0) U3 rfl)) ?_
                try simp only [pA, pB, p1, p2, p3]
                refine tW (.bool false) (exec_bin .leq 3 _ _ _ rfl (.int .i64 (t.inn : Int)) (.int .i64 5) (.bool false) (by kernel_rfl) (by kernel_rfl) (by kernel_rfl) (by rw [b_leq, decide_eq_false hg5])) ?_
                try simp only [pA, pB, p1, p2, p3]
                refine tK (.bool false) ?_
                try simp only [pA, pB, p1, p2, p3]
                refine tK (.bool false) ?_
                try simp only [pA, pB, p1, p2, p3]
                refine WL.nil ?_
                try simp only [pA, pB, p1, p2, p3]
                go_upto_region 10 with fail
                refine WL.start ?_
                refine tK (.pointer (some ⟨n, 0, none⟩)) ?_
                try simp only [pA, pB, p1, p2, p3]
                refine tK (.pointer (some ⟨n, 0, none⟩)) ?_
                try simp only [pA, pB, p1, p2, p3]
                refine tK (.pointer (some ⟨n, 2, none⟩)) ?_
                try simp only [pA, pB, p1, p2, p3]
                refine tW (.slice wa t.ws.length wc) (exec_load 22 _ rfl ⟨n, 2, none⟩ (by kernel_rfl) (.slice wa t.ws.length wc) (load_one (HB.out.cell 2) U22 rfl)) ?_
                try simp only [pA, pB, p1, p2, p3]
                refine tK (.slice wa t.ws.length wc) ?_
                try simp only [pA, pB, p1, p2, p3]
                refine tK (.int .i64 0) ?_
                try simp only [pA, pB, p1, p2, p3]
                refine WL.nil ?_
                try simp only [pA, pB, p1, p2, p3]
                go_wp2
                rw [HC.out]
                exact ⟨by rw [show wordsOf l = some (t.ws) from by unfold wordsOf; rw [HT.out, if_neg (by rw [hbad]; rintro (e | e); cases e; omega), if_neg hin1]]; exact ⟨_, _, rfl, Own.lower HW.out (by have := HN.out; omega)⟩, HK.out⟩
            · skip
              have hg2 : ¬ (2 : Int) ≤ (t.inn : Int) := by omega
              obtain ⟨wa, wc, ba, bc, hC0⟩ := hA
              have HB : Hid (Box wr n 46 #[.int .i64 (t.inn : Int), .slice ba t.word.length bc, .slice wa t.ws.length wc, .int .i64 t.dg, .bool false]) := by rw [← hbad]; exact hC0.box
              have HW : Hid (Own 9 1 wr (n + 1) wa wc t.ws.length (t.ws.map strV)) := hC0.hw
              have HY : Hid (Own 5 1 wr (n + 1) ba bc t.word.length (t.word.map u8V)) := hC0.hb
              have HL : Hid (n + 1 ≤ wr.heap.size) := hC0.hn
              have HK : Hid (Kept No w wr) := hkr
              clear hC0 hkr
              go_upto_region 6 with fail
              refine WL.start ?_
              refine tK (.pointer (some ⟨n, 0, none⟩)) ?_
              try simp only [pA, pB, p1, p2, p3]
              refine tK (.pointer (some ⟨n, 0, none⟩)) ?_
              try simp only [pA, pB, p1, p2, p3]
              refine tK (.pointer (some ⟨n, 0, none⟩)) ?_
              try simp only [pA, pB, p1, p2, p3]
              refine tW (.int .i64 (t.inn : Int)) (exec_load 3 _ rfl ⟨n, 0, none⟩ (by kernel_rfl) (.int .i64 (t.inn : Int)) (load_one (HB.out.cell 0) U3 rfl)) ?_
              try simp only [pA, pB, p1, p2, p3]
              refine tW (.bool false) (exec_bin .eql 3 _ _ _ rfl (.int .i64 (t.inn : Int)) (.int .i64 1) (.bool false) (by kernel_rfl) (by kernel_rfl) (by kernel_rfl) (by rw [b_eq3, he1])) ?_
              try simp only [pA, pB, p1, p2, p3]
              refine WL.nil ?_
              try simp only [pA, pB, p1, p2, p3]
              go_upto_region 8 with fail
              refine WL.start ?_
              refine tK (.pointer (some ⟨n, 0, none⟩)) ?_
              try simp only [pA, pB, p1, p2, p3]
              refine tK (.pointer (some ⟨n, 0, none⟩)) ?_
              try simp only [pA, pB, p1, p2, p3]
              refine tK (.pointer (some ⟨n, 4, none⟩)) ?_
              try simp only [pA, pB, p1, p2, p3]
              refine tW (.bool false) (exec_load 4 _ rfl ⟨n, 4, none⟩ (by kernel_rfl) (.bool false) (load_one (HB.out.cell 4) U4 rfl)) ?_
              try simp only [pA, pB, p1, p2, p3]
              refine tK (.bool false) ?_
              try simp only [pA, pB, p1, p2, p3]
              refine tK (.pointer (some ⟨n, 0, none⟩)) ?_
              try simp only [pA, pB, p1, p2, p3]
              refine tK (.pointer (some ⟨n, 0, none⟩)) ?_
              try simp only [pA, pB, p1, p2, p3]
              refine tK (.pointer (some ⟨n, 0, none⟩)) ?_
              try simp only [pA, pB, p1, p2, p3]
              refine tW (.int .i64 (t.inn : Int)) (exec_load 3 _ rfl ⟨n, 0, none⟩ (by kernel_rfl) (.int .i64 (t.inn : Int)) (load_one (HB.out.cell 0) U3 rfl)) ?_
              try simp only [pA, pB, p1, p2, p3]
              refine tW (.bool false) (exec_bin .geq 3 _ _ _ rfl (.int .i64 (t.inn : Int)) (.int .i64 2) (.bool false) (by kernel_rfl) (by kernel_rfl) (by kernel_rfl) (by rw [b_geq, decide_eq_false hg2])) ?_
              try simp only [pA, pB, p1, p2, p3]
              refine tK (.bool false) ?_
              try simp only [pA, pB, p1, p2, p3]
              refine sK ?_
              try simp only [pA, pB, p1, p2, p3]
              refine sK ?_
              try simp only [pA, pB, p1, p2, p3]
              refine sK ?_
              try simp only [pA, pB, p1, p2, p3]
              refine sK ?_
              try simp only [pA, pB, p1, p2, p3]
              refine sK ?_
              try simp only [pA, pB, p1, p2, p3]
              refine tK (.bool false) ?_
              try simp only [pA, pB, p1, p2, p3]
              refine tK (.bool false) ?_
              try simp only [pA, pB, p1, p2, p3]
              refine WL.nil ?_
              try simp only [pA, pB, p1, p2, p3]
              go_upto_region 10 with fail
              refine WL.start ?_
              refine tK (.pointer (some ⟨n, 0, none⟩)) ?_
              try simp only [pA, pB, p1, p2, p3]
              refine tK (.pointer (some ⟨n, 0, none⟩)) ?_
              try simp only [pA, pB, p1, p2, p3]
              refine tK (.pointer (some ⟨n, 2, none⟩)) ?_
              try simp only [pA, pB, p1, p2, p3]
              refine tW (.slice wa t.ws.length wc) (exec_load 22 _ rfl ⟨n, 2, none⟩ (by kernel_rfl) (.slice wa t.ws.length wc) (load_one (HB.out.cell 2) U22 rfl)) ?_
              try simp only [pA, pB, p1, p2, p3]
              refine tK (.slice wa t.ws.length wc) ?_
              try simp only [pA, pB, p1, p2, p3]
              refine tK (.int .i64 0) ?_
              try simp only [pA, pB, p1, p2, p3]
              refine WL.nil ?_
              try simp only [pA, pB, p1, p2, p3]
              go_wp2
              rw [HC.out]
              exact ⟨by rw [show wordsOf l = some (t.ws) from by unfold wordsOf; rw [HT.out, if_neg (by rw [hbad]; rintro (e | e); cases e; omega), if_neg hin1]]; exact ⟨_, _, rfl, Own.lower HW.out (by have := HN.out; omega)⟩, HK.out⟩
          | true =>
            obtain ⟨wa, wc, ba, bc, hC0⟩ := hA
            have HB : Hid (Box wr n 46 #[.int .i64 (t.inn : Int), .slice ba t.word.length bc, .slice wa t.ws.length wc, .int .i64 t.dg, .bool true]) := by rw [← hbad]; exact hC0.box
            have HW : Hid (Own 9 1 wr (n + 1) wa wc t.ws.length (t.ws.map strV)) := hC0.hw
            have HY : Hid (Own 5 1 wr (n + 1) ba bc t.word.length (t.word.map u8V)) := hC0.hb
            have HL : Hid (n + 1 ≤ wr.heap.size) := hC0.hn
            have HK : Hid (Kept No w wr) := hkr
            clear hC0 hkr
            go_upto_region 6 with fail
            refine WL.start ?_
            refine tK (.pointer (some ⟨n, 0, none⟩)) ?_
            try simp only [pA, pB, p1, p2, p3]
            refine tK (.pointer (some ⟨n, 0, none⟩)) ?_
            try simp only [pA, pB, p1, p2, p3]
            refine tK (.pointer (some ⟨n, 0, none⟩)) ?_
            try simp only [pA, pB, p1, p2, p3]
            refine tW (.int .i64 (t.inn : Int)) (exec_load 3 _ rfl ⟨n, 0, none⟩ (by kernel_rfl) (.int .i64 (t.inn : Int)) (load_one (HB.out.cell 0) U3 rfl)) ?_
            try simp only [pA, pB, p1, p2, p3]
            refine tW (.bool false) (exec_bin .eql 3 _ _ _ rfl (.int .i64 (t.inn : Int)) (.int .i64 1) (.bool false) (by kernel_rfl) (by kernel_rfl) (by kernel_rfl) (by rw [b_eq3, he1])) ?_
            try simp only [pA, pB, p1, p2, p3]
            refine WL.nil ?_
            try simp only [pA, pB, p1, p2, p3]
            go_upto_region 8 with fail
            refine WL.start ?_
            refine tK (.pointer (some ⟨n, 0, none⟩)) ?_
            try simp only [pA, pB, p1, p2, p3]
            refine tK (.pointer (some ⟨n, 0, none⟩)) ?_
            try simp only [pA, pB, p1, p2, p3]
            refine tK (.pointer (some ⟨n, 4, none⟩)) ?_
            try simp only [pA, pB, p1, p2, p3]
            refine tW (.bool true) (exec_load 4 _ rfl ⟨n, 4, none⟩ (by kernel_rfl) (.bool true) (load_one (HB.out.cell 4) U4 rfl)) ?_
            try simp only [pA, pB, p1, p2, p3]
            refine tK (.bool true) ?_
            try simp only [pA, pB, p1, p2, p3]
            refine sK ?_
            try simp only [pA, pB, p1, p2, p3]
            refine sK ?_
            try simp only [pA, pB, p1, p2, p3]
            refine sK ?_
            try simp only [pA, pB, p1, p2, p3]
            refine sK ?_
            try simp only [pA, pB, p1, p2, p3]
            refine sK ?_
            try simp only [pA, pB, p1, p2, p3]
            refine sK ?_
            try simp only [pA, pB, p1, p2, p3]
            refine sK ?_
            try simp only [pA, pB, p1, p2, p3]
            refine sK ?_
            try simp only [pA, pB, p1, p2, p3]
            refine sK ?_
            try simp only [pA, pB, p1, p2, p3]
            refine sK ?_
            try simp only [pA, pB, p1, p2, p3]
            refine sK ?_
            try simp only [pA, pB, p1, p2, p3]
            refine sK ?_
            try simp only [pA, pB, p1, p2, p3]
            refine tK (.bool true) ?_
            try simp only [pA, pB, p1, p2, p3]
            refine WL.nil ?_
            try simp only [pA, pB, p1, p2, p3]
            go_upto_region 9 with fail
            refine WL.start ?_
            refine tK (.slice none 0 0) ?_
            try simp only [pA, pB, p1, p2, p3]
            refine tK (.int .i64 200) ?_
            try simp only [pA, pB, p1, p2, p3]
            refine WL.nil ?_
            try simp only [pA, pB, p1, p2, p3]
            go_wp2
            rw [HC.out]
            exact ⟨by rw [show wordsOf l = none from by unfold wordsOf; rw [HT.out, if_pos (Or.inl hbad)]]; rfl, HK.out⟩
    · have hcm : ¬ ((i : Nat) : Int) < ((l.length : Nat) : Int) := by omega
      have hE := runS_end hil (Or.inl (by omega))
      have HT : Hid (runS s0 l = runS s0 (l.take i)) := hE
      have HSz : Hid ((runS s0 (l.take i)).ws.length ≤ 1000000000000 ∧ (runS s0 (l.take i)).word.length ≤ 1000000000000) := by have h1 := hri.len; have h2 := HLl.out; exact ⟨by omega, by omega⟩
      clear hri hE hil HJ
      generalize runS s0 (l.take i) = t at hA HT HSz 
      go_upto_region 3 with fail
      refine WL.start ?_
      refine tK (.int .i64 ((i : Nat) : Int)) ?_
      try simp only [pA, pB, p1, p2, p3]
      refine tK (.string (bs l)) ?_
      try simp only [pA, pB, p1, p2, p3]
      refine tK (.int .i64 ((l.length : Nat) : Int)) ?_
      try simp only [pA, pB, p1, p2, p3]
      refine tW (.bool false) (exec_bin .lss 3 _ _ _ rfl (.int .i64 ((i : Nat) : Int)) (.int .i64 ((l.length : Nat) : Int)) (.bool false) (by kernel_rfl) (by kernel_rfl) (by kernel_rfl) (by rw [b_lss, decide_eq_false hcm])) ?_
      try simp only [pA, pB, p1, p2, p3]
      refine tK (.bool false) ?_
      try simp only [pA, pB, p1, p2, p3]
      refine sK ?_
      try simp only [pA, pB, p1, p2, p3]
      refine sK ?_
      try simp only [pA, pB, p1, p2, p3]
      refine sK ?_
      try simp only [pA, pB, p1, p2, p3]
      refine sK ?_
      try simp only [pA, pB, p1, p2, p3]
      refine sK ?_
      try simp only [pA, pB, p1, p2, p3]
      refine tK (.bool false) ?_
      try simp only [pA, pB, p1, p2, p3]
      refine WL.nil ?_
      try simp only [pA, pB, p1, p2, p3]
      clear hcm hp
      by_cases hin1 : t.inn = 1
      · skip
        have he1 : ((t.inn : Int) == 1) = true := by simp; exact_mod_cast hin1
        cases hbad : t.bad with
        | false =>
          obtain ⟨wa, wc, ba, bc, hC0⟩ := hA
          have HB : Hid (Box wr n 46 #[.int .i64 (t.inn : Int), .slice ba t.word.length bc, .slice wa t.ws.length wc, .int .i64 t.dg, .bool false]) := by rw [← hbad]; exact hC0.box
          have HW : Hid (Own 9 1 wr (n + 1) wa wc t.ws.length (t.ws.map strV)) := hC0.hw
          have HY : Hid (Own 5 1 wr (n + 1) ba bc t.word.length (t.word.map u8V)) := hC0.hb
          have HL : Hid (n + 1 ≤ wr.heap.size) := hC0.hn
          have HK : Hid (Kept No w wr) := hkr
          clear hC0 hkr
          go_upto_region 6 with fail
          refine WL.start ?_
          refine tK (.pointer (some ⟨n, 0, none⟩)) ?_
          try simp only [pA, pB, p1, p2, p3]
          refine tK (.pointer (some ⟨n, 0, none⟩)) ?_
          try simp only [pA, pB, p1, p2, p3]
          refine tK (.pointer (some ⟨n, 0, none⟩)) ?_
          try simp only [pA, pB, p1, p2, p3]
          refine tW (.int .i64 (t.inn : Int)) (exec_load 3 _ rfl ⟨n, 0, none⟩ (by kernel_rfl) (.int .i64 (t.inn : Int)) (load_one (HB.out.cell 0) U3 rfl)) ?_
          try simp only [pA, pB, p1, p2, p3]
          refine tW (.bool true) (exec_bin .eql 3 _ _ _ rfl (.int .i64 (t.inn : Int)) (.int .i64 1) (.bool true) (by kernel_rfl) (by kernel_rfl) (by kernel_rfl) (by rw [b_eq3, he1])) ?_
          try simp only [pA, pB, p1, p2, p3]
          refine WL.nil ?_
          try simp only [pA, pB, p1, p2, p3]
          go_upto_region 7 with fail
          refine WL.start ?_
          refine tK (.pointer (some ⟨n, 0, none⟩)) ?_
          try simp only [pA, pB, p1, p2, p3]
          refine wp_callW 21 #[.pointer (some ⟨n, 0, none⟩), .int .i64 0] (by kernel_rfl) _ (ends_any (n + 1) n t 0 wr ⟨_, _, _, _, by rw [hbad]; exact HB.out, HW.out, HY.out, HL.out⟩ HSz.out.1 HSz.out.2) (by kernel_rfl) ?_
          rintro e W9 ⟨rfl, hc9, hk9⟩
          have HCe : Hid (RdA (n + 1) W9 n (endS t 0)) := hc9
          have HKe : Hid (Kept No w W9) := HK.out.trans hk9 (fun _ e => e) (fun j hj e => by have := HN.out; rcases e with rfl | e <;> omega)
          clear hc9 hk9
          refine ⟨.tuple #[], rfl, ?_⟩
          try simp only [pA, pB, p1, p2, p3]
          refine WL.nil ?_
          try simp only [pA, pB, p1, p2, p3]
          obtain ⟨wa9, wc9, ba9, bc9, hC9⟩ := HCe.out
          have HB : Hid (Box W9 n 46 #[.int .i64 0, .slice ba9 0 bc9, .slice wa9 (t.ws ++ [t.word]).length wc9, .int .i64 t.dg, .bool false]) := by rw [← hbad]; exact hC9.box
          have HW : Hid (Own 9 1 W9 (n + 1) wa9 wc9 (t.ws ++ [t.word]).length ((t.ws ++ [t.word]).map strV)) := hC9.hw
          have HK : Hid (Kept No w W9) := HKe.out
          clear hC9
          go_upto_region 8 with fail
          refine WL.start ?_
          refine tK (.pointer (some ⟨n, 0, none⟩)) ?_
          try simp only [pA, pB, p1, p2, p3]
          refine tK (.pointer (some ⟨n, 0, none⟩)) ?_
          try simp only [pA, pB, p1, p2, p3]
          refine tK (.pointer (some ⟨n, 4, none⟩)) ?_
          try simp only [pA, pB, p1, p2, p3]
          refine tW (.bool false) (exec_load 4 _ rfl ⟨n, 4, none⟩ (by kernel_rfl) (.bool false) (load_one (HB.out.cell 4) U4 rfl)) ?_
          try simp only [pA, pB, p1, p2, p3]
          refine tK (.bool false) ?_
          try simp only [pA, pB, p1, p2, p3]
          refine tK (.pointer (some ⟨n, 0, none⟩)) ?_
          try simp only [pA, pB, p1, p2, p3]
          refine tK (.pointer (some ⟨n, 0, none⟩)) ?_
          try simp only [pA, pB, p1, p2, p3]
          refine tK (.pointer (some ⟨n, 0, none⟩)) ?_
          try simp only [pA, pB, p1, p2, p3]
          refine tW (.int .i64 0) (exec_load 3 _ rfl ⟨n, 0, none⟩ (by kernel_rfl) (.int .i64 0) (load_one (HB.out.cell 0) U3 rfl)) ?_
          try simp only [pA, pB, p1, p2, p3]
          refine tW (.bool false) (exec_bin .geq 3 _ _ _ rfl (.int .i64 0) (.int .i64 2) (.bool false) (by kernel_rfl) (by kernel_rfl) (by kernel_rfl) (by rw [b_geq, decide_eq_false (by decide)])) ?_
          try simp only [pA, pB, p1, p2, p3]
          refine tK (.bool false) ?_
          try simp only [pA, pB, p1, p2, p3]
          refine sK ?_
          try simp only [pA, pB, p1, p2, p3]
          refine sK ?_
          try simp only [pA, pB, p1, p2, p3]
          refine sK ?_
          try simp only [pA, pB, p1, p2, p3]
          refine sK ?_
          try simp only [pA, pB, p1, p2, p3]
          refine sK ?_
          try simp only [pA, pB, p1, p2, p3]
          refine tK (.bool false) ?_
          try simp only [pA, pB, p1, p2, p3]
          refine tK (.bool false) ?_
          try simp only [pA, pB, p1, p2, p3]
          refine WL.nil ?_
          try simp only [pA, pB, p1, p2, p3]
          go_upto_region 10 with fail
          refine WL.start ?_
          refine tK (.pointer (some ⟨n, 0, none⟩)) ?_
          try simp only [pA, pB, p1, p2, p3]
          refine tK (.pointer (some ⟨n, 0, none⟩)) ?_
          try simp only [pA, pB, p1, p2, p3]
          refine tK (.pointer (some ⟨n, 2, none⟩)) ?_
          try simp only [pA, pB, p1, p2, p3]
          refine tW (.slice wa9 (t.ws ++ [t.word]).length wc9) (exec_load 22 _ rfl ⟨n, 2, none⟩ (by kernel_rfl) (.slice wa9 (t.ws ++ [t.word]).length wc9) (load_one (HB.out.cell 2) U22 rfl)) ?_
          try simp only [pA, pB, p1, p2, p3]
          refine tK (.slice wa9 (t.ws ++ [t.word]).length wc9) ?_
          try simp only [pA, pB, p1, p2, p3]
          refine tK (.int .i64 0) ?_
          try simp only [pA, pB, p1, p2, p3]
          refine WL.nil ?_
          try simp only [pA, pB, p1, p2, p3]
          go_wp2
          rw [HC.out]
          exact ⟨by rw [show wordsOf l = some (t.ws ++ [t.word]) from by unfold wordsOf; rw [HT.out, if_neg (by rw [hbad]; rintro (e | e); cases e; omega), if_pos hin1]]; exact ⟨_, _, rfl, Own.lower HW.out (by have := HN.out; omega)⟩, HK.out⟩
        | true =>
          obtain ⟨wa, wc, ba, bc, hC0⟩ := hA
          have HB : Hid (Box wr n 46 #[.int .i64 (t.inn : Int), .slice ba t.word.length bc, .slice wa t.ws.length wc, .int .i64 t.dg, .bool true]) := by rw [← hbad]; exact hC0.box
          have HW : Hid (Own 9 1 wr (n + 1) wa wc t.ws.length (t.ws.map strV)) := hC0.hw
          have HY : Hid (Own 5 1 wr (n + 1) ba bc t.word.length (t.word.map u8V)) := hC0.hb
          have HL : Hid (n + 1 ≤ wr.heap.size) := hC0.hn
          have HK : Hid (Kept No w wr) := hkr
          clear hC0 hkr
          go_upto_region 6 with fail
          refine WL.start ?_
          refine tK (.pointer (some ⟨n, 0, none⟩)) ?_
          try simp only [pA, pB, p1, p2, p3]
          refine tK (.pointer (some ⟨n, 0, none⟩)) ?_
          try simp only [pA, pB, p1, p2, p3]
          refine tK (.pointer (some ⟨n, 0, none⟩)) ?_
          try simp only [pA, pB, p1, p2, p3]
          refine tW (.int .i64 (t.inn : Int)) (exec_load 3 _ rfl ⟨n, 0, none⟩ (by kernel_rfl) (.int .i64 (t.inn : Int)) (load_one (HB.out.cell 0) U3 rfl)) ?_
          try simp only [pA, pB, p1, p2, p3]
          refine tW (.bool true) (exec_bin .eql 3 _ _ _ rfl (.int .i64 (t.inn : Int)) (.int .i64 1) (.bool true) (by kernel_rfl) (by kernel_rfl) (by kernel_rfl) (by rw [b_eq3, he1])) ?_
          try simp only [pA, pB, p1, p2, p3]
          refine WL.nil ?_
          try simp only [pA, pB, p1, p2, p3]
          go_upto_region 7 with fail
          refine WL.start ?_
          refine tK (.pointer (some ⟨n, 0, none⟩)) ?_
          try simp only [pA, pB, p1, p2, p3]
          refine wp_callW 21 #[.pointer (some ⟨n, 0, none⟩), .int .i64 0] (by kernel_rfl) _ (ends_any (n + 1) n t 0 wr ⟨_, _, _, _, by rw [hbad]; exact HB.out, HW.out, HY.out, HL.out⟩ HSz.out.1 HSz.out.2) (by kernel_rfl) ?_
          rintro e W9 ⟨rfl, hc9, hk9⟩
          have HCe : Hid (RdA (n + 1) W9 n (endS t 0)) := hc9
          have HKe : Hid (Kept No w W9) := HK.out.trans hk9 (fun _ e => e) (fun j hj e => by have := HN.out; rcases e with rfl | e <;> omega)
          clear hc9 hk9
          refine ⟨.tuple #[], rfl, ?_⟩
          try simp only [pA, pB, p1, p2, p3]
          refine WL.nil ?_
          try simp only [pA, pB, p1, p2, p3]
          obtain ⟨wa9, wc9, ba9, bc9, hC9⟩ := HCe.out
          have HB : Hid (Box W9 n 46 #[.int .i64 0, .slice ba9 0 bc9, .slice wa9 (t.ws ++ [t.word]).length wc9, .int .i64 t.dg, .bool true]) := by rw [← hbad]; exact hC9.box
          have HW : Hid (Own 9 1 W9 (n + 1) wa9 wc9 (t.ws ++ [t.word]).length ((t.ws ++ [t.word]).map strV)) := hC9.hw
          have HK : Hid (Kept No w W9) := HKe.out
          clear hC9
          go_upto_region 8 with fail
          refine WL.start ?_
          refine tK (.pointer (some ⟨n, 0, none⟩)) ?_
          try simp only [pA, pB, p1, p2, p3]
          refine tK (.pointer (some ⟨n, 0, none⟩)) ?_
          try simp only [pA, pB, p1, p2, p3]
          refine tK (.pointer (some ⟨n, 4, none⟩)) ?_
          try simp only [pA, pB, p1, p2, p3]
          refine tW (.bool true) (exec_load 4 _ rfl ⟨n, 4, none⟩ (by kernel_rfl) (.bool true) (load_one (HB.out.cell 4) U4 rfl)) ?_
          try simp only [pA, pB, p1, p2, p3]
          refine tK (.bool true) ?_
          try simp only [pA, pB, p1, p2, p3]
          refine sK ?_
          try simp only [pA, pB, p1, p2, p3]
          refine sK ?_
          try simp only [pA, pB, p1, p2, p3]
          refine sK ?_
          try simp only [pA, pB, p1, p2, p3]
          refine sK ?_
          try simp only [pA, pB, p1, p2, p3]
          refine sK ?_
          try simp only [pA, pB, p1, p2, p3]
          refine sK ?_
          try simp only [pA, pB, p1, p2, p3]
          refine sK ?_
          try simp only [pA, pB, p1, p2, p3]
          refine sK ?_
          try simp only [pA, pB, p1, p2, p3]
          refine sK ?_
          try simp only [pA, pB, p1, p2, p3]
          refine sK ?_
          try simp only [pA, pB, p1, p2, p3]
          refine sK ?_
          try simp only [pA, pB, p1, p2, p3]
          refine sK ?_
          try simp only [pA, pB, p1, p2, p3]
          refine tK (.bool true) ?_
          try simp only [pA, pB, p1, p2, p3]
          refine WL.nil ?_
          try simp only [pA, pB, p1, p2, p3]
          go_upto_region 9 with fail
          refine WL.start ?_
          refine tK (.slice none 0 0) ?_
          try simp only [pA, pB, p1, p2, p3]
          refine tK (.int .i64 200) ?_
          try simp only [pA, pB, p1, p2, p3]
          refine WL.nil ?_
          try simp only [pA, pB, p1, p2, p3]
          go_wp2
          rw [HC.out]
          exact ⟨by rw [show wordsOf l = none from by unfold wordsOf; rw [HT.out, if_pos (Or.inl hbad)]]; rfl, HK.out⟩
      · skip
        have he1 : ((t.inn : Int) == 1) = false := by simp; omega
        cases hbad : t.bad with
        | false =>
          by_cases h2 : 2 ≤ t.inn
          · by_cases h5 : t.inn ≤ 5
            · skip
              have hg2 : (2 : Int) ≤ (t.inn : Int) := by omega
              have hg5 : (t.inn : Int) ≤ 5 := by omega
              obtain ⟨wa, wc, ba, bc, hC0⟩ := hA
              have HB : Hid (Box wr n 46 #[.int .i64 (t.inn : Int), .slice ba t.word.length bc, .slice wa t.ws.length wc, .int .i64 t.dg, .bool false]) := by rw [← hbad]; exact hC0.box
              have HW : Hid (Own 9 1 wr (n + 1) wa wc t.ws.length (t.ws.map strV)) := hC0.hw
              have HY : Hid (Own 5 1 wr (n + 1) ba bc t.word.length (t.word.map u8V)) := hC0.hb
              have HL : Hid (n + 1 ≤ wr.heap.size) := hC0.hn
              have HK : Hid (Kept No w wr) := hkr
              clear hC0 hkr
              go_upto_region 6 with fail
              refine WL.start ?_
              refine tK (.pointer (some ⟨n, 0, none⟩)) ?_
              try simp only [pA, pB, p1, p2, p3]
              refine tK (.pointer (some ⟨n, 0, none⟩)) ?_
              try simp only [pA, pB, p1, p2, p3]
              refine tK (.pointer (some ⟨n, 0, none⟩)) ?_
              try simp only [pA, pB, p1, p2, p3]
              refine tW (.int .i64 (t.inn : Int)) (exec_load 3 _ rfl ⟨n, 0, none⟩ (by kernel_rfl) (.int .i64 (t.inn : Int)) (load_one (HB.out.cell 0) U3 rfl)) ?_
              try simp only [pA, pB, p1, p2, p3]
              refine tW (.bool false) (exec_bin .eql 3 _ _ _ rfl (.int .i64 (t.inn : Int)) (.int .i64 1) (.bool false) (by kernel_rfl) (by kernel_rfl) (by kernel_rfl) (by rw [b_eq3, he1])) ?_
              try simp only [pA, pB, p1, p2, p3]
              refine WL.nil ?_
              try simp only [pA, pB, p1, p2, p3]
              go_upto_region 8 with fail
              refine WL.start ?_
              refine tK (.pointer (some ⟨n, 0, none⟩)) ?_
              try simp only [pA, pB, p1, p2, p3]
              refine tK (.pointer (some ⟨n, 0, none⟩)) ?_
              try simp only [pA, pB, p1, p2, p3]
              refine tK (.pointer (some ⟨n, 4, none⟩)) ?_
              try simp only [pA, pB, p1, p2, p3]
              refine tW (.bool false) (exec_load 4 _ rfl ⟨n, 4, none⟩ (by kernel_rfl) (.bool false) (load_one (HB.out.cell 4) U4 rfl)) ?_
              try simp only [pA, pB, p1, p2, p3]
              refine tK (.bool false) ?_
              try simp only [pA, pB, p1, p2, p3]
              refine tK (.pointer (some ⟨n, 0, none⟩)) ?_
              try simp only [pA, pB, p1, p2, p3]
              refine tK (.pointer (some ⟨n, 0, none⟩)) ?_
              try simp only [pA, pB, p1, p2, p3]
              refine tK (.pointer (some ⟨n, 0, none⟩)) ?_
              try simp only [pA, pB, p1, p2, p3]
              refine tW (.int .i64 (t.inn : Int)) (exec_load 3 _ rfl ⟨n, 0, none⟩ (by kernel_rfl) (.int .i64 (t.inn : Int)) (load_one (HB.out.cell 0) U3 rfl)) ?_
              try simp only [pA, pB, p1, p2, p3]
              refine tW (.bool true) (exec_bin .geq 3 _ _ _ rfl (.int .i64 (t.inn : Int)) (.int .i64 2) (.bool true) (by kernel_rfl) (by kernel_rfl) (by kernel_rfl) (by rw [b_geq, decide_eq_true hg2])) ?_
              try simp only [pA, pB, p1, p2, p3]
              refine tK (.bool true) ?_
              try simp only [pA, pB, p1, p2, p3]
              refine tK (.pointer (some ⟨n, 0, none⟩)) ?_
              try simp only [pA, pB, p1, p2, p3]
              refine tK (.pointer (some ⟨n, 0, none⟩)) ?_
              try simp only [pA, pB, p1, p2, p3]
              refine tK (.pointer (some ⟨n, 0, none⟩)) ?_
              try simp only [pA, pB, p1, p2, p3]
              refine tW (.int .i64 (t.inn : Int)) (exec_load 3 _ rfl ⟨n, 0, none⟩ (by kernel_rfl) (.int .i64 (t.inn : Int)) (load_one (HB.out.cell 0) U3 rfl)) ?_
              try simp only [pA, pB, p1, p2, p3]
              refine tW (.bool true) (exec_bin .leq 3 _ _ _ rfl (.int .i64 (t.inn : Int)) (.int .i64 5) (.bool true) (by kernel_rfl) (by kernel_rfl) (by kernel_rfl) (by rw [b_leq, decide_eq_true hg5])) ?_
              try simp only [pA, pB, p1, p2, p3]
              refine tK (.bool true) ?_
              try simp only [pA, pB, p1, p2, p3]
              refine tK (.bool true) ?_
              try simp only [pA, pB, p1, p2, p3]
              refine WL.nil ?_
              try simp only [pA, pB, p1, p2, p3]
              go_upto_region 9 with fail
              refine WL.start ?_
              refine tK (.slice none 0 0) ?_
              try simp only [pA, pB, p1, p2, p3]
              refine tK (.int .i64 200) ?_
              try simp only [pA, pB, p1, p2, p3]
              refine WL.nil ?_
              try simp only [pA, pB, p1, p2, p3]
              go_wp2
              rw [HC.out]
              exact ⟨by rw [show wordsOf l = none from by unfold wordsOf; rw [HT.out, if_pos (Or.inr ⟨by omega, by omega⟩)]]; rfl, HK.out⟩
            · skip
              have hg2 : (2 : Int) ≤ (t.inn : Int) := by omega
              have hg5 : ¬ (t.inn : Int) ≤ 5 := by omega
              obtain ⟨wa, wc, ba, bc, hC0⟩ := hA
              have HB : Hid (Box wr n 46 #[.int .i64 (t.inn : Int), .slice ba t.word.length bc, .slice wa t.ws.length wc, .int .i64 t.dg, .bool false]) := by rw [← hbad]; exact hC0.box
              have HW : Hid (Own 9 1 wr (n + 1) wa wc t.ws.length (t.ws.map strV)) := hC0.hw
              have HY : Hid (Own 5 1 wr (n + 1) ba bc t.word.length (t.word.map u8V)) := hC0.hb
              have HL : Hid (n + 1 ≤ wr.heap.size) := hC0.hn
              have HK : Hid (Kept No w wr) := hkr
              clear hC0 hkr
              go_upto_region 6 with fail
              refine WL.start ?_
              refine tK (.pointer (some ⟨n, 0, none⟩)) ?_
              try simp only [pA, pB, p1, p2, p3]
              refine tK (.pointer (some ⟨n, 0, none⟩)) ?_
              try simp only [pA, pB, p1, p2, p3]
              refine tK (.pointer (some ⟨n, 0, none⟩)) ?_
              try simp only [pA, pB, p1, p2, p3]
              refine tW (.int .i64 (t.inn : Int)) (exec_load 3 _ rfl ⟨n, 0, none⟩ (by kernel_rfl) (.int .i64 (t.inn : Int)) (load_one (HB.out.cell 0) U3 rfl)) ?_
              try simp only [pA, pB, p1, p2, p3]
              refine tW (.bool false) (exec_bin .eql 3 _ _ _ rfl (.int .i64 (t.inn : Int)) (.int .i64 1) (.bool false) (by kernel_rfl) (by kernel_rfl) (by kernel_rfl) (by rw [b_eq3, he1])) ?_
              try simp only [pA, pB, p1, p2, p3]
              refine WL.nil ?_
              try simp only [pA, pB, p1, p2, p3]
              go_upto_region 8 with fail
              refine WL.start ?_
              refine tK (.pointer (some ⟨n, 0, none⟩)) ?_
              try simp only [pA, pB, p1, p2, p3]
              refine tK (.pointer (some ⟨n, 0, none⟩)) ?_
              try simp only [pA, pB, p1, p2, p3]
              refine tK (.pointer (some ⟨n, 4, none⟩)) ?_
              try simp only [pA, pB, p1, p2, p3]
              refine tW (.bool false) (exec_load 4 _ rfl ⟨n, 4, none⟩ (by kernel_rfl) (.bool false) (load_one (HB.out.cell 4) U4 rfl)) ?_
              try simp only [pA, pB, p1, p2, p3]
              refine tK (.bool false) ?_
              try simp only [pA, pB, p1, p2, p3]
              refine tK (.pointer (some ⟨n, 0, none⟩)) ?_
              try simp only [pA, pB, p1, p2, p3]
              refine tK (.pointer (some ⟨n, 0, none⟩)) ?_
              try simp only [pA, pB, p1, p2, p3]
              refine tK (.pointer (some ⟨n, 0, none⟩)) ?_
              try simp only [pA, pB, p1, p2, p3]
              refine tW (.int .i64 (t.inn : Int)) (exec_load 3 _ rfl ⟨n, 0, none⟩ (by kernel_rfl) (.int .i64 (t.inn : Int)) (load_one (HB.out.cell 0) U3 rfl)) ?_
              try simp only [pA, pB, p1, p2, p3]
              refine tW (.bool true) (exec_bin .geq 3 _ _ _ rfl (.int .i64 (t.inn : Int)) (.int .i64 2) (.bool true) (by kernel_rfl) (by kernel_rfl) (by kernel_rfl) (by rw [b_geq, decide_eq_true hg2])) ?_
              try simp only [pA, pB, p1, p2, p3]
              refine tK (.bool true) ?_
              try simp only [pA, pB, p1, p2, p3]
              refine tK (.pointer (some ⟨n, 0, none⟩)) ?_
              try simp only [pA, pB, p1, p2, p3]
              refine tK (.pointer (some ⟨n, 0, none⟩)) ?_
              try simp only [pA, pB, p1, p2, p3]
              refine tK (.pointer (some ⟨n, 0, none⟩)) ?_
              try simp only [pA, pB, p1, p2, p3]
              refine tW (.int .i64 (t.inn : Int)) (exec_load 3 _ rfl ⟨n, 0, none⟩ (by kernel_rfl) (.int .i64 (t.inn : Int)) (load_one (HB.out.cell 0) U3 rfl)) ?_
              try simp only [pA, pB, p1, p2, p3]
              refine tW (.bool false) (exec_bin .leq 3 _ _ _ rfl (.int .i64 (t.inn : Int)) (.int .i64 5) (.bool false) (by kernel_rfl) (by kernel_rfl) (by kernel_rfl) (by rw [b_leq, decide_eq_false hg5])) ?_
              try simp only [pA, pB, p1, p2, p3]
              refine tK (.bool false) ?_
              try simp only [pA, pB, p1, p2, p3]
              refine tK (.bool false) ?_
              try simp only [pA, pB, p1, p2, p3]
              refine WL.nil ?_
              try simp only [pA, pB, p1, p2, p3]
              go_upto_region 10 with fail
              refine WL.start ?_
              refine tK (.pointer (some ⟨n, 0, none⟩)) ?_
              try simp only [pA, pB, p1, p2, p3]
              refine tK (.pointer (some ⟨n, 0, none⟩)) ?_
              try simp only [pA, pB, p1, p2, p3]
              refine tK (.pointer (some ⟨n, 2, none⟩)) ?_
              try simp only [pA, pB, p1, p2, p3]
              refine tW (.slice wa t.ws.length wc) (exec_load 22 _ rfl ⟨n, 2, none⟩ (by kernel_rfl) (.slice wa t.ws.length wc) (load_one (HB.out.cell 2) U22 rfl)) ?_
              try simp only [pA, pB, p1, p2, p3]
              refine tK (.slice wa t.ws.length wc) ?_
              try simp only [pA, pB, p1, p2, p3]
              refine tK (.int .i64 0) ?_
              try simp only [pA, pB, p1, p2, p3]
              refine WL.nil ?_
              try simp only [pA, pB, p1, p2, p3]
              go_wp2
              rw [HC.out]
              exact ⟨by rw [show wordsOf l = some (t.ws) from by unfold wordsOf; rw [HT.out, if_neg (by rw [hbad]; rintro (e | e); cases e; omega), if_neg hin1]]; exact ⟨_, _, rfl, Own.lower HW.out (by have := HN.out; omega)⟩, HK.out⟩
          · skip
            have hg2 : ¬ (2 : Int) ≤ (t.inn : Int) := by omega
            obtain ⟨wa, wc, ba, bc, hC0⟩ := hA
            have HB : Hid (Box wr n 46 #[.int .i64 (t.inn : Int), .slice ba t.word.length bc, .slice wa t.ws.length wc, .int .i64 t.dg, .bool false]) := by rw [← hbad]; exact hC0.box
            have HW : Hid (Own 9 1 wr (n + 1) wa wc t.ws.length (t.ws.map strV)) := hC0.hw
            have HY : Hid (Own 5 1 wr (n + 1) ba bc t.word.length (t.word.map u8V)) := hC0.hb
            have HL : Hid (n + 1 ≤ wr.heap.size) := hC0.hn
            have HK : Hid (Kept No w wr) := hkr
            clear hC0 hkr
            go_upto_region 6 with fail
            refine WL.start ?_
            refine tK (.pointer (some ⟨n, 0, none⟩)) ?_
            try simp only [pA, pB, p1, p2, p3]
            refine tK (.pointer (some ⟨n, 0, none⟩)) ?_
            try simp only [pA, pB, p1, p2, p3]
            refine tK (.pointer (some ⟨n, 0, none⟩)) ?_
            try simp only [pA, pB, p1, p2, p3]
            refine tW (.int .i64 (t.inn : Int)) (exec_load 3 _ rfl ⟨n, 0, none⟩ (by kernel_rfl) (.int .i64 (t.inn : Int)) (load_one (HB.out.cell 0) U3 rfl)) ?_
            try simp only [pA, pB, p1, p2, p3]
            refine tW (.bool false) (exec_bin .eql 3 _ _ _ rfl (.int .i64 (t.inn : Int)) (.int .i64 1) (.bool false) (by kernel_rfl) (by kernel_rfl) (by kernel_rfl) (by rw [b_eq3, he1])) ?_
            try simp only [pA, pB, p1, p2, p3]
            refine WL.nil ?_
            try simp only [pA, pB, p1, p2, p3]
            go_upto_region 8 with fail
            refine WL.start ?_
            refine tK (.pointer (some ⟨n, 0, none⟩)) ?_
            try simp only [pA, pB, p1, p2, p3]
            refine tK (.pointer (some ⟨n, 0, none⟩)) ?_
            try simp only [pA, pB, p1, p2, p3]
            refine tK (.pointer (some ⟨n, 4, none⟩)) ?_
            try simp only [pA, pB, p1, p2, p3]
            refine tW (.bool false) (exec_load 4 _ rfl ⟨n, 4, none⟩ (by kernel_rfl) (.bool false) (load_one (HB.out.cell 4) U4 rfl)) ?_
            try simp only [pA, pB, p1, p2, p3]
            refine tK (.bool false) ?_
            try simp only [pA, pB, p1, p2, p3]
            refine tK (.pointer (some ⟨n, 0, none⟩)) ?_
            try simp only [pA, pB, p1, p2, p3]
            refine tK (.pointer (some ⟨n, 0, none⟩)) ?_
            try simp only [pA, pB, p1, p2, p3]
            refine tK (.pointer (some ⟨n, 0, none⟩)) ?_
            try simp only [pA, pB, p1, p2, p3]
            refine tW (.int .i64 (t.inn : Int)) (exec_load 3 _ rfl ⟨n, 0, none⟩ (by kernel_rfl) (.int .i64 (t.inn : Int)) (load_one (HB.out.cell 0) U3 rfl)) ?_
            try simp only [pA, pB, p1, p2, p3]
            refine tW (.bool false) (exec_bin .geq 3 _ _ _ rfl (.int .i64 (t.inn : Int)) (.int .i64 2) (.bool false) (by kernel_rfl) (by kernel_rfl) (by kernel_rfl) (by rw [b_geq, decide_eq_false hg2])) ?_
            try simp only [pA, pB, p1, p2, p3]
            refine tK (.bool false) ?_
            try simp only [pA, pB, p1, p2, p3]
            refine sK ?_
            try simp only [pA, pB, p1, p2, p3]
            refine sK ?_
            try simp only [pA, pB, p1, p2, p3]
            refine sK ?_
            try simp only [pA, pB, p1, p2, p3]
            refine sK ?_
            try simp only [pA, pB, p1, p2, p3]
            refine sK ?_
            try simp only [pA, pB, p1, p2, p3]
            refine tK (.bool false) ?_
            try simp only [pA, pB, p1, p2, p3]
            refine tK (.bool false) ?_
            try simp only [pA, pB, p1, p2, p3]
            refine WL.nil ?_
            try simp only [pA, pB, p1, p2, p3]
            go_upto_region 10 with fail
            refine WL.start ?_
            refine tK (.pointer (some ⟨n, 0, none⟩)) ?_
            try simp only [pA, pB, p1, p2, p3]
            refine tK (.pointer (some ⟨n, 0, none⟩)) ?_
            try simp only [pA, pB, p1, p2, p3]
            refine tK (.pointer (some ⟨n, 2, none⟩)) ?_
            try simp only [pA, pB, p1, p2, p3]
            refine tW (.slice wa t.ws.length wc) (exec_load 22 _ rfl ⟨n, 2, none⟩ (by kernel_rfl) (.slice wa t.ws.length wc) (load_one (HB.out.cell 2) U22 rfl)) ?_
            try simp only [pA, pB, p1, p2, p3]
            refine tK (.slice wa t.ws.length wc) ?_
            try simp only [pA, pB, p1, p2, p3]
            refine tK (.int .i64 0) ?_
            try simp only [pA, pB, p1, p2, p3]
            refine WL.nil ?_
            try simp only [pA, pB, p1, p2, p3]
            go_wp2
            rw [HC.out]
            exact ⟨by rw [show wordsOf l = some (t.ws) from by unfold wordsOf; rw [HT.out, if_neg (by rw [hbad]; rintro (e | e); cases e; omega), if_neg hin1]]; exact ⟨_, _, rfl, Own.lower HW.out (by have := HN.out; omega)⟩, HK.out⟩
        | true =>
          obtain ⟨wa, wc, ba, bc, hC0⟩ := hA
          have HB : Hid (Box wr n 46 #[.int .i64 (t.inn : Int), .slice ba t.word.length bc, .slice wa t.ws.length wc, .int .i64 t.dg, .bool true]) := by rw [← hbad]; exact hC0.box
          have HW : Hid (Own 9 1 wr (n + 1) wa wc t.ws.length (t.ws.map strV)) := hC0.hw
          have HY : Hid (Own 5 1 wr (n + 1) ba bc t.word.length (t.word.map u8V)) := hC0.hb
          have HL : Hid (n + 1 ≤ wr.heap.size) := hC0.hn
          have HK : Hid (Kept No w wr) := hkr
          clear hC0 hkr
          go_upto_region 6 with fail
          refine WL.start ?_
          refine tK (.pointer (some ⟨n, 0, none⟩)) ?_
          try simp only [pA, pB, p1, p2, p3]
          refine tK (.pointer (some ⟨n, 0, none⟩)) ?_
          try simp only [pA, pB, p1, p2, p3]
          refine tK (.pointer (some ⟨n, 0, none⟩)) ?_
          try simp only [pA, pB, p1, p2, p3]
          refine tW (.int .i64 (t.inn : Int)) (exec_load 3 _ rfl ⟨n, 0, none⟩ (by kernel_rfl) (.int .i64 (t.inn : Int)) (load_one (HB.out.cell 0) U3 rfl)) ?_
          try simp only [pA, pB, p1, p2, p3]
          refine tW (.bool false) (exec_bin .eql 3 _ _ _ rfl (.int .i64 (t.inn : Int)) (.int .i64 1) (.bool false) (by kernel_rfl) (by kernel_rfl) (by kernel_rfl) (by rw [b_eq3, he1])) ?_
          try simp only [pA, pB, p1, p2, p3]
          refine WL.nil ?_
          try simp only [pA, pB, p1, p2, p3]
          go_upto_region 8 with fail
          refine WL.start ?_
          refine tK (.pointer (some ⟨n, 0, none⟩)) ?_
          try simp only [pA, pB, p1, p2, p3]
          refine tK (.pointer (some ⟨n, 0, none⟩)) ?_
          try simp only [pA, pB, p1, p2, p3]
          refine tK (.pointer (some ⟨n, 4, none⟩)) ?_
          try simp only [pA, pB, p1, p2, p3]
          refine tW (.bool true) (exec_load 4 _ rfl ⟨n, 4, none⟩ (by kernel_rfl) (.bool true) (load_one (HB.out.cell 4) U4 rfl)) ?_
          try simp only [pA, pB, p1, p2, p3]
          refine tK (.bool true) ?_
          try simp only [pA, pB, p1, p2, p3]
          refine sK ?_
          try simp only [pA, pB, p1, p2, p3]
          refine sK ?_
          try simp only [pA, pB, p1, p2, p3]
          refine sK ?_
          try simp only [pA, pB, p1, p2, p3]
          refine sK ?_
          try simp only [pA, pB, p1, p2, p3]
          refine sK ?_
          try simp only [pA, pB, p1, p2, p3]
          refine sK ?_
          try simp only [pA, pB, p1, p2, p3]
          refine sK ?_
          try simp only [pA, pB, p1, p2, p3]
          refine sK ?_
          try simp only [pA, pB, p1, p2, p3]
          refine sK ?_
          try simp only [pA, pB, p1, p2, p3]
          refine sK ?_
          try simp only [pA, pB, p1, p2, p3]
          refine sK ?_
          try simp only [pA, pB, p1, p2, p3]
          refine sK ?_
          try simp only [pA, pB, p1, p2, p3]
          refine tK (.bool true) ?_
          try simp only [pA, pB, p1, p2, p3]
          refine WL.nil ?_
          try simp only [pA, pB, p1, p2, p3]
          go_upto_region 9 with fail
          refine WL.start ?_
          refine tK (.slice none 0 0) ?_
          try simp only [pA, pB, p1, p2, p3]
          refine tK (.int .i64 200) ?_
          try simp only [pA, pB, p1, p2, p3]
          refine WL.nil ?_
          try simp only [pA, pB, p1, p2, p3]
          go_wp2
          rw [HC.out]
          exact ⟨by rw [show wordsOf l = none from by unfold wordsOf; rw [HT.out, if_pos (Or.inl hbad)]]; rfl, HK.out⟩

end Go.Proofs.Ytgnfeegnhdbnkaa
