import Derived.Test.YtgnfeegnhdbnkaaRa
namespace Go.Proofs.Ytgnfeegnhdbnkaa
open Go.RowKit Go.Lib
set_option linter.unusedVariables false
set_option linter.unusedSimpArgs false

theorem b_gtr3 (x y : Int) (w : World) : (binOp .gtr 3 (.int .i64 x) (.int .i64 y)).run Try.prog w = .ok (.bool (decide (y < x))) w := by kernel_rfl
theorem nums_lt {w : World} {a : Option Addr} {l : List UInt8} (h : Nums .u8 w a (l.map bi)) (h0 : 0 < l.length) (b off : Nat) (e : a = some ⟨b, off, none⟩) : b < w.heap.size := by
  obtain ⟨b', o', e', hc⟩ := h 0 (by simpa using h0)
  rw [e] at e'
  cases e'
  exact World.block_lt_of_cell? w _ hc
theorem nums_keep {w0 w w' : World} {a : Option Addr} {l : List UInt8} {gr : Nat} (h0 : Nums .u8 w0 a (l.map bi)) (h : Nums .u8 w a (l.map bi)) (hk : Kept (Only gr) w w') (hg : w0.heap.size ≤ gr) : Nums .u8 w' a (l.map bi) := by
  by_cases hl : 0 < l.length
  · exact h.kept hk (fun b off e hb => by have h1 := nums_lt h0 hl b off e; have h2 : b = gr := hb; omega)
  · have : l = [] := List.eq_nil_of_length_eq_zero (by omega)
    subst this
    exact Nums.nil _ _ _
set_option maxRecDepth 100000 in
set_option maxHeartbeats 4000000 in
theorem quotesWalkS (a : Option Addr) (l : List UInt8) (cap : Nat) (w : World) (hcap : l.length ≤ cap) (h16 : l.length ≤ 16000) (hN : Nums .u8 w a (l.map bi)) : Calls Try.prog 4 #[.slice a l.length cap] w (fun e w' => e = .returned (.bool true) ∧ Kept No w w') := by
  obtain ⟨C, hC⟩ : ∃ C : Ending → World → Prop, C = (fun e w' => e = .returned (.bool true) ∧ Kept No w w') := ⟨_, rfl⟩
  have HC : Hid (C = (fun e w' => e = .returned (.bool true) ∧ Kept No w w')) := hC
  rw [← hC]
  clear hC
  have h16i : ¬ (16000 : Int) < ((l.length : Nat) : Int) := by omega
  have HLl : Hid (l.length ≤ 16000) := h16
  have HB : Hid (Nums .u8 w a (l.map bi)) := hN
  have HB00 : Hid (Nums .u8 w a (l.map bi)) := HB
  have HK : Hid (Kept No w w) := Kept.refl _ _
  obtain ⟨n0, hn0⟩ : ∃ n, n = w.heap.size := ⟨_, rfl⟩
  have HN0 : Hid (n0 = w.heap.size) := hn0
  have HL : Hid (n0 ≤ w.heap.size) := show n0 ≤ w.heap.size by omega
  clear hN hn0 h16
  go_enter Try.func4, Try.ntmps4
  go_upto_region 0 with fail
  refine WL.start ?_
  refine tK (.bool false) ?_
  try simp only [pA, pB, p1, p2, p3]
  refine WL.nil ?_
  try simp only [pA, pB, p1, p2, p3]
  go_upto_region 1 with fail
  refine WL.start ?_
  refine tK (.slice a l.length cap) ?_
  try simp only [pA, pB, p1, p2, p3]
  refine tK (.int .i64 ((l.length : Nat) : Int)) ?_
  try simp only [pA, pB, p1, p2, p3]
  refine tW (.bool false) (exec_bin .gtr 3 _ _ _ rfl (.int .i64 ((l.length : Nat) : Int)) (.int .i64 16000) (.bool false) (by kernel_rfl) (by kernel_rfl) (by kernel_rfl) (by rw [b_gtr3, decide_eq_false h16i])) ?_
  try simp only [pA, pB, p1, p2, p3]
  refine WL.nil ?_
  try simp only [pA, pB, p1, p2, p3]
  go_upto_region 3 with fail
  refine WL.start ?_
  refine tK (.slice a l.length cap) ?_
  try simp only [pA, pB, p1, p2, p3]
  refine tK (.int .i64 ((l.length : Nat) : Int)) ?_
  try simp only [pA, pB, p1, p2, p3]
  refine tW (.int .i64 ((l.length + 70 : Nat) : Int)) (exec_bin .add 3 _ _ _ rfl (.int .i64 ((l.length : Nat) : Int)) (.int .i64 70) (.int .i64 ((l.length + 70 : Nat) : Int)) (by kernel_rfl) (by kernel_rfl) (by kernel_rfl) (b_add _ _ _ (by have := HLl.out; rw [wrap_id _ (by omega) (by omega)]; omega) _)) ?_
  try simp only [pA, pB, p1, p2, p3]
  have HG : Hid (n0 ≤ w.heap.size) := Nat.le_trans HL.out HK.out.size
  have HR : Hid (Box (w.alloc (.cells (List.replicate (l.length + 70) (u8V 0)).toArray 5)) w.heap.size 5 (List.replicate (l.length + 70) (u8V 0)).toArray) := Box.new _ _ _
  have HK : Hid (Kept No w (w.alloc (.cells (List.replicate (l.length + 70) (u8V 0)).toArray 5))) := HK.out.alloc _
  have HB : Hid (Nums .u8 (w.alloc (.cells (List.replicate (l.length + 70) (u8V 0)).toArray 5)) a (l.map bi)) := HB.out.no ((Kept.refl No _).alloc _)
  refine wp_runW (.slice (some ⟨w.heap.size, 0, none⟩) (l.length + 70) (l.length + 70)) (w.alloc (.cells (List.replicate (l.length + 70) (u8V 0)).toArray 5)) (exec_mk _ _ rfl (l.length + 70) (by kernel_rfl) (by kernel_rfl) (by have := HLl.out; omega)) (by kernel_rfl) ?_
  try simp only [pA, pB, p1, p2, p3]
  generalize w.alloc (.cells (List.replicate (l.length + 70) (u8V 0)).toArray 5) = wk1 at HK HR HB ⊢
  generalize w.heap.size = gr at HR HG ⊢
  refine tK (.slice (some ⟨gr, 0, none⟩) (l.length + 70) (l.length + 70)) ?_
  try simp only [pA, pB, p1, p2, p3]
  refine WL.nil ?_
  try simp only [pA, pB, p1, p2, p3]
  go_upto_region 4 with fail
  refine WL.start ?_
  refine tK (.slice (some ⟨gr, 0, none⟩) (l.length + 70) (l.length + 70)) ?_
  try simp only [pA, pB, p1, p2, p3]
  refine tK (.slice a l.length cap) ?_
  try simp only [pA, pB, p1, p2, p3]
  obtain ⟨w_1, hrun, hb, hk⟩ := run_cp (N := l.length + 70) (n := l.length) (cap := cap) rfl (by omega) HR.out HB.out
  refine wp_runW (goInt l.length) (w_1) (exec_cp _ _ rfl _ _ _ (by kernel_rfl) (by kernel_rfl) hrun) (by kernel_rfl) ?_
  try simp only [pA, pB, p1, p2, p3]
  have HB : Hid (Nums .u8 w_1 a (l.map bi)) := nums_keep HB00.out HB.out hk (by have h3 := HG.out; have h4 := HN0.out; omega)
  have HR : Hid (Box w_1 gr 5 (roomL l l.length).toArray) := by show Box _ _ _ _; unfold roomL; simpa using hb
  have HK : Hid (Kept No w w_1) := HK.out.trans hk (fun _ e => e) (fun j hj e => by have h2 : j = gr := e; have h3 := HG.out; have h4 := HN0.out; omega)
  clear hrun hb hk
  refine WL.nil ?_
  try simp only [pA, pB, p1, p2, p3]
  go_upto_region 5 with fail
  refine WL.start ?_
  refine tK (.slice a l.length cap) ?_
  try simp only [pA, pB, p1, p2, p3]
  refine tK (.int .i64 ((l.length : Nat) : Int)) ?_
  try simp only [pA, pB, p1, p2, p3]
  refine tK (.int .i64 ((l.length : Nat) : Int)) ?_
  try simp only [pA, pB, p1, p2, p3]
  refine WL.nil ?_
  try simp only [pA, pB, p1, p2, p3]
  go_wp2
  go_loopw [4] (fun v4 wr => ∃ i : Nat, v4 = .int .i64 ((i : Nat) : Int) ∧ Hid (l.length ≤ i ∧ i ≤ l.length + 70) ∧ Hid (Box wr gr 5 (roomL l i).toArray) ∧ Hid (Nums .u8 wr a (l.map bi)) ∧ Hid (Kept No w wr)) (fun v4 _ => l.length + 70 - (intOf v4).toNat)
  case atStart => exact ⟨l.length, by go_num, ⟨by omega, by omega⟩, HR, HB, HK⟩
  case round =>
    clear HR HB HK
    obtain ⟨i, rfl, HI0, HR, HB, HK⟩ := hrel
    by_cases hp : i < l.length + 70
    · have hcm : ((i : Nat) : Int) < ((l.length + 70 : Nat) : Int) := by omega
      have HIi : Hid (l.length ≤ i ∧ i < l.length + 70) := ⟨HI0.out.1, hp⟩
      have HI : Hid (i ≤ 16070 ∧ l.length ≤ 16000) := ⟨by have := HLl.out; omega, HLl.out⟩
      go_upto_region 6 with fail
      refine WL.start ?_
      refine tK (.int .i64 ((i : Nat) : Int)) ?_
      try simp only [pA, pB, p1, p2, p3]
      refine tK (.slice (some ⟨gr, 0, none⟩) (l.length + 70) (l.length + 70)) ?_
      try simp only [pA, pB, p1, p2, p3]
      refine tK (.int .i64 (((l.length + 70) : Nat) : Int)) ?_
      try simp only [pA, pB, p1, p2, p3]
      refine tW (.bool (decide (((i : Nat) : Int) < (((l.length + 70) : Nat) : Int)))) (exec_bin .lss 3 _ _ _ rfl (.int .i64 ((i : Nat) : Int)) (.int .i64 (((l.length + 70) : Nat) : Int)) (.bool (decide (((i : Nat) : Int) < (((l.length + 70) : Nat) : Int)))) (by kernel_rfl) (by kernel_rfl) (by kernel_rfl) (b_lss _ _ _)) ?_
      try simp only [pA, pB, p1, p2, p3]
      refine WL.nil ?_
      try simp only [pA, pB, p1, p2, p3]
      go_upto_region 8 with fail
      refine WL.start ?_
      refine tK (.slice (some ⟨gr, 0, none⟩) (l.length + 70) (l.length + 70)) ?_
      try simp only [pA, pB, p1, p2, p3]
      refine tK (.int .i64 ((i : Nat) : Int)) ?_
      try simp only [pA, pB, p1, p2, p3]
      refine tW (.pointer (some ⟨gr, 0 + i * 1, none⟩)) (exec_ixA 30 1 E30 F30 _ _ rfl gr 0 (l.length + 70) (l.length + 70) i (by kernel_rfl) (by kernel_rfl) (by omega)) ?_
      try simp only [pA, pB, p1, p2, p3]
      refine wp_storeW 5 _ _ rfl ⟨gr, 0 + i * 1, none⟩ (.int .u8 7) (by kernel_rfl) (by kernel_rfl) (wr.setRow gr (roomL l (i + 1)).toArray) (st_room HIi.out.1 HIi.out.2 HR.out) (by kernel_rfl) ?_
      try simp only [pA, pB, p1, p2, p3]
      have HB : Hid (Nums .u8 (wr.setRow gr (roomL l (i + 1)).toArray) a (l.map bi)) := nums_keep HB00.out HB.out (Kept.setRow _ _ _) (by have h3 := HG.out; have h4 := HN0.out; omega)
      have HR : Hid (Box (wr.setRow gr (roomL l (i + 1)).toArray) gr 5 (roomL l (i + 1)).toArray) := HR.out.setRow _
      have HK : Hid (Kept No w (wr.setRow gr (roomL l (i + 1)).toArray)) := HK.out.newRow (by have h3 := HG.out; have h4 := HN0.out; omega) _
      generalize wr.setRow gr (roomL l (i + 1)).toArray = wk3 at HK HR HB ⊢
      refine WL.nil ?_
      try simp only [pA, pB, p1, p2, p3]
      go_upto_region 7 with fail
      refine WL.start ?_
      refine tK (.int .i64 ((i : Nat) : Int)) ?_
      try simp only [pA, pB, p1, p2, p3]
      refine tW (.int .i64 ((i + 1 : Nat) : Int)) (exec_bin .add 3 _ _ _ rfl (.int .i64 ((i : Nat) : Int)) (.int .i64 1) (.int .i64 ((i + 1 : Nat) : Int)) (by kernel_rfl) (by kernel_rfl) (by kernel_rfl) (b_add1 i (by have := HI.out; omega) _)) ?_
      try simp only [pA, pB, p1, p2, p3]
      refine tK (.int .i64 ((i + 1 : Nat) : Int)) ?_
      try simp only [pA, pB, p1, p2, p3]
      refine WL.nil ?_
      try simp only [pA, pB, p1, p2, p3]
      go_wp2
      go_roundw
      case rel => exact ⟨i + 1, by go_num, ⟨by have := HIi.out; omega, by have := HIi.out; omega⟩, HR, HB, HK⟩
      case measure => have := HIi.out; simp [intOf]; omega
    · have hcm : ¬ ((i : Nat) : Int) < ((l.length + 70 : Nat) : Int) := by omega
      have hie : i = l.length + 70 := by have := HI0.out; omega
      subst hie
      go_upto_region 6 with fail
      refine WL.start ?_
      refine tK (.int .i64 ((l.length + 70 : Nat) : Int)) ?_
      try simp only [pA, pB, p1, p2, p3]
      refine tK (.slice (some ⟨gr, 0, none⟩) (l.length + 70) (l.length + 70)) ?_
      try simp only [pA, pB, p1, p2, p3]
      refine tK (.int .i64 (((l.length + 70) : Nat) : Int)) ?_
      try simp only [pA, pB, p1, p2, p3]
      refine tW (.bool (decide (((l.length + 70 : Nat) : Int) < (((l.length + 70) : Nat) : Int)))) (exec_bin .lss 3 _ _ _ rfl (.int .i64 ((l.length + 70 : Nat) : Int)) (.int .i64 (((l.length + 70) : Nat) : Int)) (.bool (decide (((l.length + 70 : Nat) : Int) < (((l.length + 70) : Nat) : Int)))) (by kernel_rfl) (by kernel_rfl) (by kernel_rfl) (b_lss _ _ _)) ?_
      try simp only [pA, pB, p1, p2, p3]
      refine WL.nil ?_
      try simp only [pA, pB, p1, p2, p3]
      go_upto_region 9 with fail
      refine WL.start ?_
      refine tK (.slice (some ⟨gr, 0, none⟩) (l.length + 70) (l.length + 70)) ?_
      try simp only [pA, pB, p1, p2, p3]
      refine tK (.slice a l.length cap) ?_
      try simp only [pA, pB, p1, p2, p3]
      refine tK (.int .i64 ((l.length : Nat) : Int)) ?_
      try simp only [pA, pB, p1, p2, p3]
      refine tW (.slice (some ⟨gr, 0, none⟩) l.length (l.length + 70)) (exec_slT 30 5 E30 F30 _ _ rfl (some ⟨gr, 0, none⟩) (l.length + 70) (l.length + 70) l.length (by kernel_rfl) (by kernel_rfl) (by omega)) ?_
      try simp only [pA, pB, p1, p2, p3]
      refine tK (.slice (some ⟨gr, 0, none⟩) l.length (l.length + 70)) ?_
      try simp only [pA, pB, p1, p2, p3]
      refine WL.nil ?_
      try simp only [pA, pB, p1, p2, p3]
      go_upto_region 10 with fail
      refine WL.start ?_
      refine tK (.slice (some ⟨gr, 0, none⟩) l.length (l.length + 70)) ?_
      try simp only [pA, pB, p1, p2, p3]
      refine wp_callW 10 #[.slice (some ⟨gr, 0, none⟩) l.length (l.length + 70)] (by kernel_rfl) _ (quote_any (some ⟨gr, 0, none⟩) l (l.length + 70) wr (by have := HLl.out; omega) (Box.nums8 HR.out)) (by kernel_rfl) ?_
      rintro e w_3 ⟨rfl, hk⟩
      have HR : Hid (Box w_3 gr 5 (roomL l (l.length + 70)).toArray) := HR.out.kept hk (fun e => e)
      have HB : Hid (Nums .u8 w_3 a (l.map bi)) := HB.out.no hk
      have HK : Hid (Kept No w w_3) := HK.out.then hk
      clear hk
      refine ⟨.string (bs (quoteL l)), rfl, ?_⟩
      try simp only [pA, pB, p1, p2, p3]
      refine tK (.string (bs (quoteL l))) ?_
      try simp only [pA, pB, p1, p2, p3]
      refine WL.nil ?_
      try simp only [pA, pB, p1, p2, p3]
      go_upto_region 11 with fail
      refine WL.start ?_
      refine tK (.string (bs (quoteL l))) ?_
      try simp only [pA, pB, p1, p2, p3]
      refine tK (.slice a l.length cap) ?_
      try simp only [pA, pB, p1, p2, p3]
      refine wp_callW 11 #[.slice a l.length cap] (by kernel_rfl) _ (refQuote_any a l cap w_3 (by have := HLl.out; omega) HB.out) (by kernel_rfl) ?_
      rintro e w_4 ⟨rfl, hk⟩
      have HR : Hid (Box w_4 gr 5 (roomL l (l.length + 70)).toArray) := HR.out.kept hk (fun e => e)
      have HB : Hid (Nums .u8 w_4 a (l.map bi)) := HB.out.no hk
      have HK : Hid (Kept No w w_4) := HK.out.then hk
      clear hk
      refine ⟨.string (bs (quoteL l)), rfl, ?_⟩
      try simp only [pA, pB, p1, p2, p3]
      refine tW (.bool false) (exec_bin .neq 9 _ _ _ rfl (.string (bs (quoteL l))) (.string (bs (quoteL l))) (.bool false) (by kernel_rfl) (by kernel_rfl) (by kernel_rfl) (by rw [b_neqS]; simp)) ?_
      try simp only [pA, pB, p1, p2, p3]
      refine tK (.bool false) ?_
      try simp only [pA, pB, p1, p2, p3]
      refine tK (.slice (some ⟨gr, 0, none⟩) l.length (l.length + 70)) ?_
      try simp only [pA, pB, p1, p2, p3]
      refine tW (.string (bs l)) (exec_conv _ 30 9 rfl _ _ (by kernel_rfl) (run_convR (cap := l.length + 70) (Box.nums8 HR.out) rfl)) ?_
      try simp only [pA, pB, p1, p2, p3]
      refine tK (.slice a l.length cap) ?_
      try simp only [pA, pB, p1, p2, p3]
      refine tW (.string (bs l)) (exec_conv _ 30 9 rfl _ _ (by kernel_rfl) (run_convR (cap := cap) HB.out rfl)) ?_
      try simp only [pA, pB, p1, p2, p3]
      refine tW (.bool false) (exec_bin .neq 9 _ _ _ rfl (.string (bs l)) (.string (bs l)) (.bool false) (by kernel_rfl) (by kernel_rfl) (by kernel_rfl) (by rw [b_neqS]; simp)) ?_
      try simp only [pA, pB, p1, p2, p3]
      refine tK (.bool false) ?_
      try simp only [pA, pB, p1, p2, p3]
      refine WL.nil ?_
      try simp only [pA, pB, p1, p2, p3]
      go_upto_region 13 with fail
      refine WL.start ?_
      refine tK (.slice a l.length cap) ?_
      try simp only [pA, pB, p1, p2, p3]
      refine tK (.int .i64 ((l.length : Nat) : Int)) ?_
      try simp only [pA, pB, p1, p2, p3]
      refine tK (.int .i64 ((l.length : Nat) : Int)) ?_
      try simp only [pA, pB, p1, p2, p3]
      refine WL.nil ?_
      try simp only [pA, pB, p1, p2, p3]
      clear hcm hp HI0
      go_wp2
      go_loopw [7] (fun v7 wr => ∃ i : Nat, v7 = .int .i64 ((i : Nat) : Int) ∧ Hid (l.length ≤ i ∧ i ≤ l.length + 70) ∧ Hid (Box wr gr 5 (roomL l (l.length + 70)).toArray) ∧ Hid (Nums .u8 wr a (l.map bi)) ∧ Hid (Kept No w wr)) (fun v7 _ => l.length + 70 - (intOf v7).toNat)
      case atStart => exact ⟨l.length, by go_num, ⟨by omega, by omega⟩, HR, HB, HK⟩
      case round =>
        clear HR HB HK
        obtain ⟨i, rfl, HI0, HR, HB, HK⟩ := hrel
        by_cases hp : i < l.length + 70
        · have hcm : ((i : Nat) : Int) < ((l.length + 70 : Nat) : Int) := by omega
          have HIi : Hid (l.length ≤ i ∧ i < l.length + 70) := ⟨HI0.out.1, hp⟩
          have HI : Hid (i ≤ 16070 ∧ l.length ≤ 16000) := ⟨by have := HLl.out; omega, HLl.out⟩
          go_upto_region 14 with fail
          refine WL.start ?_
          refine tK (.int .i64 ((i : Nat) : Int)) ?_
          try simp only [pA, pB, p1, p2, p3]
          refine tK (.slice (some ⟨gr, 0, none⟩) (l.length + 70) (l.length + 70)) ?_
          try simp only [pA, pB, p1, p2, p3]
          refine tK (.int .i64 (((l.length + 70) : Nat) : Int)) ?_
          try simp only [pA, pB, p1, p2, p3]
          refine tW (.bool (decide (((i : Nat) : Int) < (((l.length + 70) : Nat) : Int)))) (exec_bin .lss 3 _ _ _ rfl (.int .i64 ((i : Nat) : Int)) (.int .i64 (((l.length + 70) : Nat) : Int)) (.bool (decide (((i : Nat) : Int) < (((l.length + 70) : Nat) : Int)))) (by kernel_rfl) (by kernel_rfl) (by kernel_rfl) (b_lss _ _ _)) ?_
          try simp only [pA, pB, p1, p2, p3]
          refine WL.nil ?_
          try simp only [pA, pB, p1, p2, p3]
          go_upto_region 16 with fail
          refine WL.start ?_
          refine tK (.slice (some ⟨gr, 0, none⟩) (l.length + 70) (l.length + 70)) ?_
          try simp only [pA, pB, p1, p2, p3]
          refine tK (.int .i64 ((i : Nat) : Int)) ?_
          try simp only [pA, pB, p1, p2, p3]
          refine tW (.pointer (some ⟨gr, 0 + i * 1, none⟩)) (exec_ixA 30 1 E30 F30 _ _ rfl gr 0 (l.length + 70) (l.length + 70) i (by kernel_rfl) (by kernel_rfl) (by omega)) ?_
          try simp only [pA, pB, p1, p2, p3]
          refine tW (.int .u8 7) (exec_load 5 _ rfl ⟨gr, 0 + i * 1, none⟩ (by kernel_rfl) (.int .u8 7) (load_one (room_at HIi.out.1 HIi.out.2 HR.out) U5 rfl)) ?_
          try simp only [pA, pB, p1, p2, p3]
          refine tK (.bool false) ?_
          try simp only [pA, pB, p1, p2, p3]
          refine WL.nil ?_
          try simp only [pA, pB, p1, p2, p3]
          go_upto_region 15 with fail
          refine WL.start ?_
          refine tK (.int .i64 ((i : Nat) : Int)) ?_
          try simp only [pA, pB, p1, p2, p3]
          refine tW (.int .i64 ((i + 1 : Nat) : Int)) (exec_bin .add 3 _ _ _ rfl (.int .i64 ((i : Nat) : Int)) (.int .i64 1) (.int .i64 ((i + 1 : Nat) : Int)) (by kernel_rfl) (by kernel_rfl) (by kernel_rfl) (b_add1 i (by have := HI.out; omega) _)) ?_
          try simp only [pA, pB, p1, p2, p3]
          refine tK (.int .i64 ((i + 1 : Nat) : Int)) ?_
          try simp only [pA, pB, p1, p2, p3]
          refine WL.nil ?_
          try simp only [pA, pB, p1, p2, p3]
          go_wp2
          go_roundw
          case rel => exact ⟨i + 1, by go_num, ⟨by have := HIi.out; omega, by have := HIi.out; omega⟩, HR, HB, HK⟩
          case measure => have := HIi.out; simp [intOf]; omega
        · have hcm : ¬ ((i : Nat) : Int) < ((l.length + 70 : Nat) : Int) := by omega
          go_upto_region 14 with fail
          refine WL.start ?_
          refine tK (.int .i64 ((i : Nat) : Int)) ?_
          try simp only [pA, pB, p1, p2, p3]
          refine tK (.slice (some ⟨gr, 0, none⟩) (l.length + 70) (l.length + 70)) ?_
          try simp only [pA, pB, p1, p2, p3]
          refine tK (.int .i64 (((l.length + 70) : Nat) : Int)) ?_
          try simp only [pA, pB, p1, p2, p3]
          refine tW (.bool (decide (((i : Nat) : Int) < (((l.length + 70) : Nat) : Int)))) (exec_bin .lss 3 _ _ _ rfl (.int .i64 ((i : Nat) : Int)) (.int .i64 (((l.length + 70) : Nat) : Int)) (.bool (decide (((i : Nat) : Int) < (((l.length + 70) : Nat) : Int)))) (by kernel_rfl) (by kernel_rfl) (by kernel_rfl) (b_lss _ _ _)) ?_
          try simp only [pA, pB, p1, p2, p3]
          refine WL.nil ?_
          try simp only [pA, pB, p1, p2, p3]
          go_upto_region 18 with fail
          refine WL.start ?_
          refine tK (.string (bs (quoteL l))) ?_
          try simp only [pA, pB, p1, p2, p3]
          refine wp_callW 7 #[.string (bs (quoteL l))] (by kernel_rfl) _ (words_any (quoteL l) (by have h1 := HLl.out; have h2 := quoteL_len l; omega) wr) (by kernel_rfl) ?_
          rintro e w_5 ⟨hws, hk⟩
          rw [words_quote l] at hws
          obtain ⟨a_5, c_5, rfl, ho⟩ := hws.ss
          clear hws
          have HO5 : Hid (Own 9 1 w_5 wr.heap.size a_5 c_5 1 ([.string (bs l)])) := ho
          obtain ⟨g_5, rfl⟩ := HO5.out.some_of (by omega)
          have HR : Hid (Box w_5 gr 5 (roomL l (l.length + 70)).toArray) := HR.out.kept hk (fun e => e)
          have HB : Hid (Nums .u8 w_5 a (l.map bi)) := HB.out.no hk
          have HK : Hid (Kept No w w_5) := HK.out.then hk
          clear hk ho
          refine ⟨.tuple #[.slice (some ⟨g_5, 0, none⟩) 1 c_5, .int .i64 0], rfl, ?_⟩
          try simp only [pA, pB, p1, p2, p3]
          refine tK (.tuple #[.slice (some ⟨g_5, 0, none⟩) 1 c_5, .int .i64 0]) ?_
          try simp only [pA, pB, p1, p2, p3]
          refine tK (.slice (some ⟨g_5, 0, none⟩) 1 c_5) ?_
          try simp only [pA, pB, p1, p2, p3]
          refine tK (.int .i64 0) ?_
          try simp only [pA, pB, p1, p2, p3]
          refine tK (.slice (some ⟨g_5, 0, none⟩) 1 c_5) ?_
          try simp only [pA, pB, p1, p2, p3]
          refine tK (.int .i64 0) ?_
          try simp only [pA, pB, p1, p2, p3]
          refine WL.nil ?_
          try simp only [pA, pB, p1, p2, p3]
          go_upto_region 19 with fail
          have HO5 : Hid (Own 9 1 w_5.drew wr.heap.size (some ⟨g_5, 0, none⟩) c_5 1 ([.string (bs l)])) := HO5.out.no (Kept.refl No _).drew
          have HK : Hid (Kept No w w_5.drew) := HK.out.drew
          have HR : Hid (Box w_5.drew gr 5 (roomL l (l.length + 70)).toArray) := HR.out.kept (Kept.refl No _).drew (fun e => e)
          have HB : Hid (Nums .u8 w_5.drew a (l.map bi)) := HB.out.no (Kept.refl No _).drew
          refine wp_region_held_drew (S := fun w' => Own 9 1 w' wr.heap.size (some ⟨g_5, 0, none⟩) c_5 1 ([.string (bs l)]) ∧ Nums .u8 w' a (l.map bi)) rfl ⟨HO5.out, HB.out⟩ (fun hH => ?_)
          generalize w_5.drew = wk7 at HO5 HK HR HB hH ⊢
          refine aT (i := 0) (oi := { dst := some 68, op := Op.move (Operand.tmp 9), type := 23, pos := "law.go:64", after := #[], guard := none }) (v := .int .i64 0) (fun _ _ => by kernel_rfl) hH ?_
          try simp only [pA, pB, p1, p2, p3]
          refine aT (i := 1) (oi := { dst := some 69, op := Op.binOp BinOp.eql 23 (Operand.tmp 68) (Operand.const (Value.int IntKind.i64 0)) 23, type := 4, pos := "law.go:64", after := #[{ on := 0, ground := Ground.data }], guard := none }) (v := .bool true) (fun _ _ => by kernel_rfl) hH ?_
          try simp only [pA, pB, p1, p2, p3]
          refine aT (i := 2) (oi := { dst := some 70, op := Op.move (Operand.tmp 69), type := 4, pos := "law.go:64", after := #[{ on := 1, ground := Ground.data }], guard := none }) (v := .bool true) (fun _ _ => by kernel_rfl) hH ?_
          try simp only [pA, pB, p1, p2, p3]
          refine aT (i := 3) (oi := { dst := some 71, op := Op.move (Operand.tmp 8), type := 22, pos := "law.go:64", after := #[{ on := 2, ground := Ground.guard }], guard := some (2, true) }) (v := .slice (some ⟨g_5, 0, none⟩) 1 c_5) (fun _ _ => by kernel_rfl) hH ?_
          try simp only [pA, pB, p1, p2, p3]
          refine aT (i := 4) (oi := { dst := some 72, op := Op.call { callee := Callee.builtin Builtin.len, args := #[Operand.tmp 71], argTypes := #[22] }, type := 3, pos := "law.go:64", after := #[{ on := 3, ground := Ground.data }, { on := 2, ground := Ground.guard }], guard := some (2, true) }) (v := .int .i64 ((1 : Nat) : Int)) (fun _ _ => by kernel_rfl) hH ?_
          try simp only [pA, pB, p1, p2, p3]
          refine aT (i := 5) (oi := { dst := some 73, op := Op.binOp BinOp.eql 3 (Operand.tmp 72) (Operand.const (Value.int IntKind.i64 1)) 3, type := 4, pos := "law.go:64", after := #[{ on := 4, ground := Ground.data }, { on := 2, ground := Ground.guard }], guard := some (2, true) }) (v := .bool true) (fun _ _ => by kernel_rfl) hH ?_
          try simp only [pA, pB, p1, p2, p3]
          refine aT (i := 6) (oi := { dst := some 74, op := Op.pick (Operand.tmp 70) (Operand.tmp 73) (Operand.const (Value.bool false)), type := 4, pos := "law.go:64", after := #[{ on := 2, ground := Ground.data }, { on := 5, ground := Ground.data }], guard := none }) (v := .bool true) (fun _ _ => by kernel_rfl) hH ?_
          try simp only [pA, pB, p1, p2, p3]
          refine aT (i := 7) (oi := { dst := some 75, op := Op.move (Operand.tmp 74), type := 4, pos := "law.go:64", after := #[{ on := 6, ground := Ground.data }, { on := 2, ground := Ground.chain }], guard := none }) (v := .bool true) (fun _ _ => by kernel_rfl) hH ?_
          try simp only [pA, pB, p1, p2, p3]
          refine aT (i := 8) (oi := { dst := some 76, op := Op.move (Operand.tmp 8), type := 22, pos := "law.go:64", after := #[{ on := 7, ground := Ground.guard }], guard := some (7, true) }) (v := .slice (some ⟨g_5, 0, none⟩) 1 c_5) (fun _ _ => by kernel_rfl) hH ?_
          try simp only [pA, pB, p1, p2, p3]
          refine aT (i := 9) (oi := { dst := some 77, op := Op.indexAddr 22 (Operand.tmp 76) (Operand.const (Value.int IntKind.i64 0)), type := 0, pos := "law.go:64", after := #[{ on := 8, ground := Ground.data }, { on := 7, ground := Ground.guard }], guard := some (7, true) }) (v := .pointer (some ⟨g_5, 0, none⟩)) (fun w' hw => exec_ixA 22 1 E22 F22 _ _ rfl g_5 0 1 c_5 0 (by kernel_rfl) (by kernel_rfl) (by omega)) hH ?_
          try simp only [pA, pB, p1, p2, p3]
          refine aT (i := 10) (oi := { dst := some 78, op := Op.load 9 (Operand.tmp 77), type := 9, pos := "law.go:64", after := #[{ on := 9, ground := Ground.data }, { on := 7, ground := Ground.guard }], guard := some (7, true) }) (v := .string (bs l)) (fun w' hw => exec_load 9 _ rfl ⟨g_5, 0, none⟩ (by kernel_rfl) (.string (bs l)) (load_one (hw.1.cellAt (i := 0) (by rfl)) U9 rfl)) hH ?_
          try simp only [pA, pB, p1, p2, p3]
          refine aT (i := 11) (oi := { dst := some 79, op := Op.move (Operand.tmp 0), type := 30, pos := "law.go:64", after := #[{ on := 7, ground := Ground.guard }], guard := some (7, true) }) (v := .slice a l.length cap) (fun _ _ => by kernel_rfl) hH ?_
          try simp only [pA, pB, p1, p2, p3]
          refine aT (i := 12) (oi := { dst := some 80, op := Op.convert 30 9 (Operand.tmp 79), type := 9, pos := "law.go:64", after := #[{ on := 11, ground := Ground.data }, { on := 7, ground := Ground.guard }], guard := some (7, true) }) (v := .string (bs l)) (fun w' hw => exec_conv _ 30 9 rfl _ _ (by kernel_rfl) (run_convR (cap := cap) hw.2 rfl)) hH ?_
          try simp only [pA, pB, p1, p2, p3]
          refine aT (i := 13) (oi := { dst := some 81, op := Op.binOp BinOp.eql 9 (Operand.tmp 78) (Operand.tmp 80) 9, type := 4, pos := "law.go:64", after := #[{ on := 10, ground := Ground.data }, { on := 12, ground := Ground.data }, { on := 7, ground := Ground.guard }], guard := some (7, true) }) (v := .bool true) (fun w' hw => exec_bin .eql 9 _ _ _ rfl (.string (bs l)) (.string (bs l)) (.bool true) (by kernel_rfl) (by kernel_rfl) (by kernel_rfl) (by rw [b_eqlS]; simp)) hH ?_
          try simp only [pA, pB, p1, p2, p3]
          refine aT (i := 14) (oi := { dst := some 82, op := Op.pick (Operand.tmp 75) (Operand.tmp 81) (Operand.const (Value.bool false)), type := 4, pos := "law.go:64", after := #[{ on := 7, ground := Ground.data }, { on := 13, ground := Ground.data }], guard := none }) (v := .bool true) (fun _ _ => by kernel_rfl) hH ?_
          try simp only [pA, pB, p1, p2, p3]
          refine aT (i := 15) (oi := { dst := some 2, op := Op.assign (Operand.tmp 82), type := 4, pos := "law.go:64", after := #[{ on := 14, ground := Ground.data }, { on := 7, ground := Ground.chain }, { on := 0, ground := Ground.phase }, { on := 1, ground := Ground.phase }, { on := 2, ground := Ground.phase }, { on := 3, ground := Ground.phase }, { on := 4, ground := Ground.phase }, { on := 5, ground := Ground.phase }, { on := 6, ground := Ground.phase }, { on := 7, ground := Ground.phase }, { on := 8, ground := Ground.phase }, { on := 9, ground := Ground.phase }, { on := 10, ground := Ground.phase }, { on := 11, ground := Ground.phase }, { on := 12, ground := Ground.phase }, { on := 13, ground := Ground.phase }, { on := 14, ground := Ground.phase }], guard := none }) (v := .bool true) (fun _ _ => by kernel_rfl) hH ?_
          try simp only [pA, pB, p1, p2, p3]
          refine wpAnyH_done (by kernel_rfl) ?_ _
          try simp only [pA, pB, p1, p2, p3]
          clear hH
          go_wp2
          rw [HC.out]
          exact ⟨rfl, HK.out⟩
set_option maxRecDepth 100000 in
set_option maxHeartbeats 4000000 in
theorem quotesWalkB (a : Option Addr) (l : List UInt8) (cap : Nat) (w : World) (hcap : l.length ≤ cap) (h16 : 16000 < l.length) (hN : Nums .u8 w a (l.map bi)) : Calls Try.prog 4 #[.slice a l.length cap] w (fun e w' => e = .returned (.bool true) ∧ Kept No w w') := by
  obtain ⟨C, hC⟩ : ∃ C : Ending → World → Prop, C = (fun e w' => e = .returned (.bool true) ∧ Kept No w w') := ⟨_, rfl⟩
  have HC : Hid (C = (fun e w' => e = .returned (.bool true) ∧ Kept No w w')) := hC
  rw [← hC]
  clear hC
  have h16i : (16000 : Int) < ((l.length : Nat) : Int) := by omega
  obtain ⟨k, hk⟩ : ∃ k, k = l.take 16000 := ⟨_, rfl⟩
  have hkl : k.length = 16000 := by rw [hk, List.length_take]; omega
  have HLk : Hid (k.length = 16000) := hkl
  have HLl : Hid (k.length ≤ 16000) := show k.length ≤ 16000 by omega
  have HB0 : Hid (Nums .u8 w a (l.map bi)) := hN
  have HB : Hid (Nums .u8 w a (k.map bi)) := by rw [hk]; exact hN.take _
  clear hk hkl
  have HB00 : Hid (Nums .u8 w a (k.map bi)) := HB
  have HK : Hid (Kept No w w) := Kept.refl _ _
  obtain ⟨n0, hn0⟩ : ∃ n, n = w.heap.size := ⟨_, rfl⟩
  have HN0 : Hid (n0 = w.heap.size) := hn0
  have HL : Hid (n0 ≤ w.heap.size) := show n0 ≤ w.heap.size by omega
  clear hN hn0 h16
  go_enter Try.func4, Try.ntmps4
  go_upto_region 0 with fail
  refine WL.start ?_
  refine tK (.bool false) ?_
  try simp only [pA, pB, p1, p2, p3]
  refine WL.nil ?_
  try simp only [pA, pB, p1, p2, p3]
  go_upto_region 1 with fail
  refine WL.start ?_
  refine tK (.slice a l.length cap) ?_
  try simp only [pA, pB, p1, p2, p3]
  refine tK (.int .i64 ((l.length : Nat) : Int)) ?_
  try simp only [pA, pB, p1, p2, p3]
  refine tW (.bool true) (exec_bin .gtr 3 _ _ _ rfl (.int .i64 ((l.length : Nat) : Int)) (.int .i64 16000) (.bool true) (by kernel_rfl) (by kernel_rfl) (by kernel_rfl) (by rw [b_gtr3, decide_eq_true h16i])) ?_
  try simp only [pA, pB, p1, p2, p3]
  refine WL.nil ?_
  try simp only [pA, pB, p1, p2, p3]
  go_upto_region 2 with fail
  refine WL.start ?_
  refine tK (.slice a l.length cap) ?_
  try simp only [pA, pB, p1, p2, p3]
  refine tW (.slice a k.length cap) ((by rw [HLk.out]; exact exec_slT 30 5 E30 F30 _ _ rfl a l.length cap 16000 (by kernel_rfl) (by kernel_rfl) (by omega))) ?_
  try simp only [pA, pB, p1, p2, p3]
  refine tK (.slice a k.length cap) ?_
  try simp only [pA, pB, p1, p2, p3]
  refine WL.nil ?_
  try simp only [pA, pB, p1, p2, p3]
  go_upto_region 3 with fail
  refine WL.start ?_
  refine tK (.slice a k.length cap) ?_
  try simp only [pA, pB, p1, p2, p3]
  refine tK (.int .i64 ((k.length : Nat) : Int)) ?_
  try simp only [pA, pB, p1, p2, p3]
  refine tW (.int .i64 ((k.length + 70 : Nat) : Int)) (exec_bin .add 3 _ _ _ rfl (.int .i64 ((k.length : Nat) : Int)) (.int .i64 70) (.int .i64 ((k.length + 70 : Nat) : Int)) (by kernel_rfl) (by kernel_rfl) (by kernel_rfl) (b_add _ _ _ (by have := HLl.out; rw [wrap_id _ (by omega) (by omega)]; omega) _)) ?_
  try simp only [pA, pB, p1, p2, p3]
  have HG : Hid (n0 ≤ w.heap.size) := Nat.le_trans HL.out HK.out.size
  have HR : Hid (Box (w.alloc (.cells (List.replicate (k.length + 70) (u8V 0)).toArray 5)) w.heap.size 5 (List.replicate (k.length + 70) (u8V 0)).toArray) := Box.new _ _ _
  have HK : Hid (Kept No w (w.alloc (.cells (List.replicate (k.length + 70) (u8V 0)).toArray 5))) := HK.out.alloc _
  have HB : Hid (Nums .u8 (w.alloc (.cells (List.replicate (k.length + 70) (u8V 0)).toArray 5)) a (k.map bi)) := HB.out.no ((Kept.refl No _).alloc _)
  refine wp_runW (.slice (some ⟨w.heap.size, 0, none⟩) (k.length + 70) (k.length + 70)) (w.alloc (.cells (List.replicate (k.length + 70) (u8V 0)).toArray 5)) (exec_mk _ _ rfl (k.length + 70) (by kernel_rfl) (by kernel_rfl) (by have := HLl.out; omega)) (by kernel_rfl) ?_
  try simp only [pA, pB, p1, p2, p3]
  generalize w.alloc (.cells (List.replicate (k.length + 70) (u8V 0)).toArray 5) = wk1 at HK HR HB ⊢
  generalize w.heap.size = gr at HR HG ⊢
  refine tK (.slice (some ⟨gr, 0, none⟩) (k.length + 70) (k.length + 70)) ?_
  try simp only [pA, pB, p1, p2, p3]
  refine WL.nil ?_
  try simp only [pA, pB, p1, p2, p3]
  go_upto_region 4 with fail
  refine WL.start ?_
  refine tK (.slice (some ⟨gr, 0, none⟩) (k.length + 70) (k.length + 70)) ?_
  try simp only [pA, pB, p1, p2, p3]
  refine tK (.slice a k.length cap) ?_
  try simp only [pA, pB, p1, p2, p3]
  obtain ⟨w_1, hrun, hb, hk⟩ := run_cp (N := k.length + 70) (n := k.length) (cap := cap) rfl (by omega) HR.out HB.out
  refine wp_runW (goInt k.length) (w_1) (exec_cp _ _ rfl _ _ _ (by kernel_rfl) (by kernel_rfl) hrun) (by kernel_rfl) ?_
  try simp only [pA, pB, p1, p2, p3]
  have HB : Hid (Nums .u8 w_1 a (k.map bi)) := nums_keep HB00.out HB.out hk (by have h3 := HG.out; have h4 := HN0.out; omega)
  have HR : Hid (Box w_1 gr 5 (roomL k k.length).toArray) := by show Box _ _ _ _; unfold roomL; simpa using hb
  have HK : Hid (Kept No w w_1) := HK.out.trans hk (fun _ e => e) (fun j hj e => by have h2 : j = gr := e; have h3 := HG.out; have h4 := HN0.out; omega)
  clear hrun hb hk
  refine WL.nil ?_
  try simp only [pA, pB, p1, p2, p3]
  go_upto_region 5 with fail
  refine WL.start ?_
  refine tK (.slice a k.length cap) ?_
  try simp only [pA, pB, p1, p2, p3]
  refine tK (.int .i64 ((k.length : Nat) : Int)) ?_
  try simp only [pA, pB, p1, p2, p3]
  refine tK (.int .i64 ((k.length : Nat) : Int)) ?_
  try simp only [pA, pB, p1, p2, p3]
  refine WL.nil ?_
  try simp only [pA, pB, p1, p2, p3]
  go_wp2
  go_loopw [4] (fun v4 wr => ∃ i : Nat, v4 = .int .i64 ((i : Nat) : Int) ∧ Hid (k.length ≤ i ∧ i ≤ k.length + 70) ∧ Hid (Box wr gr 5 (roomL k i).toArray) ∧ Hid (Nums .u8 wr a (k.map bi)) ∧ Hid (Kept No w wr)) (fun v4 _ => k.length + 70 - (intOf v4).toNat)
  case atStart => exact ⟨k.length, by go_num, ⟨by omega, by omega⟩, HR, HB, HK⟩
  case round =>
    clear HR HB HK
    obtain ⟨i, rfl, HI0, HR, HB, HK⟩ := hrel
    by_cases hp : i < k.length + 70
    · have hcm : ((i : Nat) : Int) < ((k.length + 70 : Nat) : Int) := by omega
      have HIi : Hid (k.length ≤ i ∧ i < k.length + 70) := ⟨HI0.out.1, hp⟩
      have HI : Hid (i ≤ 16070 ∧ k.length ≤ 16000) := ⟨by have := HLl.out; omega, HLl.out⟩
      go_upto_region 6 with fail
      refine WL.start ?_
      refine tK (.int .i64 ((i : Nat) : Int)) ?_
      try simp only [pA, pB, p1, p2, p3]
      refine tK (.slice (some ⟨gr, 0, none⟩) (k.length + 70) (k.length + 70)) ?_
      try simp only [pA, pB, p1, p2, p3]
      refine tK (.int .i64 (((k.length + 70) : Nat) : Int)) ?_
      try simp only [pA, pB, p1, p2, p3]
      refine tW (.bool (decide (((i : Nat) : Int) < (((k.length + 70) : Nat) : Int)))) (exec_bin .lss 3 _ _ _ rfl (.int .i64 ((i : Nat) : Int)) (.int .i64 (((k.length + 70) : Nat) : Int)) (.bool (decide (((i : Nat) : Int) < (((k.length + 70) : Nat) : Int)))) (by kernel_rfl) (by kernel_rfl) (by kernel_rfl) (b_lss _ _ _)) ?_
      try simp only [pA, pB, p1, p2, p3]
      refine WL.nil ?_
      try simp only [pA, pB, p1, p2, p3]
      go_upto_region 8 with fail
      refine WL.start ?_
      refine tK (.slice (some ⟨gr, 0, none⟩) (k.length + 70) (k.length + 70)) ?_
      try simp only [pA, pB, p1, p2, p3]
      refine tK (.int .i64 ((i : Nat) : Int)) ?_
      try simp only [pA, pB, p1, p2, p3]
      refine tW (.pointer (some ⟨gr, 0 + i * 1, none⟩)) (exec_ixA 30 1 E30 F30 _ _ rfl gr 0 (k.length + 70) (k.length + 70) i (by kernel_rfl) (by kernel_rfl) (by omega)) ?_
      try simp only [pA, pB, p1, p2, p3]
      refine wp_storeW 5 _ _ rfl ⟨gr, 0 + i * 1, none⟩ (.int .u8 7) (by kernel_rfl) (by kernel_rfl) (wr.setRow gr (roomL k (i + 1)).toArray) (st_room HIi.out.1 HIi.out.2 HR.out) (by kernel_rfl) ?_
      try simp only [pA, pB, p1, p2, p3]
      have HB : Hid (Nums .u8 (wr.setRow gr (roomL k (i + 1)).toArray) a (k.map bi)) := nums_keep HB00.out HB.out (Kept.setRow _ _ _) (by have h3 := HG.out; have h4 := HN0.out; omega)
      have HR : Hid (Box (wr.setRow gr (roomL k (i + 1)).toArray) gr 5 (roomL k (i + 1)).toArray) := HR.out.setRow _
      have HK : Hid (Kept No w (wr.setRow gr (roomL k (i + 1)).toArray)) := HK.out.newRow (by have h3 := HG.out; have h4 := HN0.out; omega) _
      generalize wr.setRow gr (roomL k (i + 1)).toArray = wk3 at HK HR HB ⊢
      refine WL.nil ?_
      try simp only [pA, pB, p1, p2, p3]
      go_upto_region 7 with fail
      refine WL.start ?_
      refine tK (.int .i64 ((i : Nat) : Int)) ?_
      try simp only [pA, pB, p1, p2, p3]
      refine tW (.int .i64 ((i + 1 : Nat) : Int)) (exec_bin .add 3 _ _ _ rfl (.int .i64 ((i : Nat) : Int)) (.int .i64 1) (.int .i64 ((i + 1 : Nat) : Int)) (by kernel_rfl) (by kernel_rfl) (by kernel_rfl) (b_add1 i (by have := HI.out; omega) _)) ?_
      try simp only [pA, pB, p1, p2, p3]
      refine tK (.int .i64 ((i + 1 : Nat) : Int)) ?_
      try simp only [pA, pB, p1, p2, p3]
      refine WL.nil ?_
      try simp only [pA, pB, p1, p2, p3]
      go_wp2
      go_roundw
      case rel => exact ⟨i + 1, by go_num, ⟨by have := HIi.out; omega, by have := HIi.out; omega⟩, HR, HB, HK⟩
      case measure => have := HIi.out; simp [intOf]; omega
    · have hcm : ¬ ((i : Nat) : Int) < ((k.length + 70 : Nat) : Int) := by omega
      have hie : i = k.length + 70 := by have := HI0.out; omega
      subst hie
      go_upto_region 6 with fail
      refine WL.start ?_
      refine tK (.int .i64 ((k.length + 70 : Nat) : Int)) ?_
      try simp only [pA, pB, p1, p2, p3]
      refine tK (.slice (some ⟨gr, 0, none⟩) (k.length + 70) (k.length + 70)) ?_
      try simp only [pA, pB, p1, p2, p3]
      refine tK (.int .i64 (((k.length + 70) : Nat) : Int)) ?_
      try simp only [pA, pB, p1, p2, p3]
      refine tW (.bool (decide (((k.length + 70 : Nat) : Int) < (((k.length + 70) : Nat) : Int)))) (exec_bin .lss 3 _ _ _ rfl (.int .i64 ((k.length + 70 : Nat) : Int)) (.int .i64 (((k.length + 70) : Nat) : Int)) (.bool (decide (((k.length + 70 : Nat) : Int) < (((k.length + 70) : Nat) : Int)))) (by kernel_rfl) (by kernel_rfl) (by kernel_rfl) (b_lss _ _ _)) ?_
      try simp only [pA, pB, p1, p2, p3]
      refine WL.nil ?_
      try simp only [pA, pB, p1, p2, p3]
      go_upto_region 9 with fail
      refine WL.start ?_
      refine tK (.slice (some ⟨gr, 0, none⟩) (k.length + 70) (k.length + 70)) ?_
      try simp only [pA, pB, p1, p2, p3]
      refine tK (.slice a k.length cap) ?_
      try simp only [pA, pB, p1, p2, p3]
      refine tK (.int .i64 ((k.length : Nat) : Int)) ?_
      try simp only [pA, pB, p1, p2, p3]
      refine tW (.slice (some ⟨gr, 0, none⟩) k.length (k.length + 70)) (exec_slT 30 5 E30 F30 _ _ rfl (some ⟨gr, 0, none⟩) (k.length + 70) (k.length + 70) k.length (by kernel_rfl) (by kernel_rfl) (by omega)) ?_
      try simp only [pA, pB, p1, p2, p3]
      refine tK (.slice (some ⟨gr, 0, none⟩) k.length (k.length + 70)) ?_
      try simp only [pA, pB, p1, p2, p3]
      refine WL.nil ?_
      try simp only [pA, pB, p1, p2, p3]
      go_upto_region 10 with fail
      refine WL.start ?_
      refine tK (.slice (some ⟨gr, 0, none⟩) k.length (k.length + 70)) ?_
      try simp only [pA, pB, p1, p2, p3]
      refine wp_callW 10 #[.slice (some ⟨gr, 0, none⟩) k.length (k.length + 70)] (by kernel_rfl) _ (quote_any (some ⟨gr, 0, none⟩) k (k.length + 70) wr (by have := HLl.out; omega) (Box.nums8 HR.out)) (by kernel_rfl) ?_
      rintro e w_3 ⟨rfl, hk⟩
      have HR : Hid (Box w_3 gr 5 (roomL k (k.length + 70)).toArray) := HR.out.kept hk (fun e => e)
      have HB : Hid (Nums .u8 w_3 a (k.map bi)) := HB.out.no hk
      have HK : Hid (Kept No w w_3) := HK.out.then hk
      clear hk
      refine ⟨.string (bs (quoteL k)), rfl, ?_⟩
      try simp only [pA, pB, p1, p2, p3]
      refine tK (.string (bs (quoteL k))) ?_
      try simp only [pA, pB, p1, p2, p3]
      refine WL.nil ?_
      try simp only [pA, pB, p1, p2, p3]
      go_upto_region 11 with fail
      refine WL.start ?_
      refine tK (.string (bs (quoteL k))) ?_
      try simp only [pA, pB, p1, p2, p3]
      refine tK (.slice a k.length cap) ?_
      try simp only [pA, pB, p1, p2, p3]
      refine wp_callW 11 #[.slice a k.length cap] (by kernel_rfl) _ (refQuote_any a k cap w_3 (by have := HLl.out; omega) HB.out) (by kernel_rfl) ?_
      rintro e w_4 ⟨rfl, hk⟩
      have HR : Hid (Box w_4 gr 5 (roomL k (k.length + 70)).toArray) := HR.out.kept hk (fun e => e)
      have HB : Hid (Nums .u8 w_4 a (k.map bi)) := HB.out.no hk
      have HK : Hid (Kept No w w_4) := HK.out.then hk
      clear hk
      refine ⟨.string (bs (quoteL k)), rfl, ?_⟩
      try simp only [pA, pB, p1, p2, p3]
      refine tW (.bool false) (exec_bin .neq 9 _ _ _ rfl (.string (bs (quoteL k))) (.string (bs (quoteL k))) (.bool false) (by kernel_rfl) (by kernel_rfl) (by kernel_rfl) (by rw [b_neqS]; simp)) ?_
      try simp only [pA, pB, p1, p2, p3]
      refine tK (.bool false) ?_
      try simp only [pA, pB, p1, p2, p3]
      refine tK (.slice (some ⟨gr, 0, none⟩) k.length (k.length + 70)) ?_
      try simp only [pA, pB, p1, p2, p3]
      refine tW (.string (bs k)) (exec_conv _ 30 9 rfl _ _ (by kernel_rfl) (run_convR (cap := k.length + 70) (Box.nums8 HR.out) rfl)) ?_
      try simp only [pA, pB, p1, p2, p3]
      refine tK (.slice a k.length cap) ?_
      try simp only [pA, pB, p1, p2, p3]
      refine tW (.string (bs k)) (exec_conv _ 30 9 rfl _ _ (by kernel_rfl) (run_convR (cap := cap) HB.out rfl)) ?_
      try simp only [pA, pB, p1, p2, p3]
      refine tW (.bool false) (exec_bin .neq 9 _ _ _ rfl (.string (bs k)) (.string (bs k)) (.bool false) (by kernel_rfl) (by kernel_rfl) (by kernel_rfl) (by rw [b_neqS]; simp)) ?_
      try simp only [pA, pB, p1, p2, p3]
      refine tK (.bool false) ?_
      try simp only [pA, pB, p1, p2, p3]
      refine WL.nil ?_
      try simp only [pA, pB, p1, p2, p3]
      go_upto_region 13 with fail
      refine WL.start ?_
      refine tK (.slice a k.length cap) ?_
      try simp only [pA, pB, p1, p2, p3]
      refine tK (.int .i64 ((k.length : Nat) : Int)) ?_
      try simp only [pA, pB, p1, p2, p3]
      refine tK (.int .i64 ((k.length : Nat) : Int)) ?_
      try simp only [pA, pB, p1, p2, p3]
      refine WL.nil ?_
      try simp only [pA, pB, p1, p2, p3]
      clear hcm hp HI0
      go_wp2
      go_loopw [7] (fun v7 wr => ∃ i : Nat, v7 = .int .i64 ((i : Nat) : Int) ∧ Hid (k.length ≤ i ∧ i ≤ k.length + 70) ∧ Hid (Box wr gr 5 (roomL k (k.length + 70)).toArray) ∧ Hid (Nums .u8 wr a (k.map bi)) ∧ Hid (Kept No w wr)) (fun v7 _ => k.length + 70 - (intOf v7).toNat)
      case atStart => exact ⟨k.length, by go_num, ⟨by omega, by omega⟩, HR, HB, HK⟩
      case round =>
        clear HR HB HK
        obtain ⟨i, rfl, HI0, HR, HB, HK⟩ := hrel
        by_cases hp : i < k.length + 70
        · have hcm : ((i : Nat) : Int) < ((k.length + 70 : Nat) : Int) := by omega
          have HIi : Hid (k.length ≤ i ∧ i < k.length + 70) := ⟨HI0.out.1, hp⟩
          have HI : Hid (i ≤ 16070 ∧ k.length ≤ 16000) := ⟨by have := HLl.out; omega, HLl.out⟩
          go_upto_region 14 with fail
          refine WL.start ?_
          refine tK (.int .i64 ((i : Nat) : Int)) ?_
          try simp only [pA, pB, p1, p2, p3]
          refine tK (.slice (some ⟨gr, 0, none⟩) (k.length + 70) (k.length + 70)) ?_
          try simp only [pA, pB, p1, p2, p3]
          refine tK (.int .i64 (((k.length + 70) : Nat) : Int)) ?_
          try simp only [pA, pB, p1, p2, p3]
          refine tW (.bool (decide (((i : Nat) : Int) < (((k.length + 70) : Nat) : Int)))) (exec_bin .lss 3 _ _ _ rfl (.int .i64 ((i : Nat) : Int)) (.int .i64 (((k.length + 70) : Nat) : Int)) (.bool (decide (((i : Nat) : Int) < (((k.length + 70) : Nat) : Int)))) (by kernel_rfl) (by kernel_rfl) (by kernel_rfl) (b_lss _ _ _)) ?_
          try simp only [pA, pB, p1, p2, p3]
          refine WL.nil ?_
          try simp only [pA, pB, p1, p2, p3]
          go_upto_region 16 with fail
          refine WL.start ?_
          refine tK (.slice (some ⟨gr, 0, none⟩) (k.length + 70) (k.length + 70)) ?_
          try simp only [pA, pB, p1, p2, p3]
          refine tK (.int .i64 ((i : Nat) : Int)) ?_
          try simp only [pA, pB, p1, p2, p3]
          refine tW (.pointer (some ⟨gr, 0 + i * 1, none⟩)) (exec_ixA 30 1 E30 F30 _ _ rfl gr 0 (k.length + 70) (k.length + 70) i (by kernel_rfl) (by kernel_rfl) (by omega)) ?_
          try simp only [pA, pB, p1, p2, p3]
          refine tW (.int .u8 7) (exec_load 5 _ rfl ⟨gr, 0 + i * 1, none⟩ (by kernel_rfl) (.int .u8 7) (load_one (room_at HIi.out.1 HIi.out.2 HR.out) U5 rfl)) ?_
          try simp only [pA, pB, p1, p2, p3]
          refine tK (.bool false) ?_
          try simp only [pA, pB, p1, p2, p3]
          refine WL.nil ?_
          try simp only [pA, pB, p1, p2, p3]
          go_upto_region 15 with fail
          refine WL.start ?_
          refine tK (.int .i64 ((i : Nat) : Int)) ?_
          try simp only [pA, pB, p1, p2, p3]
          refine tW (.int .i64 ((i + 1 : Nat) : Int)) (exec_bin .add 3 _ _ _ rfl (.int .i64 ((i : Nat) : Int)) (.int .i64 1) (.int .i64 ((i + 1 : Nat) : Int)) (by kernel_rfl) (by kernel_rfl) (by kernel_rfl) (b_add1 i (by have := HI.out; omega) _)) ?_
          try simp only [pA, pB, p1, p2, p3]
          refine tK (.int .i64 ((i + 1 : Nat) : Int)) ?_
          try simp only [pA, pB, p1, p2, p3]
          refine WL.nil ?_
          try simp only [pA, pB, p1, p2, p3]
          go_wp2
          go_roundw
          case rel => exact ⟨i + 1, by go_num, ⟨by have := HIi.out; omega, by have := HIi.out; omega⟩, HR, HB, HK⟩
          case measure => have := HIi.out; simp [intOf]; omega
        · have hcm : ¬ ((i : Nat) : Int) < ((k.length + 70 : Nat) : Int) := by omega
          go_upto_region 14 with fail
          refine WL.start ?_
          refine tK (.int .i64 ((i : Nat) : Int)) ?_
          try simp only [pA, pB, p1, p2, p3]
          refine tK (.slice (some ⟨gr, 0, none⟩) (k.length + 70) (k.length + 70)) ?_
          try simp only [pA, pB, p1, p2, p3]
          refine tK (.int .i64 (((k.length + 70) : Nat) : Int)) ?_
          try simp only [pA, pB, p1, p2, p3]
          refine tW (.bool (decide (((i : Nat) : Int) < (((k.length + 70) : Nat) : Int)))) (exec_bin .lss 3 _ _ _ rfl (.int .i64 ((i : Nat) : Int)) (.int .i64 (((k.length + 70) : Nat) : Int)) (.bool (decide (((i : Nat) : Int) < (((k.length + 70) : Nat) : Int)))) (by kernel_rfl) (by kernel_rfl) (by kernel_rfl) (b_lss _ _ _)) ?_
          try simp only [pA, pB, p1, p2, p3]
          refine WL.nil ?_
          try simp only [pA, pB, p1, p2, p3]
          go_upto_region 18 with fail
          refine WL.start ?_
          refine tK (.string (bs (quoteL k))) ?_
          try simp only [pA, pB, p1, p2, p3]
          refine wp_callW 7 #[.string (bs (quoteL k))] (by kernel_rfl) _ (words_any (quoteL k) (by have h1 := HLl.out; have h2 := quoteL_len k; omega) wr) (by kernel_rfl) ?_
          rintro e w_5 ⟨hws, hk⟩
          rw [words_quote k] at hws
          obtain ⟨a_5, c_5, rfl, ho⟩ := hws.ss
          clear hws
          have HO5 : Hid (Own 9 1 w_5 wr.heap.size a_5 c_5 1 ([.string (bs k)])) := ho
          obtain ⟨g_5, rfl⟩ := HO5.out.some_of (by omega)
          have HR : Hid (Box w_5 gr 5 (roomL k (k.length + 70)).toArray) := HR.out.kept hk (fun e => e)
          have HB : Hid (Nums .u8 w_5 a (k.map bi)) := HB.out.no hk
          have HK : Hid (Kept No w w_5) := HK.out.then hk
          clear hk ho
          refine ⟨.tuple #[.slice (some ⟨g_5, 0, none⟩) 1 c_5, .int .i64 0], rfl, ?_⟩
          try simp only [pA, pB, p1, p2, p3]
          refine tK (.tuple #[.slice (some ⟨g_5, 0, none⟩) 1 c_5, .int .i64 0]) ?_
          try simp only [pA, pB, p1, p2, p3]
          refine tK (.slice (some ⟨g_5, 0, none⟩) 1 c_5) ?_
          try simp only [pA, pB, p1, p2, p3]
          refine tK (.int .i64 0) ?_
          try simp only [pA, pB, p1, p2, p3]
          refine tK (.slice (some ⟨g_5, 0, none⟩) 1 c_5) ?_
          try simp only [pA, pB, p1, p2, p3]
          refine tK (.int .i64 0) ?_
          try simp only [pA, pB, p1, p2, p3]
          refine WL.nil ?_
          try simp only [pA, pB, p1, p2, p3]
          go_upto_region 19 with fail
          have HO5 : Hid (Own 9 1 w_5.drew wr.heap.size (some ⟨g_5, 0, none⟩) c_5 1 ([.string (bs k)])) := HO5.out.no (Kept.refl No _).drew
          have HK : Hid (Kept No w w_5.drew) := HK.out.drew
          have HR : Hid (Box w_5.drew gr 5 (roomL k (k.length + 70)).toArray) := HR.out.kept (Kept.refl No _).drew (fun e => e)
          have HB : Hid (Nums .u8 w_5.drew a (k.map bi)) := HB.out.no (Kept.refl No _).drew
          refine wp_region_held_drew (S := fun w' => Own 9 1 w' wr.heap.size (some ⟨g_5, 0, none⟩) c_5 1 ([.string (bs k)]) ∧ Nums .u8 w' a (k.map bi)) rfl ⟨HO5.out, HB.out⟩ (fun hH => ?_)
          generalize w_5.drew = wk7 at HO5 HK HR HB hH ⊢
          refine aT (i := 0) (oi := { dst := some 68, op := Op.move (Operand.tmp 9), type := 23, pos := "law.go:64", after := #[], guard := none }) (v := .int .i64 0) (fun _ _ => by kernel_rfl) hH ?_
          try simp only [pA, pB, p1, p2, p3]
          refine aT (i := 1) (oi := { dst := some 69, op := Op.binOp BinOp.eql 23 (Operand.tmp 68) (Operand.const (Value.int IntKind.i64 0)) 23, type := 4, pos := "law.go:64", after := #[{ on := 0, ground := Ground.data }], guard := none }) (v := .bool true) (fun _ _ => by kernel_rfl) hH ?_
          try simp only [pA, pB, p1, p2, p3]
          refine aT (i := 2) (oi := { dst := some 70, op := Op.move (Operand.tmp 69), type := 4, pos := "law.go:64", after := #[{ on := 1, ground := Ground.data }], guard := none }) (v := .bool true) (fun _ _ => by kernel_rfl) hH ?_
          try simp only [pA, pB, p1, p2, p3]
          refine aT (i := 3) (oi := { dst := some 71, op := Op.move (Operand.tmp 8), type := 22, pos := "law.go:64", after := #[{ on := 2, ground := Ground.guard }], guard := some (2, true) }) (v := .slice (some ⟨g_5, 0, none⟩) 1 c_5) (fun _ _ => by kernel_rfl) hH ?_
          try simp only [pA, pB, p1, p2, p3]
          refine aT (i := 4) (oi := { dst := some 72, op := Op.call { callee := Callee.builtin Builtin.len, args := #[Operand.tmp 71], argTypes := #[22] }, type := 3, pos := "law.go:64", after := #[{ on := 3, ground := Ground.data }, { on := 2, ground := Ground.guard }], guard := some (2, true) }) (v := .int .i64 ((1 : Nat) : Int)) (fun _ _ => by kernel_rfl) hH ?_
          try simp only [pA, pB, p1, p2, p3]
          refine aT (i := 5) (oi := { dst := some 73, op := Op.binOp BinOp.eql 3 (Operand.tmp 72) (Operand.const (Value.int IntKind.i64 1)) 3, type := 4, pos := "law.go:64", after := #[{ on := 4, ground := Ground.data }, { on := 2, ground := Ground.guard }], guard := some (2, true) }) (v := .bool true) (fun _ _ => by kernel_rfl) hH ?_
          try simp only [pA, pB, p1, p2, p3]
          refine aT (i := 6) (oi := { dst := some 74, op := Op.pick (Operand.tmp 70) (Operand.tmp 73) (Operand.const (Value.bool false)), type := 4, pos := "law.go:64", after := #[{ on := 2, ground := Ground.data }, { on := 5, ground := Ground.data }], guard := none }) (v := .bool true) (fun _ _ => by kernel_rfl) hH ?_
          try simp only [pA, pB, p1, p2, p3]
          refine aT (i := 7) (oi := { dst := some 75, op := Op.move (Operand.tmp 74), type := 4, pos := "law.go:64", after := #[{ on := 6, ground := Ground.data }, { on := 2, ground := Ground.chain }], guard := none }) (v := .bool true) (fun _ _ => by kernel_rfl) hH ?_
          try simp only [pA, pB, p1, p2, p3]
          refine aT (i := 8) (oi := { dst := some 76, op := Op.move (Operand.tmp 8), type := 22, pos := "law.go:64", after := #[{ on := 7, ground := Ground.guard }], guard := some (7, true) }) (v := .slice (some ⟨g_5, 0, none⟩) 1 c_5) (fun _ _ => by kernel_rfl) hH ?_
          try simp only [pA, pB, p1, p2, p3]
          refine aT (i := 9) (oi := { dst := some 77, op := Op.indexAddr 22 (Operand.tmp 76) (Operand.const (Value.int IntKind.i64 0)), type := 0, pos := "law.go:64", after := #[{ on := 8, ground := Ground.data }, { on := 7, ground := Ground.guard }], guard := some (7, true) }) (v := .pointer (some ⟨g_5, 0, none⟩)) (fun w' hw => exec_ixA 22 1 E22 F22 _ _ rfl g_5 0 1 c_5 0 (by kernel_rfl) (by kernel_rfl) (by omega)) hH ?_
          try simp only [pA, pB, p1, p2, p3]
          refine aT (i := 10) (oi := { dst := some 78, op := Op.load 9 (Operand.tmp 77), type := 9, pos := "law.go:64", after := #[{ on := 9, ground := Ground.data }, { on := 7, ground := Ground.guard }], guard := some (7, true) }) (v := .string (bs k)) (fun w' hw => exec_load 9 _ rfl ⟨g_5, 0, none⟩ (by kernel_rfl) (.string (bs k)) (load_one (hw.1.cellAt (i := 0) (by rfl)) U9 rfl)) hH ?_
          try simp only [pA, pB, p1, p2, p3]
          refine aT (i := 11) (oi := { dst := some 79, op := Op.move (Operand.tmp 0), type := 30, pos := "law.go:64", after := #[{ on := 7, ground := Ground.guard }], guard := some (7, true) }) (v := .slice a k.length cap) (fun _ _ => by kernel_rfl) hH ?_
          try simp only [pA, pB, p1, p2, p3]
          refine aT (i := 12) (oi := { dst := some 80, op := Op.convert 30 9 (Operand.tmp 79), type := 9, pos := "law.go:64", after := #[{ on := 11, ground := Ground.data }, { on := 7, ground := Ground.guard }], guard := some (7, true) }) (v := .string (bs k)) (fun w' hw => exec_conv _ 30 9 rfl _ _ (by kernel_rfl) (run_convR (cap := cap) hw.2 rfl)) hH ?_
          try simp only [pA, pB, p1, p2, p3]
          refine aT (i := 13) (oi := { dst := some 81, op := Op.binOp BinOp.eql 9 (Operand.tmp 78) (Operand.tmp 80) 9, type := 4, pos := "law.go:64", after := #[{ on := 10, ground := Ground.data }, { on := 12, ground := Ground.data }, { on := 7, ground := Ground.guard }], guard := some (7, true) }) (v := .bool true) (fun w' hw => exec_bin .eql 9 _ _ _ rfl (.string (bs k)) (.string (bs k)) (.bool true) (by kernel_rfl) (by kernel_rfl) (by kernel_rfl) (by rw [b_eqlS]; simp)) hH ?_
          try simp only [pA, pB, p1, p2, p3]
          refine aT (i := 14) (oi := { dst := some 82, op := Op.pick (Operand.tmp 75) (Operand.tmp 81) (Operand.const (Value.bool false)), type := 4, pos := "law.go:64", after := #[{ on := 7, ground := Ground.data }, { on := 13, ground := Ground.data }], guard := none }) (v := .bool true) (fun _ _ => by kernel_rfl) hH ?_
          try simp only [pA, pB, p1, p2, p3]
          refine aT (i := 15) (oi := { dst := some 2, op := Op.assign (Operand.tmp 82), type := 4, pos := "law.go:64", after := #[{ on := 14, ground := Ground.data }, { on := 7, ground := Ground.chain }, { on := 0, ground := Ground.phase }, { on := 1, ground := Ground.phase }, { on := 2, ground := Ground.phase }, { on := 3, ground := Ground.phase }, { on := 4, ground := Ground.phase }, { on := 5, ground := Ground.phase }, { on := 6, ground := Ground.phase }, { on := 7, ground := Ground.phase }, { on := 8, ground := Ground.phase }, { on := 9, ground := Ground.phase }, { on := 10, ground := Ground.phase }, { on := 11, ground := Ground.phase }, { on := 12, ground := Ground.phase }, { on := 13, ground := Ground.phase }, { on := 14, ground := Ground.phase }], guard := none }) (v := .bool true) (fun _ _ => by kernel_rfl) hH ?_
          try simp only [pA, pB, p1, p2, p3]
          refine wpAnyH_done (by kernel_rfl) ?_ _
          try simp only [pA, pB, p1, p2, p3]
          clear hH
          go_wp2
          rw [HC.out]
          exact ⟨rfl, HK.out⟩

end Go.Proofs.Ytgnfeegnhdbnkaa
