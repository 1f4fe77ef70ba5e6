import Derived.Test.YtgnfeegnhdbnkaaP0
namespace Go.Proofs.Ytgnfeegnhdbnkaa
open Go.RowKit Go.Lib
set_option linter.unusedVariables false
set_option linter.unusedSimpArgs false

theorem b_eqlS (a b : List UInt8) (w : World) : (binOp .eql 9 (.string (bs a)) (.string (bs b))).run Try.prog w = .ok (.bool (a == b)) w := by
  rw [binOp_string_eql, bs_eq]; rfl
theorem runS_rin : ∀ (l : List UInt8) (t : St) (i : Nat), Rin t i → Rin (runS t l) (i + l.length)
  | [], t, i, h => h
  | c :: l, t, i, h => by
    unfold runS
    by_cases hb : t.bad = true
    · rw [if_pos hb]; exact ⟨h.inn, h.dg, by have := h.len; simp; omega⟩
    · rw [if_neg hb]
      have := runS_rin l _ _ (h.next c)
      rw [List.length_cons, show i + (l.length + 1) = i + 1 + l.length by omega]
      exact this
theorem words_len {l : List UInt8} {ws : List (List UInt8)} (h : wordsOf l = some ws) : ws.length ≤ l.length + 1 := by
  have hr := (runS_rin l s0 0 ⟨by show 0 ≤ 7; omega, fun _ e => (by have e : (0 : Nat) = 5 := e; omega), by show 0 + 0 ≤ 0; omega⟩).len
  unfold wordsOf at h
  split at h
  · cases h
  · cases h
    split
    · simp; omega
    · omega
theorem words_a : wordsOf [97] = some [[97]] := by decide
set_option maxRecDepth 100000 in
set_option maxHeartbeats 4000000 in
theorem wordsWalk (l : List UInt8) (hl : l.length ≤ 100000000000) (w : World) : Calls Try.prog 3 #[.string (bs l)] w (fun e w' => e = .returned (.bool true) ∧ Kept No w w') := by
  obtain ⟨C, hC⟩ : ∃ C : Ending → World → Prop, C = (fun e w' => e = .returned (.bool true) ∧ Kept No w w') := ⟨_, rfl⟩
  have HC : Hid (C = (fun e w' => e = .returned (.bool true) ∧ Kept No w w')) := hC
  rw [← hC]
  clear hC
  have HLl : Hid (l.length ≤ 1000000000000) := show l.length ≤ 1000000000000 by omega
  have HK : Hid (Kept No w w) := Kept.refl _ _
  cases hz : wordsOf l with
  | none =>
    have HZ : Hid (wordsOf l = none) := hz
    clear hz
    go_enter Try.func3, Try.ntmps3
    go_upto_region 0 with fail
    refine WL.start ?_
    refine tK (.bool false) ?_
    try simp only [pA, pB, p1, p2, p3]
    refine WL.nil ?_
    try simp only [pA, pB, p1, p2, p3]
    go_upto_region 1 with fail
    refine WL.start ?_
    refine wp_callW 7 #[.string ⟨#[97]⟩] (by kernel_rfl) _ (words_any ([97]) (by decide) w) (by kernel_rfl) ?_
    rintro e w_0 ⟨hws, hk⟩
    rw [words_a] at hws
    obtain ⟨a_0, c_0, rfl, ho⟩ := hws.ss
    clear hws
    have HO0 : Hid (Own 9 1 w_0 w.heap.size a_0 c_0 1 ([.string (bs [97])])) := ho
    obtain ⟨g_0, rfl⟩ := HO0.out.some_of (by omega)
    have HK : Hid (Kept No w w_0) := HK.out.then hk
    clear hk ho
    refine ⟨.tuple #[.slice (some ⟨g_0, 0, none⟩) 1 c_0, .int .i64 0], rfl, ?_⟩
    try simp only [pA, pB, p1, p2, p3]
    refine tK (.tuple #[.slice (some ⟨g_0, 0, none⟩) 1 c_0, .int .i64 0]) ?_
    try simp only [pA, pB, p1, p2, p3]
    refine tK (.slice (some ⟨g_0, 0, none⟩) 1 c_0) ?_
    try simp only [pA, pB, p1, p2, p3]
    refine tK (.int .i64 0) ?_
    try simp only [pA, pB, p1, p2, p3]
    refine tK (.slice (some ⟨g_0, 0, none⟩) 1 c_0) ?_
    try simp only [pA, pB, p1, p2, p3]
    refine tK (.int .i64 0) ?_
    try simp only [pA, pB, p1, p2, p3]
    refine WL.nil ?_
    try simp only [pA, pB, p1, p2, p3]
    go_upto_region 2 with fail
    refine WL.start ?_
    refine tK (.int .i64 0) ?_
    try simp only [pA, pB, p1, p2, p3]
    refine tK (.bool false) ?_
    try simp only [pA, pB, p1, p2, p3]
    refine tK (.bool false) ?_
    try simp only [pA, pB, p1, p2, p3]
    refine tK (.slice (some ⟨g_0, 0, none⟩) 1 c_0) ?_
    try simp only [pA, pB, p1, p2, p3]
    refine tK (.int .i64 ((1 : Nat) : Int)) ?_
    try simp only [pA, pB, p1, p2, p3]
    refine tK (.bool false) ?_
    try simp only [pA, pB, p1, p2, p3]
    refine tK (.bool false) ?_
    try simp only [pA, pB, p1, p2, p3]
    refine tK (.bool false) ?_
    try simp only [pA, pB, p1, p2, p3]
    refine tK (.slice (some ⟨g_0, 0, none⟩) 1 c_0) ?_
    try simp only [pA, pB, p1, p2, p3]
    refine tW (.pointer (some ⟨g_0, 0, none⟩)) (exec_ixA 22 1 E22 F22 _ _ rfl g_0 0 1 c_0 0 (by kernel_rfl) (by kernel_rfl) (by omega)) ?_
    try simp only [pA, pB, p1, p2, p3]
    refine tW (.string (bs [97])) (exec_load 9 _ rfl ⟨g_0, 0, none⟩ (by kernel_rfl) (.string (bs [97])) (load_one (HO0.out.cellAt (i := 0) (by rfl)) U9 rfl)) ?_
    try simp only [pA, pB, p1, p2, p3]
    refine tW (.bool false) (exec_bin .neq 9 _ _ _ rfl (.string (bs [97])) (.string ⟨#[97]⟩) (.bool false) (by kernel_rfl) (by kernel_rfl) (by kernel_rfl) (by first | (exact (b_neqS [97] [97] _).trans (by rfl)))) ?_
    try simp only [pA, pB, p1, p2, p3]
    refine tK (.bool false) ?_
    try simp only [pA, pB, p1, p2, p3]
    refine WL.nil ?_
    try simp only [pA, pB, p1, p2, p3]
    go_upto_region 4 with fail
    refine WL.start ?_
    refine tK (.string (bs l)) ?_
    try simp only [pA, pB, p1, p2, p3]
    refine wp_callW 7 #[.string (bs l)] (by kernel_rfl) _ (words_any l HLl.out w_0) (by kernel_rfl) ?_
    rintro e w_1 ⟨hws, hk⟩
    rw [HZ.out] at hws
    obtain rfl := hws.nn
    have HO0 : Hid (Own 9 1 w_1 w.heap.size (some ⟨g_0, 0, none⟩) c_0 1 ([.string (bs [97])])) := HO0.out.no hk
    have HK : Hid (Kept No w w_1) := HK.out.then hk
    clear hk hws
    refine ⟨.tuple #[.slice none 0 0, .int .i64 200], rfl, ?_⟩
    try simp only [pA, pB, p1, p2, p3]
    refine tK (.tuple #[.slice none 0 0, .int .i64 200]) ?_
    try simp only [pA, pB, p1, p2, p3]
    refine tK (.slice none 0 0) ?_
    try simp only [pA, pB, p1, p2, p3]
    refine tK (.int .i64 200) ?_
    try simp only [pA, pB, p1, p2, p3]
    refine tK (.slice none 0 0) ?_
    try simp only [pA, pB, p1, p2, p3]
    refine tK (.int .i64 200) ?_
    try simp only [pA, pB, p1, p2, p3]
    refine WL.nil ?_
    try simp only [pA, pB, p1, p2, p3]
    go_upto_region 5 with fail
    refine WL.start ?_
    refine tK (.string (bs l)) ?_
    try simp only [pA, pB, p1, p2, p3]
    refine wp_callW 8 #[.string (bs l)] (by kernel_rfl) _ (refWords_any l HLl.out w_1) (by kernel_rfl) ?_
    rintro e w_2 ⟨hws, hk⟩
    rw [HZ.out] at hws
    obtain rfl := hws.nn
    have HO0 : Hid (Own 9 1 w_2 w.heap.size (some ⟨g_0, 0, none⟩) c_0 1 ([.string (bs [97])])) := HO0.out.no hk
    have HK : Hid (Kept No w w_2) := HK.out.then hk
    clear hk hws
    refine ⟨.tuple #[.slice none 0 0, .int .i64 200], rfl, ?_⟩
    try simp only [pA, pB, p1, p2, p3]
    refine tK (.tuple #[.slice none 0 0, .int .i64 200]) ?_
    try simp only [pA, pB, p1, p2, p3]
    refine tK (.slice none 0 0) ?_
    try simp only [pA, pB, p1, p2, p3]
    refine tK (.int .i64 200) ?_
    try simp only [pA, pB, p1, p2, p3]
    refine tK (.slice none 0 0) ?_
    try simp only [pA, pB, p1, p2, p3]
    refine tK (.int .i64 200) ?_
    try simp only [pA, pB, p1, p2, p3]
    refine WL.nil ?_
    try simp only [pA, pB, p1, p2, p3]
    go_upto_region 6 with fail
    refine WL.start ?_
    refine tK (.int .i64 200) ?_
    try simp only [pA, pB, p1, p2, p3]
    refine tK (.int .i64 200) ?_
    try simp only [pA, pB, p1, p2, p3]
    refine tK (.bool true) ?_
    try simp only [pA, pB, p1, p2, p3]
    refine tK (.bool true) ?_
    try simp only [pA, pB, p1, p2, p3]
    refine tK (.slice none 0 0) ?_
    try simp only [pA, pB, p1, p2, p3]
    refine tK (.slice none 0 0) ?_
    try simp only [pA, pB, p1, p2, p3]
    refine wp_callW 9 #[.slice none 0 0, .slice none 0 0] (by kernel_rfl) _ (same_any _ _ none none 0 0 ([]) ([]) w_2 (Own.nil _ _ _ 0) (Own.nil _ _ _ 0) (by simp)) (by kernel_rfl) ?_
    rintro e w_3 ⟨rfl, hk⟩
    have HO0 : Hid (Own 9 1 w_3 w.heap.size (some ⟨g_0, 0, none⟩) c_0 1 ([.string (bs [97])])) := HO0.out.no hk
    have HK : Hid (Kept No w w_3) := HK.out.then hk
    clear hk
    refine ⟨.bool true, by simp, ?_⟩
    try simp only [pA, pB, p1, p2, p3]
    refine tK (.bool true) ?_
    try simp only [pA, pB, p1, p2, p3]
    refine tK (.bool true) ?_
    try simp only [pA, pB, p1, p2, p3]
    refine WL.nil ?_
    try simp only [pA, pB, p1, p2, p3]
    go_wp2
    rw [HC.out]
    exact ⟨rfl, HK.out⟩
  | some ws =>
    have HWl : Hid (ws.length ≤ 1000000000000) := show ws.length ≤ 1000000000000 by have := words_len hz; omega
    have HZ : Hid (wordsOf l = some ws) := hz
    clear hz
    go_enter Try.func3, Try.ntmps3
    go_upto_region 0 with fail
    refine WL.start ?_
    refine tK (.bool false) ?_
    try simp only [pA, pB, p1, p2, p3]
    refine WL.nil ?_
    try simp only [pA, pB, p1, p2, p3]
    go_upto_region 1 with fail
    refine WL.start ?_
    refine wp_callW 7 #[.string ⟨#[97]⟩] (by kernel_rfl) _ (words_any ([97]) (by decide) w) (by kernel_rfl) ?_
    rintro e w_4 ⟨hws, hk⟩
    rw [words_a] at hws
    obtain ⟨a_4, c_4, rfl, ho⟩ := hws.ss
    clear hws
    have HO4 : Hid (Own 9 1 w_4 w.heap.size a_4 c_4 1 ([.string (bs [97])])) := ho
    obtain ⟨g_4, rfl⟩ := HO4.out.some_of (by omega)
    have HK : Hid (Kept No w w_4) := HK.out.then hk
    clear hk ho
    refine ⟨.tuple #[.slice (some ⟨g_4, 0, none⟩) 1 c_4, .int .i64 0], rfl, ?_⟩
    try simp only [pA, pB, p1, p2, p3]
    refine tK (.tuple #[.slice (some ⟨g_4, 0, none⟩) 1 c_4, .int .i64 0]) ?_
    try simp only [pA, pB, p1, p2, p3]
    refine tK (.slice (some ⟨g_4, 0, none⟩) 1 c_4) ?_
    try simp only [pA, pB, p1, p2, p3]
    refine tK (.int .i64 0) ?_
    try simp only [pA, pB, p1, p2, p3]
    refine tK (.slice (some ⟨g_4, 0, none⟩) 1 c_4) ?_
    try simp only [pA, pB, p1, p2, p3]
    refine tK (.int .i64 0) ?_
    try simp only [pA, pB, p1, p2, p3]
    refine WL.nil ?_
    try simp only [pA, pB, p1, p2, p3]
    go_upto_region 2 with fail
    refine WL.start ?_
    refine tK (.int .i64 0) ?_
    try simp only [pA, pB, p1, p2, p3]
    refine tK (.bool false) ?_
    try simp only [pA, pB, p1, p2, p3]
    refine tK (.bool false) ?_
    try simp only [pA, pB, p1, p2, p3]
    refine tK (.slice (some ⟨g_4, 0, none⟩) 1 c_4) ?_
    try simp only [pA, pB, p1, p2, p3]
    refine tK (.int .i64 ((1 : Nat) : Int)) ?_
    try simp only [pA, pB, p1, p2, p3]
    refine tK (.bool false) ?_
    try simp only [pA, pB, p1, p2, p3]
    refine tK (.bool false) ?_
    try simp only [pA, pB, p1, p2, p3]
    refine tK (.bool false) ?_
    try simp only [pA, pB, p1, p2, p3]
    refine tK (.slice (some ⟨g_4, 0, none⟩) 1 c_4) ?_
    try simp only [pA, pB, p1, p2, p3]
    refine tW (.pointer (some ⟨g_4, 0, none⟩)) (exec_ixA 22 1 E22 F22 _ _ rfl g_4 0 1 c_4 0 (by kernel_rfl) (by kernel_rfl) (by omega)) ?_
    try simp only [pA, pB, p1, p2, p3]
    refine tW (.string (bs [97])) (exec_load 9 _ rfl ⟨g_4, 0, none⟩ (by kernel_rfl) (.string (bs [97])) (load_one (HO4.out.cellAt (i := 0) (by rfl)) U9 rfl)) ?_
    try simp only [pA, pB, p1, p2, p3]
    refine tW (.bool false) (exec_bin .neq 9 _ _ _ rfl (.string (bs [97])) (.string ⟨#[97]⟩) (.bool false) (by kernel_rfl) (by kernel_rfl) (by kernel_rfl) (by first | (exact (b_neqS [97] [97] _).trans (by rfl)))) ?_
    try simp only [pA, pB, p1, p2, p3]
    refine tK (.bool false) ?_
    try simp only [pA, pB, p1, p2, p3]
    refine WL.nil ?_
    try simp only [pA, pB, p1, p2, p3]
    go_upto_region 4 with fail
    refine WL.start ?_
    refine tK (.string (bs l)) ?_
    try simp only [pA, pB, p1, p2, p3]
    refine wp_callW 7 #[.string (bs l)] (by kernel_rfl) _ (words_any l HLl.out w_4) (by kernel_rfl) ?_
    rintro e w_5 ⟨hws, hk⟩
    rw [HZ.out] at hws
    obtain ⟨a_5, c_5, rfl, ho⟩ := hws.ss
    clear hws
    have HO5 : Hid (Own 9 1 w_5 w_4.heap.size a_5 c_5 ws.length (ws.map strV)) := ho
    have HO4 : Hid (Own 9 1 w_5 w.heap.size (some ⟨g_4, 0, none⟩) c_4 1 ([.string (bs [97])])) := HO4.out.no hk
    have HK : Hid (Kept No w w_5) := HK.out.then hk
    clear hk ho
    refine ⟨.tuple #[.slice a_5 ws.length c_5, .int .i64 0], rfl, ?_⟩
    try simp only [pA, pB, p1, p2, p3]
    refine tK (.tuple #[.slice a_5 ws.length c_5, .int .i64 0]) ?_
    try simp only [pA, pB, p1, p2, p3]
    refine tK (.slice a_5 ws.length c_5) ?_
    try simp only [pA, pB, p1, p2, p3]
    refine tK (.int .i64 0) ?_
    try simp only [pA, pB, p1, p2, p3]
    refine tK (.slice a_5 ws.length c_5) ?_
    try simp only [pA, pB, p1, p2, p3]
    refine tK (.int .i64 0) ?_
    try simp only [pA, pB, p1, p2, p3]
    refine WL.nil ?_
    try simp only [pA, pB, p1, p2, p3]
    go_upto_region 5 with fail
    refine WL.start ?_
    refine tK (.string (bs l)) ?_
    try simp only [pA, pB, p1, p2, p3]
    refine wp_callW 8 #[.string (bs l)] (by kernel_rfl) _ (refWords_any l HLl.out w_5) (by kernel_rfl) ?_
    rintro e w_6 ⟨hws, hk⟩
    rw [HZ.out] at hws
    obtain ⟨a_6, c_6, rfl, ho⟩ := hws.ss
    clear hws
    have HO6 : Hid (Own 9 1 w_6 w_5.heap.size a_6 c_6 ws.length (ws.map strV)) := ho
    have HO4 : Hid (Own 9 1 w_6 w.heap.size (some ⟨g_4, 0, none⟩) c_4 1 ([.string (bs [97])])) := HO4.out.no hk
    have HO5 : Hid (Own 9 1 w_6 w_4.heap.size a_5 c_5 ws.length (ws.map strV)) := HO5.out.no hk
    have HK : Hid (Kept No w w_6) := HK.out.then hk
    clear hk ho
    refine ⟨.tuple #[.slice a_6 ws.length c_6, .int .i64 0], rfl, ?_⟩
    try simp only [pA, pB, p1, p2, p3]
    refine tK (.tuple #[.slice a_6 ws.length c_6, .int .i64 0]) ?_
    try simp only [pA, pB, p1, p2, p3]
    refine tK (.slice a_6 ws.length c_6) ?_
    try simp only [pA, pB, p1, p2, p3]
    refine tK (.int .i64 0) ?_
    try simp only [pA, pB, p1, p2, p3]
    refine tK (.slice a_6 ws.length c_6) ?_
    try simp only [pA, pB, p1, p2, p3]
    refine tK (.int .i64 0) ?_
    try simp only [pA, pB, p1, p2, p3]
    refine WL.nil ?_
    try simp only [pA, pB, p1, p2, p3]
    go_upto_region 6 with fail
    refine WL.start ?_
    refine tK (.int .i64 0) ?_
    try simp only [pA, pB, p1, p2, p3]
    refine tK (.int .i64 0) ?_
    try simp only [pA, pB, p1, p2, p3]
    refine tK (.bool true) ?_
    try simp only [pA, pB, p1, p2, p3]
    refine tK (.bool true) ?_
    try simp only [pA, pB, p1, p2, p3]
    refine tK (.slice a_5 ws.length c_5) ?_
    try simp only [pA, pB, p1, p2, p3]
    refine tK (.slice a_6 ws.length c_6) ?_
    try simp only [pA, pB, p1, p2, p3]
    refine wp_callW 9 #[.slice a_5 ws.length c_5, .slice a_6 ws.length c_6] (by kernel_rfl) _ (same_any _ _ a_5 a_6 c_5 c_6 ws ws w_6 HO5.out HO6.out HWl.out) (by kernel_rfl) ?_
    rintro e w_7 ⟨rfl, hk⟩
    have HO4 : Hid (Own 9 1 w_7 w.heap.size (some ⟨g_4, 0, none⟩) c_4 1 ([.string (bs [97])])) := HO4.out.no hk
    have HO5 : Hid (Own 9 1 w_7 w_4.heap.size a_5 c_5 ws.length (ws.map strV)) := HO5.out.no hk
    have HO6 : Hid (Own 9 1 w_7 w_5.heap.size a_6 c_6 ws.length (ws.map strV)) := HO6.out.no hk
    have HK : Hid (Kept No w w_7) := HK.out.then hk
    clear hk
    refine ⟨.bool true, by simp, ?_⟩
    try simp only [pA, pB, p1, p2, p3]
    refine tK (.bool true) ?_
    try simp only [pA, pB, p1, p2, p3]
    refine tK (.bool true) ?_
    try simp only [pA, pB, p1, p2, p3]
    refine WL.nil ?_
    try simp only [pA, pB, p1, p2, p3]
    go_wp2
    rw [HC.out]
    exact ⟨rfl, HK.out⟩

end Go.Proofs.Ytgnfeegnhdbnkaa
