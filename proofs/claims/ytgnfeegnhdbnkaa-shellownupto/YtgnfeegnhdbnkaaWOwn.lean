import Derived.Test.YtgnfeegnhdbnkaaTc
namespace Go.Proofs.Ytgnfeegnhdbnkaa
open Go.RowKit Go.Lib
set_option linter.unusedVariables false
set_option linter.unusedSimpArgs false

theorem b_gtr3 (x y : Int) (w : World) : (binOp .gtr 3 (.int .i64 x) (.int .i64 y)).run Try.prog w = .ok (.bool (decide (y < x))) w := by kernel_rfl
theorem push2 {X : List It} {x y z : It} {j : Nat} (h : (X ++ [x] ++ [y])[j]? = some z) : X[j]? = some z ∨ z = x ∨ z = y := by
  have hm := List.mem_of_getElem? h
  by_cases hj : j < X.length
  · left
    rw [List.append_assoc, List.getElem?_append_left hj] at h
    exact h
  · right
    rw [List.append_assoc, List.getElem?_append_right (by omega)] at h
    have := List.mem_of_getElem? h
    simpa using this
theorem zt_push2 {X : List It} (h : Zt X 0) {x y : It} (h1 : x.a2 = none) (h2 : x.vs2 = []) (h3 : x.c2 = 0) (k1 : y.a2 = none) (k2 : y.vs2 = []) (k3 : y.c2 = 0) : Zt (X ++ [x] ++ [y]) 0 := fun j z hz hj => by
  rcases push2 hz with e | rfl | rfl
  · exact h j z e hj
  · exact ⟨h1, h2, h3⟩
  · exact ⟨k1, k2, k3⟩
theorem sz_push2 {X : List It} (h : Sz X) {x y : It} (h1 : x.vs.length ≤ 200000000000) (k1 : y.vs.length ≤ 200000000000) : Sz (X ++ [x] ++ [y]) := fun j z hz => by
  rcases push2 hz with e | rfl | rfl
  · exact h j z e
  · exact h1
  · exact k1
theorem dn_set {X : List It} {i : Nat} {x x' : It} (hx : X[i]? = some x) (h : Dn X i) : Dn (X.set i x') i := fun j y hy hj => by
  rcases set_get hx hy with ⟨e, _⟩ | ⟨_, hy⟩
  · omega
  · exact h j y hy hj
theorem filled {X : List It} {i j : Nat} {x : It} {s : List UInt8} (hx : X[i]? = some x) (h : ∀ x, X[i]? = some x → ∀ k, k < j → x.vs[k]? = some (strV s)) (hj : j < x.vs.length) : ∀ y, (X.set i { x with vs := x.vs.set j (strV s) })[i]? = some y → ∀ k, k < j + 1 → y.vs[k]? = some (strV s) := fun y hy k hk => by
  rcases set_get hx hy with ⟨_, rfl⟩ | ⟨e, _⟩
  · show (x.vs.set j (strV s))[k]? = _
    by_cases e : j = k
    · subst e; rw [List.getElem?_set_self hj]
    · rw [List.getElem?_set_ne e]; exact h x hx k (by omega)
  · exact absurd rfl e
theorem dn_next {X : List It} {i : Nat} {x : It} (hx : X[i]? = some x) (h : Dn X i) (hf : ∀ k, k < x.vs.length → x.vs[k]? = some (strV (kB i))) : Dn X (i + 1) := fun j y hy hj => by
  by_cases e : j = i
  · subst e
    rw [hx] at hy
    cases hy
    apply List.ext_getElem?
    intro k
    by_cases hk : k < x.vs.length
    · rw [hf k hk, List.getElem?_replicate, if_pos hk]
    · rw [List.getElem?_eq_none (by omega), List.getElem?_eq_none (by simp; omega)]
  · exact h j y hy (by omega)
set_option maxRecDepth 100000 in
set_option maxHeartbeats 4000000 in
theorem ownWalk (a : Option Addr) (ls : List (List UInt8)) (cap : Nat) (w : World) (hW : Lns w a ls) (hln : ∀ l ∈ ls, l.length ≤ 100000000000) : Calls Try.prog 6 #[.slice a ls.length cap] w (fun e w' => e = .returned (.bool true) ∧ Kept No w w') := by
  obtain ⟨C, hC⟩ : ∃ C : Ending → World → Prop, C = (fun e w' => e = .returned (.bool true) ∧ Kept No w w') := ⟨_, rfl⟩
  have HC : Hid (C = (fun e w' => e = .returned (.bool true) ∧ Kept No w w')) := hC
  rw [← hC]
  clear hC
  have HB : Hid (Lns w a ls) := hW
  have HLn : Hid (∀ l ∈ ls, l.length ≤ 100000000000) := show ∀ l ∈ ls, l.length ≤ 100000000000 from hln
  have HK : Hid (Kept No w w) := Kept.refl _ _
  obtain ⟨n0, hn0⟩ : ∃ n, n = w.heap.size := ⟨_, rfl⟩
  have HN0 : Hid (n0 = w.heap.size) := hn0
  have HL : Hid (n0 ≤ w.heap.size) := show n0 ≤ w.heap.size by omega
  clear hW hln hn0
  go_enter Try.func6, Try.ntmps6
  go_upto_region 0 with fail
  refine WL.start ?_
  refine tK (.bool false) ?_
  try simp only [pA, pB, p1, p2, p3]
  refine WL.nil ?_
  try simp only [pA, pB, p1, p2, p3]
  go_upto_region 1 with fail
  refine WL.start ?_
  refine wp_callW 7 #[.string ⟨#[97, 32, 34, 98, 34]⟩] (by kernel_rfl) _ (words_any ([97, 32, 34, 98, 34]) (by decide) w) (by kernel_rfl) ?_
  rintro e w_0 ⟨hws, hk⟩
  rw [words_ab] at hws
  obtain ⟨a_0, c_0, rfl, ho⟩ := hws.ss
  clear hws
  have HO0 : Hid (Own 9 1 w_0 w.heap.size a_0 c_0 2 ([.string (bs [97]), .string (bs [98])])) := ho
  obtain ⟨g_0, rfl⟩ := HO0.out.some_of (by omega)
  have HK : Hid (Kept No w w_0) := HK.out.then hk
  clear hk ho
  refine ⟨.tuple #[.slice (some ⟨g_0, 0, none⟩) 2 c_0, .int .i64 0], rfl, ?_⟩
  try simp only [pA, pB, p1, p2, p3]
  refine tK (.tuple #[.slice (some ⟨g_0, 0, none⟩) 2 c_0, .int .i64 0]) ?_
  try simp only [pA, pB, p1, p2, p3]
  refine tK (.slice (some ⟨g_0, 0, none⟩) 2 c_0) ?_
  try simp only [pA, pB, p1, p2, p3]
  refine tK (.int .i64 0) ?_
  try simp only [pA, pB, p1, p2, p3]
  refine tK (.slice (some ⟨g_0, 0, none⟩) 2 c_0) ?_
  try simp only [pA, pB, p1, p2, p3]
  refine tK (.int .i64 0) ?_
  try simp only [pA, pB, p1, p2, p3]
  refine WL.nil ?_
  try simp only [pA, pB, p1, p2, p3]
  go_upto_region 2 with fail
  refine WL.start ?_
  refine tK (.int .i64 0) ?_
  try simp only [pA, pB, p1, p2, p3]
  refine tK (.bool false) ?_
  try simp only [pA, pB, p1, p2, p3]
  refine tK (.bool false) ?_
  try simp only [pA, pB, p1, p2, p3]
  refine tK (.slice (some ⟨g_0, 0, none⟩) 2 c_0) ?_
  try simp only [pA, pB, p1, p2, p3]
  refine tK (.int .i64 ((2 : Nat) : Int)) ?_
  try simp only [pA, pB, p1, p2, p3]
  refine tK (.bool false) ?_
  try simp only [pA, pB, p1, p2, p3]
  refine tK (.bool false) ?_
  try simp only [pA, pB, p1, p2, p3]
  refine tK (.bool false) ?_
  try simp only [pA, pB, p1, p2, p3]
  refine tK (.slice (some ⟨g_0, 0, none⟩) 2 c_0) ?_
  try simp only [pA, pB, p1, p2, p3]
  refine tW (.pointer (some ⟨g_0, 0, none⟩)) (exec_ixA 22 1 E22 F22 _ _ rfl g_0 0 2 c_0 0 (by kernel_rfl) (by kernel_rfl) (by omega)) ?_
  try simp only [pA, pB, p1, p2, p3]
  refine tW (.string (bs [97])) (exec_load 9 _ rfl ⟨g_0, 0, none⟩ (by kernel_rfl) (.string (bs [97])) (load_one (HO0.out.cellAt (i := 0) (by rfl)) U9 rfl)) ?_
  try simp only [pA, pB, p1, p2, p3]
  refine tW (.bool false) (exec_bin .neq 9 _ _ _ rfl (.string (bs [97])) (.string ⟨#[97]⟩) (.bool false) (by kernel_rfl) (by kernel_rfl) (by kernel_rfl) (by first | (exact (b_neqS [97] [97] _).trans (by rfl)))) ?_
  try simp only [pA, pB, p1, p2, p3]
  refine tK (.bool false) ?_
  try simp only [pA, pB, p1, p2, p3]
  refine tK (.bool false) ?_
  try simp only [pA, pB, p1, p2, p3]
  refine tK (.slice (some ⟨g_0, 0, none⟩) 2 c_0) ?_
  try simp only [pA, pB, p1, p2, p3]
  refine tW (.pointer (some ⟨g_0, 1, none⟩)) (exec_ixA 22 1 E22 F22 _ _ rfl g_0 0 2 c_0 1 (by kernel_rfl) (by kernel_rfl) (by omega)) ?_
  try simp only [pA, pB, p1, p2, p3]
  refine tW (.string (bs [98])) (exec_load 9 _ rfl ⟨g_0, 1, none⟩ (by kernel_rfl) (.string (bs [98])) (load_one (HO0.out.cellAt (i := 1) (by rfl)) U9 rfl)) ?_
  try simp only [pA, pB, p1, p2, p3]
  refine tW (.bool false) (exec_bin .neq 9 _ _ _ rfl (.string (bs [98])) (.string ⟨#[98]⟩) (.bool false) (by kernel_rfl) (by kernel_rfl) (by kernel_rfl) (by first | (exact (b_neqS [98] [98] _).trans (by rfl)))) ?_
  try simp only [pA, pB, p1, p2, p3]
  refine tK (.bool false) ?_
  try simp only [pA, pB, p1, p2, p3]
  refine WL.nil ?_
  try simp only [pA, pB, p1, p2, p3]
  go_upto_region 4 with fail
  refine WL.start ?_
  refine tK (.slice (some ⟨g_0, 0, none⟩) 2 c_0) ?_
  try simp only [pA, pB, p1, p2, p3]
  have HG : Hid (n0 ≤ w_0.heap.size) := show n0 ≤ w_0.heap.size by have h1 := HK.out.size; have h2 := HN0.out; omega
  have HO0 : Hid (Own 9 1 (w_0.alloc (.cells [.slice (some ⟨g_0, 0, none⟩) 2 c_0].toArray 22)) w.heap.size (some ⟨g_0, 0, none⟩) c_0 2 ([.string (bs [97]), .string (bs [98])])) := HO0.out.no ((Kept.refl No _).alloc _)
  have HK : Hid (Kept No w (w_0.alloc (.cells [.slice (some ⟨g_0, 0, none⟩) 2 c_0].toArray 22))) := HK.out.then ((Kept.refl No _).alloc _)
  have HX : Hid (Box (w_0.alloc (.cells [.slice (some ⟨g_0, 0, none⟩) 2 c_0].toArray 22)) w_0.heap.size 22 [.slice (some ⟨g_0, 0, none⟩) 2 c_0].toArray) := Box.new _ _ _
  refine wp_runW (.slice (some ⟨w_0.heap.size, 0, none⟩) 1 1) (w_0.alloc (.cells [.slice (some ⟨g_0, 0, none⟩) 2 c_0].toArray 22)) (exec_built (by kernel_rfl)) (by kernel_rfl) ?_
  try simp only [pA, pB, p1, p2, p3]
  generalize w_0.alloc (.cells [.slice (some ⟨g_0, 0, none⟩) 2 c_0].toArray 22) = wk2 at HO0 HK HX ⊢
  generalize w_0.heap.size = gk3 at HX HG ⊢
  refine tK (.slice (some ⟨gk3, 0, none⟩) 1 1) ?_
  try simp only [pA, pB, p1, p2, p3]
  refine WL.nil ?_
  try simp only [pA, pB, p1, p2, p3]
  go_upto_region 5 with fail
  refine WL.start ?_
  refine tK (.slice none 0 0) ?_
  try simp only [pA, pB, p1, p2, p3]
  refine WL.nil ?_
  try simp only [pA, pB, p1, p2, p3]
  have HKs : Hid (Ks wk2 n0 [⟨some ⟨g_0, 0, none⟩, c_0, [strV [97], strV [98]], none, 0, []⟩]) := show Ks _ _ _ from ⟨fun i x hx => by
    match i, hx with
    | 0, hx => cases hx; exact ⟨HO0.out.lower (by have := HN0.out; omega), Own.nil _ _ _ _⟩
    | i + 1, hx => simp at hx, fun i j x y hx hy hne => by
    match i, j, hx, hy with
    | 0, 0, _, _ => exact absurd rfl hne
    | i + 1, _, hx, _ => simp at hx
    | 0, j + 1, _, hy => simp at hy⟩
  have HKr : Hid (Own 22 1 wk2 n0 (some ⟨gk3, 0, none⟩) 1 1 [.slice (some ⟨g_0, 0, none⟩) 2 c_0]) := Own.of_box HX.out HG.out (by simp)
  clear HX HG HO0
  go_wp2
  go_loopw [5, 7] (fun v5 v7 wr => ∃ (i : Nat) (X : List It) (ka : Option Addr) (kc : Nat), v5 = .slice ka X.length kc ∧ v7 = .int .i64 ((i : Nat) : Int) ∧ Hid (i ≤ ls.length ∧ i ≤ 4096) ∧ Hid (X.length = 2 * i + 1) ∧ Hid (Ks wr n0 X) ∧ Hid (Own 22 1 wr n0 ka kc X.length (X.map It.v)) ∧ Hid (Zt X 0) ∧ Hid (Sz X) ∧ Hid (Kept No w wr)) (fun _ v7 _ => ls.length - (intOf v7).toNat)
  case atStart => exact ⟨0, [⟨some ⟨g_0, 0, none⟩, c_0, [strV [97], strV [98]], none, 0, []⟩], some ⟨gk3, 0, none⟩, 1, rfl, by go_num, ⟨Nat.zero_le _, Nat.zero_le _⟩, rfl, HKs, HKr, fun j x hx _ => by
    match j, hx with
    | 0, hx => cases hx; exact ⟨rfl, rfl, rfl⟩
    | j + 1, hx => simp at hx, fun j x hx => by
    match j, hx with
    | 0, hx => cases hx; show 2 ≤ _; omega
    | j + 1, hx => simp at hx, HK⟩
  case round =>
    clear HKs HKr HK
    obtain ⟨i, X, ka, kc, rfl, rfl, HIi, HLx, HKs, HKr, HZt, HSz, HK⟩ := hrel
    by_cases hp : i < ls.length
    · have hcm : ((i : Nat) : Int) < ((ls.length : Nat) : Int) := by omega
      by_cases hq : i < 4096
      · have hcq : ((i : Nat) : Int) < 4096 := by omega
        obtain ⟨l, hl⟩ : ∃ l, ls[i]? = some l := ⟨_, List.getElem?_eq_getElem hp⟩
        have HLl : Hid (l.length ≤ 1000000000000) := show l.length ≤ 1000000000000 by have := HLn.out l (List.mem_of_getElem? hl); omega
        have HLw : Hid (l.length ≤ 100000000000) := HLn.out l (List.mem_of_getElem? hl)
        obtain ⟨gw, ow, ha, hcl⟩ := (HB.out.no HK.out) i l hl
        subst ha
        have HCell : Hid (wr.cell? ⟨gw, ow + i * 1, none⟩ = some (.string (bs l))) := hcl
        have HPp : Hid (i < ls.length ∧ i < 4096) := ⟨hp, hq⟩
        have HI : Hid (i < 4096 ∧ i ≤ 100000000000) := ⟨hq, by omega⟩
        clear hl hcl hp hq
        cases hz : wordsOf l with
        | none =>
          have HZ : Hid (wordsOf l = none) := hz
          clear hz
          go_upto_region 7 with fail
          refine WL.start ?_
          refine tK (.int .i64 ((i : Nat) : Int)) ?_
          try simp only [pA, pB, p1, p2, p3]
          refine tK (.slice (some ⟨gw, ow, none⟩) ls.length cap) ?_
          try simp only [pA, pB, p1, p2, p3]
          refine tK (.int .i64 ((ls.length : Nat) : Int)) ?_
          try simp only [pA, pB, p1, p2, p3]
          refine tW (.bool true) (exec_bin .lss 3 _ _ _ rfl (.int .i64 ((i : Nat) : Int)) (.int .i64 ((ls.length : Nat) : Int)) (.bool true) (by kernel_rfl) (by kernel_rfl) (by kernel_rfl) (by rw [b_lss, decide_eq_true hcm])) ?_
          try simp only [pA, pB, p1, p2, p3]
          refine tK (.bool true) ?_
          try simp only [pA, pB, p1, p2, p3]
          refine tK (.int .i64 ((i : Nat) : Int)) ?_
          try simp only [pA, pB, p1, p2, p3]
          refine tW (.bool true) (exec_bin .lss 3 _ _ _ rfl (.int .i64 ((i : Nat) : Int)) (.int .i64 4096) (.bool true) (by kernel_rfl) (by kernel_rfl) (by kernel_rfl) (by rw [b_lss, decide_eq_true hcq])) ?_
          try simp only [pA, pB, p1, p2, p3]
          refine tK (.bool true) ?_
          try simp only [pA, pB, p1, p2, p3]
          refine WL.nil ?_
          try simp only [pA, pB, p1, p2, p3]
          have HK0 : Hid (Kept No w wr) := HK.out
          have HSb : Hid (Ks wr n0 (X)) := HKs.out
          have HSk : Hid (Kept No wr wr) := Kept.refl _ _
          go_upto_region 9 with fail
          refine WL.start ?_
          refine tK (.slice (some ⟨gw, ow, none⟩) ls.length cap) ?_
          try simp only [pA, pB, p1, p2, p3]
          refine tK (.int .i64 ((i : Nat) : Int)) ?_
          try simp only [pA, pB, p1, p2, p3]
          refine tW (.pointer (some ⟨gw, ow + i * 1, none⟩)) (exec_ixA 22 1 E22 F22 _ _ rfl gw ow ls.length cap i (by kernel_rfl) (by kernel_rfl) (by have := HPp.out; omega)) ?_
          try simp only [pA, pB, p1, p2, p3]
          refine tW (.string (bs l)) (exec_load 9 _ rfl ⟨gw, ow + i * 1, none⟩ (by kernel_rfl) (.string (bs l)) (load_one HCell.out U9 rfl)) ?_
          try simp only [pA, pB, p1, p2, p3]
          refine wp_callW 7 #[.string (bs l)] (by kernel_rfl) _ (words_any l HLl.out wr) (by kernel_rfl) ?_
          rintro e w_3 ⟨hws, hk⟩
          rw [HZ.out] at hws
          obtain rfl := hws.nn
          have HK : Hid (Kept No w w_3) := HK.out.then hk
          have HKr : Hid (Own 22 1 w_3 n0 ka kc X.length (X.map It.v)) := HKr.out.no hk
          have HCell : Hid (w_3.cell? ⟨gw, ow + i * 1, none⟩ = some (.string (bs l))) := hk.cell HCell.out (fun e => e)
          have HSk : Hid (Kept No wr w_3) := HSk.out.then hk
          clear hk hws
          refine ⟨.tuple #[.slice none 0 0, .int .i64 200], rfl, ?_⟩
          try simp only [pA, pB, p1, p2, p3]
          refine tK (.tuple #[.slice none 0 0, .int .i64 200]) ?_
          try simp only [pA, pB, p1, p2, p3]
          refine tK (.slice none 0 0) ?_
          try simp only [pA, pB, p1, p2, p3]
          refine tK (.int .i64 200) ?_
          try simp only [pA, pB, p1, p2, p3]
          refine tK (.slice none 0 0) ?_
          try simp only [pA, pB, p1, p2, p3]
          refine tK (.int .i64 200) ?_
          try simp only [pA, pB, p1, p2, p3]
          refine WL.nil ?_
          try simp only [pA, pB, p1, p2, p3]
          have HKs : Hid (Ks w_3 n0 (X ++ [(⟨none, 0, [], none, 0, []⟩ : It)])) := HSb.out.push HSk.out ⟨Own.nil _ _ _ _, Own.nil _ _ _ _⟩ (fun k e => e.elim (fun e => (At.none e).elim) (fun e => (At.none e).elim))
          clear HSb HSk
          have HK0 : Hid (Kept No w w_3) := HK.out
          have HSb : Hid (Ks w_3 n0 (X ++ [(⟨none, 0, [], none, 0, []⟩ : It)])) := HKs.out
          have HSk : Hid (Kept No w_3 w_3) := Kept.refl _ _
          go_upto_region 10 with fail
          refine WL.start ?_
          refine tK (.slice (some ⟨gw, ow, none⟩) ls.length cap) ?_
          try simp only [pA, pB, p1, p2, p3]
          refine tK (.int .i64 ((i : Nat) : Int)) ?_
          try simp only [pA, pB, p1, p2, p3]
          refine tW (.pointer (some ⟨gw, ow + i * 1, none⟩)) (exec_ixA 22 1 E22 F22 _ _ rfl gw ow ls.length cap i (by kernel_rfl) (by kernel_rfl) (by have := HPp.out; omega)) ?_
          try simp only [pA, pB, p1, p2, p3]
          refine tW (.string (bs l)) (exec_load 9 _ rfl ⟨gw, ow + i * 1, none⟩ (by kernel_rfl) (.string (bs l)) (load_one HCell.out U9 rfl)) ?_
          try simp only [pA, pB, p1, p2, p3]
          refine wp_callW 7 #[.string (bs l)] (by kernel_rfl) _ (words_any l HLl.out w_3) (by kernel_rfl) ?_
          rintro e w_4 ⟨hws, hk⟩
          rw [HZ.out] at hws
          obtain rfl := hws.nn
          have HK : Hid (Kept No w w_4) := HK.out.then hk
          have HKr : Hid (Own 22 1 w_4 n0 ka kc X.length (X.map It.v)) := HKr.out.no hk
          have HCell : Hid (w_4.cell? ⟨gw, ow + i * 1, none⟩ = some (.string (bs l))) := hk.cell HCell.out (fun e => e)
          have HSk : Hid (Kept No w_3 w_4) := HSk.out.then hk
          clear hk hws
          refine ⟨.tuple #[.slice none 0 0, .int .i64 200], rfl, ?_⟩
          try simp only [pA, pB, p1, p2, p3]
          refine tK (.tuple #[.slice none 0 0, .int .i64 200]) ?_
          try simp only [pA, pB, p1, p2, p3]
          refine tK (.slice none 0 0) ?_
          try simp only [pA, pB, p1, p2, p3]
          refine tK (.int .i64 200) ?_
          try simp only [pA, pB, p1, p2, p3]
          refine tK (.slice none 0 0) ?_
          try simp only [pA, pB, p1, p2, p3]
          refine tK (.int .i64 200) ?_
          try simp only [pA, pB, p1, p2, p3]
          refine WL.nil ?_
          try simp only [pA, pB, p1, p2, p3]
          have HKs : Hid (Ks w_4 n0 (X ++ [(⟨none, 0, [], none, 0, []⟩ : It)] ++ [(⟨none, 0, [], none, 0, []⟩ : It)])) := HSb.out.push HSk.out ⟨Own.nil _ _ _ _, Own.nil _ _ _ _⟩ (fun k e => e.elim (fun e => (At.none e).elim) (fun e => (At.none e).elim))
          clear HSb HSk
          go_upto_region 11 with fail
          refine WL.start ?_
          refine tK (.slice (some ⟨gw, ow, none⟩) ls.length cap) ?_
          try simp only [pA, pB, p1, p2, p3]
          refine tK (.int .i64 ((i : Nat) : Int)) ?_
          try simp only [pA, pB, p1, p2, p3]
          refine tW (.pointer (some ⟨gw, ow + i * 1, none⟩)) (exec_ixA 22 1 E22 F22 _ _ rfl gw ow ls.length cap i (by kernel_rfl) (by kernel_rfl) (by have := HPp.out; omega)) ?_
          try simp only [pA, pB, p1, p2, p3]
          refine tW (.string (bs l)) (exec_load 9 _ rfl ⟨gw, ow + i * 1, none⟩ (by kernel_rfl) (.string (bs l)) (load_one HCell.out U9 rfl)) ?_
          try simp only [pA, pB, p1, p2, p3]
          refine wp_callW 8 #[.string (bs l)] (by kernel_rfl) _ (refWords_any l HLl.out w_4) (by kernel_rfl) ?_
          rintro e w_5 ⟨hws, hk⟩
          rw [HZ.out] at hws
          obtain rfl := hws.nn
          have HK : Hid (Kept No w w_5) := HK.out.then hk
          have HKr : Hid (Own 22 1 w_5 n0 ka kc X.length (X.map It.v)) := HKr.out.no hk
          have HCell : Hid (w_5.cell? ⟨gw, ow + i * 1, none⟩ = some (.string (bs l))) := hk.cell HCell.out (fun e => e)
          have HKs : Hid (Ks w_5 n0 (X ++ [(⟨none, 0, [], none, 0, []⟩ : It)] ++ [(⟨none, 0, [], none, 0, []⟩ : It)])) := HKs.out.no hk
          clear hk hws
          refine ⟨.tuple #[.slice none 0 0, .int .i64 200], rfl, ?_⟩
          try simp only [pA, pB, p1, p2, p3]
          refine tK (.tuple #[.slice none 0 0, .int .i64 200]) ?_
          try simp only [pA, pB, p1, p2, p3]
          refine tK (.slice none 0 0) ?_
          try simp only [pA, pB, p1, p2, p3]
          refine tK (.int .i64 200) ?_
          try simp only [pA, pB, p1, p2, p3]
          refine tK (.slice none 0 0) ?_
          try simp only [pA, pB, p1, p2, p3]
          refine tK (.int .i64 200) ?_
          try simp only [pA, pB, p1, p2, p3]
          refine WL.nil ?_
          try simp only [pA, pB, p1, p2, p3]
          go_upto_region 12 with fail
          refine WL.start ?_
          refine tK (.int .i64 200) ?_
          try simp only [pA, pB, p1, p2, p3]
          refine tK (.int .i64 200) ?_
          try simp only [pA, pB, p1, p2, p3]
          refine tK (.bool false) ?_
          try simp only [pA, pB, p1, p2, p3]
          refine tK (.bool false) ?_
          try simp only [pA, pB, p1, p2, p3]
          refine tK (.int .i64 200) ?_
          try simp only [pA, pB, p1, p2, p3]
          refine tK (.int .i64 200) ?_
          try simp only [pA, pB, p1, p2, p3]
          refine tK (.bool false) ?_
          try simp only [pA, pB, p1, p2, p3]
          refine tK (.bool false) ?_
          try simp only [pA, pB, p1, p2, p3]
          refine tK (.bool false) ?_
          try simp only [pA, pB, p1, p2, p3]
          refine tK (.slice none 0 0) ?_
          try simp only [pA, pB, p1, p2, p3]
          refine tK (.slice none 0 0) ?_
          try simp only [pA, pB, p1, p2, p3]
          refine wp_callW 9 #[.slice none 0 0, .slice none 0 0] (by kernel_rfl) _ (same_any _ _ none none 0 0 ([]) ([]) w_5 (Own.nil _ _ _ 0) (Own.nil _ _ _ 0) (by simp)) (by kernel_rfl) ?_
          rintro e w_6 ⟨rfl, hk⟩
          have HK : Hid (Kept No w w_6) := HK.out.then hk
          have HKr : Hid (Own 22 1 w_6 n0 ka kc X.length (X.map It.v)) := HKr.out.no hk
          have HCell : Hid (w_6.cell? ⟨gw, ow + i * 1, none⟩ = some (.string (bs l))) := hk.cell HCell.out (fun e => e)
          have HKs : Hid (Ks w_6 n0 (X ++ [(⟨none, 0, [], none, 0, []⟩ : It)] ++ [(⟨none, 0, [], none, 0, []⟩ : It)])) := HKs.out.no hk
          clear hk
          refine ⟨.bool true, by simp, ?_⟩
          try simp only [pA, pB, p1, p2, p3]
          refine tK (.bool false) ?_
          try simp only [pA, pB, p1, p2, p3]
          refine tK (.bool false) ?_
          try simp only [pA, pB, p1, p2, p3]
          refine tK (.bool false) ?_
          try simp only [pA, pB, p1, p2, p3]
          refine tK (.slice none 0 0) ?_
          try simp only [pA, pB, p1, p2, p3]
          refine tK (.slice none 0 0) ?_
          try simp only [pA, pB, p1, p2, p3]
          refine wp_callW 9 #[.slice none 0 0, .slice none 0 0] (by kernel_rfl) _ (same_any _ _ none none 0 0 ([]) ([]) w_6 (Own.nil _ _ _ 0) (Own.nil _ _ _ 0) (by simp)) (by kernel_rfl) ?_
          rintro e w_7 ⟨rfl, hk⟩
          have HK : Hid (Kept No w w_7) := HK.out.then hk
          have HKr : Hid (Own 22 1 w_7 n0 ka kc X.length (X.map It.v)) := HKr.out.no hk
          have HCell : Hid (w_7.cell? ⟨gw, ow + i * 1, none⟩ = some (.string (bs l))) := hk.cell HCell.out (fun e => e)
          have HKs : Hid (Ks w_7 n0 (X ++ [(⟨none, 0, [], none, 0, []⟩ : It)] ++ [(⟨none, 0, [], none, 0, []⟩ : It)])) := HKs.out.no hk
          clear hk
          refine ⟨.bool true, by simp, ?_⟩
          try simp only [pA, pB, p1, p2, p3]
          refine tK (.bool false) ?_
          try simp only [pA, pB, p1, p2, p3]
          refine tK (.bool false) ?_
          try simp only [pA, pB, p1, p2, p3]
          refine WL.nil ?_
          try simp only [pA, pB, p1, p2, p3]
          go_upto_region 14 with fail
          refine WL.start ?_
          refine tK (.slice ka X.length kc) ?_
          try simp only [pA, pB, p1, p2, p3]
          refine tK (.slice none 0 0) ?_
          try simp only [pA, pB, p1, p2, p3]
          have HK : Hid (Kept No w (w_7.alloc (.cells [.slice none 0 0].toArray 22))) := HK.out.then ((Kept.refl No _).alloc _)
          have HKr : Hid (Own 22 1 (w_7.alloc (.cells [.slice none 0 0].toArray 22)) n0 ka kc X.length (X.map It.v)) := HKr.out.no ((Kept.refl No _).alloc _)
          have HKs : Hid (Ks (w_7.alloc (.cells [.slice none 0 0].toArray 22)) n0 (X ++ [(⟨none, 0, [], none, 0, []⟩ : It)] ++ [(⟨none, 0, [], none, 0, []⟩ : It)])) := HKs.out.no ((Kept.refl No _).alloc _)
          have HX : Hid (Box (w_7.alloc (.cells [.slice none 0 0].toArray 22)) w_7.heap.size 22 [.slice none 0 0].toArray) := Box.new _ _ _
          refine wp_runW (.slice (some ⟨w_7.heap.size, 0, none⟩) 1 1) (w_7.alloc (.cells [.slice none 0 0].toArray 22)) (exec_built (by kernel_rfl)) (by kernel_rfl) ?_
          try simp only [pA, pB, p1, p2, p3]
          generalize w_7.alloc (.cells [.slice none 0 0].toArray 22) = wk9 at HK HKr HKs HX ⊢
          generalize w_7.heap.size = gk10 at HX ⊢
          obtain ⟨a_10, c_10, w_10, hrun, ho, hc⟩ := run_app 35 22 24 _ U35 I22 rfl HKr.out 35 ⟨gk10, 0, none⟩ 1 1 [.slice none 0 0] rfl (box_news HX.out) (by simp [Value.oneCell']) (by have := HI.out; have := HLx.out; omega) (by have := HI.out; have := HLx.out; omega) (by have := HK.out.size; have := HN0.out; omega)
          clear HX
          have HKs : Hid (Ks w_10 n0 (X ++ [(⟨none, 0, [], none, 0, []⟩ : It)] ++ [(⟨none, 0, [], none, 0, []⟩ : It)])) := HKs.out.keptRow HKr.out hc
          have HK : Hid (Kept No w w_10) := HK.out.runApp HKr.out HN0.out hc
          have HKr : Hid (Own 22 1 w_10 n0 a_10 c_10 (X.length + 1) (X.map It.v ++ [.slice none 0 0])) := ho
          refine wp_runW (.slice a_10 (X.length + 1) c_10) w_10 (exec_app _ _ 35 35 rfl _ _ _ (by kernel_rfl) (by kernel_rfl) hrun) (by kernel_rfl) ?_
          try simp only [pA, pB, p1, p2, p3]
          clear hrun ho hc
          refine tK (.slice a_10 (X.length + 1) c_10) ?_
          try simp only [pA, pB, p1, p2, p3]
          refine WL.nil ?_
          try simp only [pA, pB, p1, p2, p3]
          go_upto_region 15 with fail
          refine WL.start ?_
          refine tK (.slice a_10 (X.length + 1) c_10) ?_
          try simp only [pA, pB, p1, p2, p3]
          refine tK (.slice none 0 0) ?_
          try simp only [pA, pB, p1, p2, p3]
          have HK : Hid (Kept No w (w_10.alloc (.cells [.slice none 0 0].toArray 22))) := HK.out.then ((Kept.refl No _).alloc _)
          have HKr : Hid (Own 22 1 (w_10.alloc (.cells [.slice none 0 0].toArray 22)) n0 a_10 c_10 (X.length + 1) (X.map It.v ++ [.slice none 0 0])) := HKr.out.no ((Kept.refl No _).alloc _)
          have HKs : Hid (Ks (w_10.alloc (.cells [.slice none 0 0].toArray 22)) n0 (X ++ [(⟨none, 0, [], none, 0, []⟩ : It)] ++ [(⟨none, 0, [], none, 0, []⟩ : It)])) := HKs.out.no ((Kept.refl No _).alloc _)
          have HX : Hid (Box (w_10.alloc (.cells [.slice none 0 0].toArray 22)) w_10.heap.size 22 [.slice none 0 0].toArray) := Box.new _ _ _
          refine wp_runW (.slice (some ⟨w_10.heap.size, 0, none⟩) 1 1) (w_10.alloc (.cells [.slice none 0 0].toArray 22)) (exec_built (by kernel_rfl)) (by kernel_rfl) ?_
          try simp only [pA, pB, p1, p2, p3]
          generalize w_10.alloc (.cells [.slice none 0 0].toArray 22) = wk12 at HK HKr HKs HX ⊢
          generalize w_10.heap.size = gk13 at HX ⊢
          obtain ⟨a_13, c_13, w_13, hrun, ho, hc⟩ := run_app 35 22 24 _ U35 I22 rfl HKr.out 35 ⟨gk13, 0, none⟩ 1 1 [.slice none 0 0] rfl (box_news HX.out) (by simp [Value.oneCell']) (by have := HI.out; have := HLx.out; omega) (by have := HI.out; have := HLx.out; omega) (by have := HK.out.size; have := HN0.out; omega)
          clear HX
          have HKs : Hid (Ks w_13 n0 (X ++ [(⟨none, 0, [], none, 0, []⟩ : It)] ++ [(⟨none, 0, [], none, 0, []⟩ : It)])) := HKs.out.keptRow HKr.out hc
          have HK : Hid (Kept No w w_13) := HK.out.runApp HKr.out HN0.out hc
          have HKr : Hid (Own 22 1 w_13 n0 a_13 c_13 (X.length + 1 + 1) (X.map It.v ++ [.slice none 0 0] ++ [.slice none 0 0])) := ho
          refine wp_runW (.slice a_13 (X.length + 1 + 1) c_13) w_13 (exec_app _ _ 35 35 rfl _ _ _ (by kernel_rfl) (by kernel_rfl) hrun) (by kernel_rfl) ?_
          try simp only [pA, pB, p1, p2, p3]
          clear hrun ho hc
          refine tK (.slice a_13 (X.length + 1 + 1) c_13) ?_
          try simp only [pA, pB, p1, p2, p3]
          refine WL.nil ?_
          try simp only [pA, pB, p1, p2, p3]
          go_upto_region 8 with fail
          refine WL.start ?_
          refine tK (.int .i64 ((i : Nat) : Int)) ?_
          try simp only [pA, pB, p1, p2, p3]
          refine tW (.int .i64 ((i + 1 : Nat) : Int)) (exec_bin .add 3 _ _ _ rfl (.int .i64 ((i : Nat) : Int)) (.int .i64 1) (.int .i64 ((i + 1 : Nat) : Int)) (by kernel_rfl) (by kernel_rfl) (by kernel_rfl) (b_add1 i (by have := HI.out; omega) _)) ?_
          try simp only [pA, pB, p1, p2, p3]
          refine tK (.int .i64 ((i + 1 : Nat) : Int)) ?_
          try simp only [pA, pB, p1, p2, p3]
          refine WL.nil ?_
          try simp only [pA, pB, p1, p2, p3]
          have HXe : Hid ((X ++ [(⟨none, 0, [], none, 0, []⟩ : It)] ++ [(⟨none, 0, [], none, 0, []⟩ : It)]).length = X.length + 1 + 1 ∧ (X ++ [(⟨none, 0, [], none, 0, []⟩ : It)] ++ [(⟨none, 0, [], none, 0, []⟩ : It)]).map It.v = X.map It.v ++ [.slice none 0 0] ++ [.slice none 0 0]) := ⟨by simp, by simp [It.v]⟩
          go_wp2
          go_roundw
          case rel => exact ⟨i + 1, X ++ [(⟨none, 0, [], none, 0, []⟩ : It)] ++ [(⟨none, 0, [], none, 0, []⟩ : It)], a_13, c_13, by rw [HXe.out.1], by go_num, ⟨by have := HPp.out; omega, by have := HPp.out; omega⟩, (by show _ = _; rw [HXe.out.1, HLx.out]; omega), HKs, (by show Own _ _ _ _ _ _ _ _; rw [HXe.out.1, HXe.out.2]; exact HKr.out), (zt_push2 HZt.out rfl rfl rfl rfl rfl rfl), (sz_push2 HSz.out (Nat.zero_le _) (Nat.zero_le _)), HK⟩
          case measure => have := HPp.out; simp [intOf]; omega
        | some ws =>
          have HWl : Hid (ws.length ≤ 1000000000000) := show ws.length ≤ 1000000000000 by have := words_len hz; have := HLw.out; omega
          have HWs : Hid (ws.length ≤ 200000000000) := show ws.length ≤ 200000000000 by have := words_len hz; have := HLw.out; omega
          have HZ : Hid (wordsOf l = some ws) := hz
          clear hz
          go_upto_region 7 with fail
          refine WL.start ?_
          refine tK (.int .i64 ((i : Nat) : Int)) ?_
          try simp only [pA, pB, p1, p2, p3]
          refine tK (.slice (some ⟨gw, ow, none⟩) ls.length cap) ?_
          try simp only [pA, pB, p1, p2, p3]
          refine tK (.int .i64 ((ls.length : Nat) : Int)) ?_
          try simp only [pA, pB, p1, p2, p3]
          refine tW (.bool true) (exec_bin .lss 3 _ _ _ rfl (.int .i64 ((i : Nat) : Int)) (.int .i64 ((ls.length : Nat) : Int)) (.bool true) (by kernel_rfl) (by kernel_rfl) (by kernel_rfl) (by rw [b_lss, decide_eq_true hcm])) ?_
          try simp only [pA, pB, p1, p2, p3]
          refine tK (.bool true) ?_
          try simp only [pA, pB, p1, p2, p3]
          refine tK (.int .i64 ((i : Nat) : Int)) ?_
          try simp only [pA, pB, p1, p2, p3]
          refine tW (.bool true) (exec_bin .lss 3 _ _ _ rfl (.int .i64 ((i : Nat) : Int)) (.int .i64 4096) (.bool true) (by kernel_rfl) (by kernel_rfl) (by kernel_rfl) (by rw [b_lss, decide_eq_true hcq])) ?_
          try simp only [pA, pB, p1, p2, p3]
          refine tK (.bool true) ?_
          try simp only [pA, pB, p1, p2, p3]
          refine WL.nil ?_
          try simp only [pA, pB, p1, p2, p3]
          have HK0 : Hid (Kept No w wr) := HK.out
          have HSb : Hid (Ks wr n0 (X)) := HKs.out
          have HSk : Hid (Kept No wr wr) := Kept.refl _ _
          go_upto_region 9 with fail
          refine WL.start ?_
          refine tK (.slice (some ⟨gw, ow, none⟩) ls.length cap) ?_
          try simp only [pA, pB, p1, p2, p3]
          refine tK (.int .i64 ((i : Nat) : Int)) ?_
          try simp only [pA, pB, p1, p2, p3]
          refine tW (.pointer (some ⟨gw, ow + i * 1, none⟩)) (exec_ixA 22 1 E22 F22 _ _ rfl gw ow ls.length cap i (by kernel_rfl) (by kernel_rfl) (by have := HPp.out; omega)) ?_
          try simp only [pA, pB, p1, p2, p3]
          refine tW (.string (bs l)) (exec_load 9 _ rfl ⟨gw, ow + i * 1, none⟩ (by kernel_rfl) (.string (bs l)) (load_one HCell.out U9 rfl)) ?_
          try simp only [pA, pB, p1, p2, p3]
          refine wp_callW 7 #[.string (bs l)] (by kernel_rfl) _ (words_any l HLl.out wr) (by kernel_rfl) ?_
          rintro e w_14 ⟨hws, hk⟩
          rw [HZ.out] at hws
          obtain ⟨a_14, c_14, rfl, ho⟩ := hws.ss
          clear hws
          have HO14 : Hid (Own 9 1 w_14 wr.heap.size a_14 c_14 ws.length (ws.map strV)) := ho
          have HK : Hid (Kept No w w_14) := HK.out.then hk
          have HKr : Hid (Own 22 1 w_14 n0 ka kc X.length (X.map It.v)) := HKr.out.no hk
          have HCell : Hid (w_14.cell? ⟨gw, ow + i * 1, none⟩ = some (.string (bs l))) := hk.cell HCell.out (fun e => e)
          have HSk : Hid (Kept No wr w_14) := HSk.out.then hk
          clear hk ho
          refine ⟨.tuple #[.slice a_14 ws.length c_14, .int .i64 0], rfl, ?_⟩
          try simp only [pA, pB, p1, p2, p3]
          refine tK (.tuple #[.slice a_14 ws.length c_14, .int .i64 0]) ?_
          try simp only [pA, pB, p1, p2, p3]
          refine tK (.slice a_14 ws.length c_14) ?_
          try simp only [pA, pB, p1, p2, p3]
          refine tK (.int .i64 0) ?_
          try simp only [pA, pB, p1, p2, p3]
          refine tK (.slice a_14 ws.length c_14) ?_
          try simp only [pA, pB, p1, p2, p3]
          refine tK (.int .i64 0) ?_
          try simp only [pA, pB, p1, p2, p3]
          refine WL.nil ?_
          try simp only [pA, pB, p1, p2, p3]
          have HSz0 : Hid (n0 ≤ wr.heap.size) := show n0 ≤ wr.heap.size by have h1 := HK.out.size; have h2 := HSk.out.size; have h3 := HN0.out; have h4 := HK0.out.size; omega
          have HKs : Hid (Ks w_14 n0 (X ++ [(⟨a_14, c_14, ws.map strV, none, 0, []⟩ : It)])) := HSb.out.push HSk.out ⟨by have h := HO14.out.lower (base' := n0) (by have h1 := HSz0.out; omega); simpa using h, Own.nil _ _ _ _⟩ (fun k e => e.elim (fun e => HO14.out.base e) (fun e => (At.none e).elim))
          clear HSb HSk
          have HK0 : Hid (Kept No w w_14) := HK.out
          have HSb : Hid (Ks w_14 n0 (X ++ [(⟨a_14, c_14, ws.map strV, none, 0, []⟩ : It)])) := HKs.out
          have HSk : Hid (Kept No w_14 w_14) := Kept.refl _ _
          go_upto_region 10 with fail
          refine WL.start ?_
          refine tK (.slice (some ⟨gw, ow, none⟩) ls.length cap) ?_
          try simp only [pA, pB, p1, p2, p3]
          refine tK (.int .i64 ((i : Nat) : Int)) ?_
          try simp only [pA, pB, p1, p2, p3]
          refine tW (.pointer (some ⟨gw, ow + i * 1, none⟩)) (exec_ixA 22 1 E22 F22 _ _ rfl gw ow ls.length cap i (by kernel_rfl) (by kernel_rfl) (by have := HPp.out; omega)) ?_
          try simp only [pA, pB, p1, p2, p3]
          refine tW (.string (bs l)) (exec_load 9 _ rfl ⟨gw, ow + i * 1, none⟩ (by kernel_rfl) (.string (bs l)) (load_one HCell.out U9 rfl)) ?_
          try simp only [pA, pB, p1, p2, p3]
          refine wp_callW 7 #[.string (bs l)] (by kernel_rfl) _ (words_any l HLl.out w_14) (by kernel_rfl) ?_
          rintro e w_15 ⟨hws, hk⟩
          rw [HZ.out] at hws
          obtain ⟨a_15, c_15, rfl, ho⟩ := hws.ss
          clear hws
          have HO15 : Hid (Own 9 1 w_15 w_14.heap.size a_15 c_15 ws.length (ws.map strV)) := ho
          have HO14 : Hid (Own 9 1 w_15 wr.heap.size a_14 c_14 ws.length (ws.map strV)) := HO14.out.no hk
          have HK : Hid (Kept No w w_15) := HK.out.then hk
          have HKr : Hid (Own 22 1 w_15 n0 ka kc X.length (X.map It.v)) := HKr.out.no hk
          have HCell : Hid (w_15.cell? ⟨gw, ow + i * 1, none⟩ = some (.string (bs l))) := hk.cell HCell.out (fun e => e)
          have HSk : Hid (Kept No w_14 w_15) := HSk.out.then hk
          clear hk ho
          refine ⟨.tuple #[.slice a_15 ws.length c_15, .int .i64 0], rfl, ?_⟩
          try simp only [pA, pB, p1, p2, p3]
          refine tK (.tuple #[.slice a_15 ws.length c_15, .int .i64 0]) ?_
          try simp only [pA, pB, p1, p2, p3]
          refine tK (.slice a_15 ws.length c_15) ?_
          try simp only [pA, pB, p1, p2, p3]
          refine tK (.int .i64 0) ?_
          try simp only [pA, pB, p1, p2, p3]
          refine tK (.slice a_15 ws.length c_15) ?_
          try simp only [pA, pB, p1, p2, p3]
          refine tK (.int .i64 0) ?_
          try simp only [pA, pB, p1, p2, p3]
          refine WL.nil ?_
          try simp only [pA, pB, p1, p2, p3]
          have HSz0 : Hid (n0 ≤ w_14.heap.size) := show n0 ≤ w_14.heap.size by have h1 := HK.out.size; have h2 := HSk.out.size; have h3 := HN0.out; have h4 := HK0.out.size; omega
          have HKs : Hid (Ks w_15 n0 (X ++ [(⟨a_14, c_14, ws.map strV, none, 0, []⟩ : It)] ++ [(⟨a_15, c_15, ws.map strV, none, 0, []⟩ : It)])) := HSb.out.push HSk.out ⟨by have h := HO15.out.lower (base' := n0) (by have h1 := HSz0.out; omega); simpa using h, Own.nil _ _ _ _⟩ (fun k e => e.elim (fun e => HO15.out.base e) (fun e => (At.none e).elim))
          clear HSb HSk
          go_upto_region 11 with fail
          refine WL.start ?_
          refine tK (.slice (some ⟨gw, ow, none⟩) ls.length cap) ?_
          try simp only [pA, pB, p1, p2, p3]
          refine tK (.int .i64 ((i : Nat) : Int)) ?_
          try simp only [pA, pB, p1, p2, p3]
          refine tW (.pointer (some ⟨gw, ow + i * 1, none⟩)) (exec_ixA 22 1 E22 F22 _ _ rfl gw ow ls.length cap i (by kernel_rfl) (by kernel_rfl) (by have := HPp.out; omega)) ?_
          try simp only [pA, pB, p1, p2, p3]
          refine tW (.string (bs l)) (exec_load 9 _ rfl ⟨gw, ow + i * 1, none⟩ (by kernel_rfl) (.string (bs l)) (load_one HCell.out U9 rfl)) ?_
          try simp only [pA, pB, p1, p2, p3]
          refine wp_callW 8 #[.string (bs l)] (by kernel_rfl) _ (refWords_any l HLl.out w_15) (by kernel_rfl) ?_
          rintro e w_16 ⟨hws, hk⟩
          rw [HZ.out] at hws
          obtain ⟨a_16, c_16, rfl, ho⟩ := hws.ss
          clear hws
          have HO16 : Hid (Own 9 1 w_16 w_15.heap.size a_16 c_16 ws.length (ws.map strV)) := ho
          have HO14 : Hid (Own 9 1 w_16 wr.heap.size a_14 c_14 ws.length (ws.map strV)) := HO14.out.no hk
          have HO15 : Hid (Own 9 1 w_16 w_14.heap.size a_15 c_15 ws.length (ws.map strV)) := HO15.out.no hk
          have HK : Hid (Kept No w w_16) := HK.out.then hk
          have HKr : Hid (Own 22 1 w_16 n0 ka kc X.length (X.map It.v)) := HKr.out.no hk
          have HCell : Hid (w_16.cell? ⟨gw, ow + i * 1, none⟩ = some (.string (bs l))) := hk.cell HCell.out (fun e => e)
          have HKs : Hid (Ks w_16 n0 (X ++ [(⟨a_14, c_14, ws.map strV, none, 0, []⟩ : It)] ++ [(⟨a_15, c_15, ws.map strV, none, 0, []⟩ : It)])) := HKs.out.no hk
          clear hk ho
          refine ⟨.tuple #[.slice a_16 ws.length c_16, .int .i64 0], rfl, ?_⟩
          try simp only [pA, pB, p1, p2, p3]
          refine tK (.tuple #[.slice a_16 ws.length c_16, .int .i64 0]) ?_
          try simp only [pA, pB, p1, p2, p3]
          refine tK (.slice a_16 ws.length c_16) ?_
          try simp only [pA, pB, p1, p2, p3]
          refine tK (.int .i64 0) ?_
          try simp only [pA, pB, p1, p2, p3]
          refine tK (.slice a_16 ws.length c_16) ?_
          try simp only [pA, pB, p1, p2, p3]
          refine tK (.int .i64 0) ?_
          try simp only [pA, pB, p1, p2, p3]
          refine WL.nil ?_
          try simp only [pA, pB, p1, p2, p3]
          go_upto_region 12 with fail
          refine WL.start ?_
          refine tK (.int .i64 0) ?_
          try simp only [pA, pB, p1, p2, p3]
          refine tK (.int .i64 0) ?_
          try simp only [pA, pB, p1, p2, p3]
          refine tK (.bool false) ?_
          try simp only [pA, pB, p1, p2, p3]
          refine tK (.bool false) ?_
          try simp only [pA, pB, p1, p2, p3]
          refine tK (.int .i64 0) ?_
          try simp only [pA, pB, p1, p2, p3]
          refine tK (.int .i64 0) ?_
          try simp only [pA, pB, p1, p2, p3]
          refine tK (.bool false) ?_
          try simp only [pA, pB, p1, p2, p3]
          refine tK (.bool false) ?_
          try simp only [pA, pB, p1, p2, p3]
          refine tK (.bool false) ?_
          try simp only [pA, pB, p1, p2, p3]
          refine tK (.slice a_14 ws.length c_14) ?_
          try simp only [pA, pB, p1, p2, p3]
          refine tK (.slice a_16 ws.length c_16) ?_
          try simp only [pA, pB, p1, p2, p3]
          refine wp_callW 9 #[.slice a_14 ws.length c_14, .slice a_16 ws.length c_16] (by kernel_rfl) _ (same_any _ _ a_14 a_16 c_14 c_16 ws ws w_16 HO14.out HO16.out HWl.out) (by kernel_rfl) ?_
          rintro e w_17 ⟨rfl, hk⟩
          have HO14 : Hid (Own 9 1 w_17 wr.heap.size a_14 c_14 ws.length (ws.map strV)) := HO14.out.no hk
          have HO15 : Hid (Own 9 1 w_17 w_14.heap.size a_15 c_15 ws.length (ws.map strV)) := HO15.out.no hk
          have HO16 : Hid (Own 9 1 w_17 w_15.heap.size a_16 c_16 ws.length (ws.map strV)) := HO16.out.no hk
          have HK : Hid (Kept No w w_17) := HK.out.then hk
          have HKr : Hid (Own 22 1 w_17 n0 ka kc X.length (X.map It.v)) := HKr.out.no hk
          have HCell : Hid (w_17.cell? ⟨gw, ow + i * 1, none⟩ = some (.string (bs l))) := hk.cell HCell.out (fun e => e)
          have HKs : Hid (Ks w_17 n0 (X ++ [(⟨a_14, c_14, ws.map strV, none, 0, []⟩ : It)] ++ [(⟨a_15, c_15, ws.map strV, none, 0, []⟩ : It)])) := HKs.out.no hk
          clear hk
          refine ⟨.bool true, by simp, ?_⟩
          try simp only [pA, pB, p1, p2, p3]
          refine tK (.bool false) ?_
          try simp only [pA, pB, p1, p2, p3]
          refine tK (.bool false) ?_
          try simp only [pA, pB, p1, p2, p3]
          refine tK (.bool false) ?_
          try simp only [pA, pB, p1, p2, p3]
          refine tK (.slice a_15 ws.length c_15) ?_
          try simp only [pA, pB, p1, p2, p3]
          refine tK (.slice a_16 ws.length c_16) ?_
          try simp only [pA, pB, p1, p2, p3]
          refine wp_callW 9 #[.slice a_15 ws.length c_15, .slice a_16 ws.length c_16] (by kernel_rfl) _ (same_any _ _ a_15 a_16 c_15 c_16 ws ws w_17 HO15.out HO16.out HWl.out) (by kernel_rfl) ?_
          rintro e w_18 ⟨rfl, hk⟩
          have HO14 : Hid (Own 9 1 w_18 wr.heap.size a_14 c_14 ws.length (ws.map strV)) := HO14.out.no hk
          have HO15 : Hid (Own 9 1 w_18 w_14.heap.size a_15 c_15 ws.length (ws.map strV)) := HO15.out.no hk
          have HO16 : Hid (Own 9 1 w_18 w_15.heap.size a_16 c_16 ws.length (ws.map strV)) := HO16.out.no hk
          have HK : Hid (Kept No w w_18) := HK.out.then hk
          have HKr : Hid (Own 22 1 w_18 n0 ka kc X.length (X.map It.v)) := HKr.out.no hk
          have HCell : Hid (w_18.cell? ⟨gw, ow + i * 1, none⟩ = some (.string (bs l))) := hk.cell HCell.out (fun e => e)
          have HKs : Hid (Ks w_18 n0 (X ++ [(⟨a_14, c_14, ws.map strV, none, 0, []⟩ : It)] ++ [(⟨a_15, c_15, ws.map strV, none, 0, []⟩ : It)])) := HKs.out.no hk
          clear hk
          refine ⟨.bool true, by simp, ?_⟩
          try simp only [pA, pB, p1, p2, p3]
          refine tK (.bool false) ?_
          try simp only [pA, pB, p1, p2, p3]
          refine tK (.bool false) ?_
          try simp only [pA, pB, p1, p2, p3]
          refine WL.nil ?_
          try simp only [pA, pB, p1, p2, p3]
          go_upto_region 14 with fail
          refine WL.start ?_
          refine tK (.slice ka X.length kc) ?_
          try simp only [pA, pB, p1, p2, p3]
          refine tK (.slice a_14 ws.length c_14) ?_
          try simp only [pA, pB, p1, p2, p3]
          have HK : Hid (Kept No w (w_18.alloc (.cells [.slice a_14 ws.length c_14].toArray 22))) := HK.out.then ((Kept.refl No _).alloc _)
          have HKr : Hid (Own 22 1 (w_18.alloc (.cells [.slice a_14 ws.length c_14].toArray 22)) n0 ka kc X.length (X.map It.v)) := HKr.out.no ((Kept.refl No _).alloc _)
          have HKs : Hid (Ks (w_18.alloc (.cells [.slice a_14 ws.length c_14].toArray 22)) n0 (X ++ [(⟨a_14, c_14, ws.map strV, none, 0, []⟩ : It)] ++ [(⟨a_15, c_15, ws.map strV, none, 0, []⟩ : It)])) := HKs.out.no ((Kept.refl No _).alloc _)
          have HX : Hid (Box (w_18.alloc (.cells [.slice a_14 ws.length c_14].toArray 22)) w_18.heap.size 22 [.slice a_14 ws.length c_14].toArray) := Box.new _ _ _
          refine wp_runW (.slice (some ⟨w_18.heap.size, 0, none⟩) 1 1) (w_18.alloc (.cells [.slice a_14 ws.length c_14].toArray 22)) (exec_built (by kernel_rfl)) (by kernel_rfl) ?_
          try simp only [pA, pB, p1, p2, p3]
          generalize w_18.alloc (.cells [.slice a_14 ws.length c_14].toArray 22) = wk20 at HK HKr HKs HX ⊢
          generalize w_18.heap.size = gk21 at HX ⊢
          obtain ⟨a_21, c_21, w_21, hrun, ho, hc⟩ := run_app 35 22 24 _ U35 I22 rfl HKr.out 35 ⟨gk21, 0, none⟩ 1 1 [.slice a_14 ws.length c_14] rfl (box_news HX.out) (by simp [Value.oneCell']) (by have := HI.out; have := HLx.out; omega) (by have := HI.out; have := HLx.out; omega) (by have := HK.out.size; have := HN0.out; omega)
          clear HX
          have HKs : Hid (Ks w_21 n0 (X ++ [(⟨a_14, c_14, ws.map strV, none, 0, []⟩ : It)] ++ [(⟨a_15, c_15, ws.map strV, none, 0, []⟩ : It)])) := HKs.out.keptRow HKr.out hc
          have HK : Hid (Kept No w w_21) := HK.out.runApp HKr.out HN0.out hc
          have HKr : Hid (Own 22 1 w_21 n0 a_21 c_21 (X.length + 1) (X.map It.v ++ [.slice a_14 ws.length c_14])) := ho
          refine wp_runW (.slice a_21 (X.length + 1) c_21) w_21 (exec_app _ _ 35 35 rfl _ _ _ (by kernel_rfl) (by kernel_rfl) hrun) (by kernel_rfl) ?_
          try simp only [pA, pB, p1, p2, p3]
          clear hrun ho hc
          refine tK (.slice a_21 (X.length + 1) c_21) ?_
          try simp only [pA, pB, p1, p2, p3]
          refine WL.nil ?_
          try simp only [pA, pB, p1, p2, p3]
          go_upto_region 15 with fail
          refine WL.start ?_
          refine tK (.slice a_21 (X.length + 1) c_21) ?_
          try simp only [pA, pB, p1, p2, p3]
          refine tK (.slice a_15 ws.length c_15) ?_
          try simp only [pA, pB, p1, p2, p3]
          have HK : Hid (Kept No w (w_21.alloc (.cells [.slice a_15 ws.length c_15].toArray 22))) := HK.out.then ((Kept.refl No _).alloc _)
          have HKr : Hid (Own 22 1 (w_21.alloc (.cells [.slice a_15 ws.length c_15].toArray 22)) n0 a_21 c_21 (X.length + 1) (X.map It.v ++ [.slice a_14 ws.length c_14])) := HKr.out.no ((Kept.refl No _).alloc _)
          have HKs : Hid (Ks (w_21.alloc (.cells [.slice a_15 ws.length c_15].toArray 22)) n0 (X ++ [(⟨a_14, c_14, ws.map strV, none, 0, []⟩ : It)] ++ [(⟨a_15, c_15, ws.map strV, none, 0, []⟩ : It)])) := HKs.out.no ((Kept.refl No _).alloc _)
          have HX : Hid (Box (w_21.alloc (.cells [.slice a_15 ws.length c_15].toArray 22)) w_21.heap.size 22 [.slice a_15 ws.length c_15].toArray) := Box.new _ _ _
          refine wp_runW (.slice (some ⟨w_21.heap.size, 0, none⟩) 1 1) (w_21.alloc (.cells [.slice a_15 ws.length c_15].toArray 22)) (exec_built (by kernel_rfl)) (by kernel_rfl) ?_
          try simp only [pA, pB, p1, p2, p3]
          generalize w_21.alloc (.cells [.slice a_15 ws.length c_15].toArray 22) = wk23 at HK HKr HKs HX ⊢
          generalize w_21.heap.size = gk24 at HX ⊢
          obtain ⟨a_24, c_24, w_24, hrun, ho, hc⟩ := run_app 35 22 24 _ U35 I22 rfl HKr.out 35 ⟨gk24, 0, none⟩ 1 1 [.slice a_15 ws.length c_15] rfl (box_news HX.out) (by simp [Value.oneCell']) (by have := HI.out; have := HLx.out; omega) (by have := HI.out; have := HLx.out; omega) (by have := HK.out.size; have := HN0.out; omega)
          clear HX
          have HKs : Hid (Ks w_24 n0 (X ++ [(⟨a_14, c_14, ws.map strV, none, 0, []⟩ : It)] ++ [(⟨a_15, c_15, ws.map strV, none, 0, []⟩ : It)])) := HKs.out.keptRow HKr.out hc
          have HK : Hid (Kept No w w_24) := HK.out.runApp HKr.out HN0.out hc
          have HKr : Hid (Own 22 1 w_24 n0 a_24 c_24 (X.length + 1 + 1) (X.map It.v ++ [.slice a_14 ws.length c_14] ++ [.slice a_15 ws.length c_15])) := ho
          refine wp_runW (.slice a_24 (X.length + 1 + 1) c_24) w_24 (exec_app _ _ 35 35 rfl _ _ _ (by kernel_rfl) (by kernel_rfl) hrun) (by kernel_rfl) ?_
          try simp only [pA, pB, p1, p2, p3]
          clear hrun ho hc
          refine tK (.slice a_24 (X.length + 1 + 1) c_24) ?_
          try simp only [pA, pB, p1, p2, p3]
          refine WL.nil ?_
          try simp only [pA, pB, p1, p2, p3]
          go_upto_region 8 with fail
          refine WL.start ?_
          refine tK (.int .i64 ((i : Nat) : Int)) ?_
          try simp only [pA, pB, p1, p2, p3]
          refine tW (.int .i64 ((i + 1 : Nat) : Int)) (exec_bin .add 3 _ _ _ rfl (.int .i64 ((i : Nat) : Int)) (.int .i64 1) (.int .i64 ((i + 1 : Nat) : Int)) (by kernel_rfl) (by kernel_rfl) (by kernel_rfl) (b_add1 i (by have := HI.out; omega) _)) ?_
          try simp only [pA, pB, p1, p2, p3]
          refine tK (.int .i64 ((i + 1 : Nat) : Int)) ?_
          try simp only [pA, pB, p1, p2, p3]
          refine WL.nil ?_
          try simp only [pA, pB, p1, p2, p3]
          have HXe : Hid ((X ++ [(⟨a_14, c_14, ws.map strV, none, 0, []⟩ : It)] ++ [(⟨a_15, c_15, ws.map strV, none, 0, []⟩ : It)]).length = X.length + 1 + 1 ∧ (X ++ [(⟨a_14, c_14, ws.map strV, none, 0, []⟩ : It)] ++ [(⟨a_15, c_15, ws.map strV, none, 0, []⟩ : It)]).map It.v = X.map It.v ++ [.slice a_14 ws.length c_14] ++ [.slice a_15 ws.length c_15]) := ⟨by simp, by simp [It.v]⟩
          go_wp2
          go_roundw
          case rel => exact ⟨i + 1, X ++ [(⟨a_14, c_14, ws.map strV, none, 0, []⟩ : It)] ++ [(⟨a_15, c_15, ws.map strV, none, 0, []⟩ : It)], a_24, c_24, by rw [HXe.out.1], by go_num, ⟨by have := HPp.out; omega, by have := HPp.out; omega⟩, (by show _ = _; rw [HXe.out.1, HLx.out]; omega), HKs, (by show Own _ _ _ _ _ _ _ _; rw [HXe.out.1, HXe.out.2]; exact HKr.out), (zt_push2 HZt.out rfl rfl rfl rfl rfl rfl), (sz_push2 HSz.out (by simpa using HWs.out) (by simpa using HWs.out)), HK⟩
          case measure => have := HPp.out; simp [intOf]; omega
      · have hcq : ¬ ((i : Nat) : Int) < 4096 := by omega
        have HN : Hid (X.length ≤ 8193 ∧ 1 ≤ X.length) := ⟨by have := HLx.out; have := HIi.out; omega, by have := HLx.out; omega⟩
        obtain ⟨gk, rfl⟩ := HKr.out.some_of (by have := HN.out; omega)
        obtain ⟨N, hN⟩ : ∃ N, N = X.length := ⟨_, rfl⟩
        obtain ⟨V0, hV0⟩ : ∃ V, V = X.map It.v := ⟨_, rfl⟩
        have HF : Hid (K2 w wr n0 gk kc N V0 X) := ⟨HKs.out, by rw [hN, hV0]; exact HKr.out, hN.symm, hV0.symm, HZt.out, HSz.out, HK.out, HN0.out⟩
        rw [← hN] at HN
        clear HKs HKr HZt HSz HK HLx HIi
        go_upto_region 7 with fail
        refine WL.start ?_
        refine tK (.int .i64 ((i : Nat) : Int)) ?_
        try simp only [pA, pB, p1, p2, p3]
        refine tK (.slice a ls.length cap) ?_
        try simp only [pA, pB, p1, p2, p3]
        refine tK (.int .i64 ((ls.length : Nat) : Int)) ?_
        try simp only [pA, pB, p1, p2, p3]
        refine tW (.bool true) (exec_bin .lss 3 _ _ _ rfl (.int .i64 ((i : Nat) : Int)) (.int .i64 ((ls.length : Nat) : Int)) (.bool true) (by kernel_rfl) (by kernel_rfl) (by kernel_rfl) (by rw [b_lss, decide_eq_true hcm])) ?_
        try simp only [pA, pB, p1, p2, p3]
        refine tK (.bool true) ?_
        try simp only [pA, pB, p1, p2, p3]
        refine tK (.int .i64 ((i : Nat) : Int)) ?_
        try simp only [pA, pB, p1, p2, p3]
        refine tW (.bool false) (exec_bin .lss 3 _ _ _ rfl (.int .i64 ((i : Nat) : Int)) (.int .i64 4096) (.bool false) (by kernel_rfl) (by kernel_rfl) (by kernel_rfl) (by rw [b_lss, decide_eq_false hcq])) ?_
        try simp only [pA, pB, p1, p2, p3]
        refine tK (.bool false) ?_
        try simp only [pA, pB, p1, p2, p3]
        refine WL.nil ?_
        try simp only [pA, pB, p1, p2, p3]
        rw [← hN]
        clear hN hV0
        clear hp
        go_wp2
        go_loopw [14] (fun v14 wr => ∃ (i : Nat) (X : List It), v14 = .int .i64 ((i : Nat) : Int) ∧ Hid (i ≤ N) ∧ Hid (K2 w wr n0 gk kc N V0 X) ∧ Hid (Dn X i)) (fun v14 _ => N - (intOf v14).toNat)
        case atStart => exact ⟨0, X, by go_num, Nat.zero_le _, HF, fun j x _ hj => by omega⟩
        case round =>
          clear HF
          obtain ⟨i, X, rfl, HIn, HF, HDn⟩ := hrel
          by_cases hp : i < N
          · have hcm2 : ((i : Nat) : Int) < ((N : Nat) : Int) := by omega
            have HI : Hid (i ≤ 8193 ∧ i < N) := ⟨by have := HN.out; omega, hp⟩
            have HPi : Hid (i < N) := hp
            obtain ⟨x, hx, hv, hcl⟩ := HF.out.at hp
            obtain ⟨xa, xn, xc, hxv⟩ : ∃ xa xn xc, x.v = .slice xa xn xc := ⟨_, _, _, rfl⟩
            rw [hxv] at hv
            have HVi : Hid (V0[i]? = some (.slice xa xn xc)) := hv
            have HXn : Hid (xn ≤ 200000000000) := by
              have := HF.out.sz i x hx
              unfold It.v at hxv
              simp only [Value.slice.injEq] at hxv
              show xn ≤ _
              rw [← hxv.2.1]; exact this
            clear hx hv hcl hxv x hp
            go_upto_region 17 with fail
            refine WL.start ?_
            refine tK (.int .i64 ((i : Nat) : Int)) ?_
            try simp only [pA, pB, p1, p2, p3]
            refine tK (.slice (some ⟨gk, 0, none⟩) N kc) ?_
            try simp only [pA, pB, p1, p2, p3]
            refine tK (.int .i64 ((N : Nat) : Int)) ?_
            try simp only [pA, pB, p1, p2, p3]
            refine tW (.bool true) (exec_bin .lss 3 _ _ _ rfl (.int .i64 ((i : Nat) : Int)) (.int .i64 ((N : Nat) : Int)) (.bool true) (by kernel_rfl) (by kernel_rfl) (by kernel_rfl) (by rw [b_lss, decide_eq_true hcm2])) ?_
            try simp only [pA, pB, p1, p2, p3]
            refine WL.nil ?_
            try simp only [pA, pB, p1, p2, p3]
            go_upto_region 19 with fail
            refine WL.start ?_
            refine tK (.int .i64 ((i : Nat) : Int)) ?_
            try simp only [pA, pB, p1, p2, p3]
            refine wp_callW 12 #[.int .i64 ((i : Nat) : Int)] (by kernel_rfl) _ (marked_any i (by have := HI.out; omega) wr) (by kernel_rfl) ?_
            rintro e w_25 ⟨rfl, hk⟩
            have HF : Hid (K2 w w_25 n0 gk kc N V0 X) := HF.out.no hk
            clear hk
            refine ⟨.string (bs (mk i)), rfl, ?_⟩
            try simp only [pA, pB, p1, p2, p3]
            refine tW (.string (bs (kB i))) (exec_bin .add 9 _ _ _ rfl (.string ⟨#[107, 101, 112, 116, 32]⟩) (.string (bs (mk i))) (.string (bs (kB i))) (by kernel_rfl) (by kernel_rfl) (by kernel_rfl) (b_addS [107, 101, 112, 116, 32] (mk i) (by have h1 := HI.out; have h2 := mk_len i; simp; omega) _)) ?_
            try simp only [pA, pB, p1, p2, p3]
            refine tK (.string (bs (kB i))) ?_
            try simp only [pA, pB, p1, p2, p3]
            refine WL.nil ?_
            try simp only [pA, pB, p1, p2, p3]
            go_upto_region 20 with fail
            refine WL.start ?_
            refine tK (.int .i64 0) ?_
            try simp only [pA, pB, p1, p2, p3]
            refine WL.nil ?_
            try simp only [pA, pB, p1, p2, p3]
            go_wp2
            go_loopw [16] (fun v16 wr => ∃ (j : Nat) (X : List It), v16 = .int .i64 ((j : Nat) : Int) ∧ Hid (j ≤ xn) ∧ Hid (K2 w wr n0 gk kc N V0 X) ∧ Hid (Dn X i) ∧ Hid (∀ x, X[i]? = some x → ∀ k, k < j → x.vs[k]? = some (strV (kB i)))) (fun v16 _ => xn - (intOf v16).toNat)
            case atStart => exact ⟨0, X, by go_num, Nat.zero_le _, HF, HDn, (show ∀ x, X[i]? = some x → ∀ k, k < 0 → x.vs[k]? = some (strV (kB i)) from fun x _ k hk => by omega)⟩
            case round =>
              clear HF HDn
              obtain ⟨j, X, rfl, HJn, HF, HDn, HVk⟩ := hrel
              obtain ⟨x, hx, hv, hcl⟩ := HF.out.at HPi.out
              rw [HVi.out] at hv
              obtain ⟨a0, c, vs, a2, c2, vs2⟩ := x
              obtain ⟨rfl, rfl, rfl⟩ : xa = a0 ∧ xn = vs.length ∧ xc = c := by
                have e : (.slice xa xn xc : Value) = .slice a0 vs.length c := Option.some.inj hv
                simpa using e
              have HXi : Hid (X[i]? = some ⟨xa, xc, vs, a2, c2, vs2⟩) := hx
              have HCl : Hid (wr.cell? ⟨gk, 0 + i * 1, none⟩ = some (.slice xa vs.length xc)) := hcl
              clear hx hv hcl
              by_cases hp : j < vs.length
              · have hcm3 : ((j : Nat) : Int) < ((vs.length : Nat) : Int) := by omega
                have HPp : Hid (j < vs.length ∧ i < N) := ⟨hp, HPi.out⟩
                obtain ⟨gi, rfl⟩ := (HF.out.ks.ok i _ HXi.out).own.some_of (by show 0 < vs.length; omega)
                have HI : Hid (i ≤ 8193 ∧ i < N ∧ j ≤ 200000000000) := ⟨HI.out.1, HI.out.2, by have := HXn.out; omega⟩
                clear hp
                go_upto_region 21 with fail
                refine WL.start ?_
                refine tK (.int .i64 ((j : Nat) : Int)) ?_
                try simp only [pA, pB, p1, p2, p3]
                refine tK (.slice (some ⟨gk, 0, none⟩) N kc) ?_
                try simp only [pA, pB, p1, p2, p3]
                refine tK (.int .i64 ((i : Nat) : Int)) ?_
                try simp only [pA, pB, p1, p2, p3]
                refine tW (.pointer (some ⟨gk, 0 + i * 1, none⟩)) (exec_ixA 35 1 E35 F35 _ _ rfl gk 0 N kc i (by kernel_rfl) (by kernel_rfl) (by have := HPp.out; omega)) ?_
                try simp only [pA, pB, p1, p2, p3]
                refine tW (.slice (some ⟨gi, 0, none⟩) vs.length xc) (exec_load 22 _ rfl ⟨gk, 0 + i * 1, none⟩ (by kernel_rfl) (.slice (some ⟨gi, 0, none⟩) vs.length xc) (load_one HCl.out U22 rfl)) ?_
                try simp only [pA, pB, p1, p2, p3]
                refine tK (.int .i64 ((vs.length : Nat) : Int)) ?_
                try simp only [pA, pB, p1, p2, p3]
                refine tW (.bool true) (exec_bin .lss 3 _ _ _ rfl (.int .i64 ((j : Nat) : Int)) (.int .i64 ((vs.length : Nat) : Int)) (.bool true) (by kernel_rfl) (by kernel_rfl) (by kernel_rfl) (by rw [b_lss, decide_eq_true hcm3])) ?_
                try simp only [pA, pB, p1, p2, p3]
                refine WL.nil ?_
                try simp only [pA, pB, p1, p2, p3]
                go_upto_region 23 with fail
                refine WL.start ?_
                refine tK (.slice (some ⟨gk, 0, none⟩) N kc) ?_
                try simp only [pA, pB, p1, p2, p3]
                refine tK (.int .i64 ((i : Nat) : Int)) ?_
                try simp only [pA, pB, p1, p2, p3]
                refine tW (.pointer (some ⟨gk, 0 + i * 1, none⟩)) (exec_ixA 35 1 E35 F35 _ _ rfl gk 0 N kc i (by kernel_rfl) (by kernel_rfl) (by have := HPp.out; omega)) ?_
                try simp only [pA, pB, p1, p2, p3]
                refine tW (.slice (some ⟨gi, 0, none⟩) vs.length xc) (exec_load 22 _ rfl ⟨gk, 0 + i * 1, none⟩ (by kernel_rfl) (.slice (some ⟨gi, 0, none⟩) vs.length xc) (load_one HCl.out U22 rfl)) ?_
                try simp only [pA, pB, p1, p2, p3]
                refine tK (.int .i64 ((j : Nat) : Int)) ?_
                try simp only [pA, pB, p1, p2, p3]
                refine tK (.string (bs (kB i))) ?_
                try simp only [pA, pB, p1, p2, p3]
                refine tW (.pointer (some ⟨gi, 0 + j * 1, none⟩)) (exec_ixA 22 1 E22 F22 _ _ rfl gi 0 vs.length xc j (by kernel_rfl) (by kernel_rfl) (by have := HPp.out; omega)) ?_
                try simp only [pA, pB, p1, p2, p3]
                obtain ⟨cs_27, hst, hF⟩ := HF.out.store (j := j) (g := gi) HXi.out rfl HPp.out.1 (kB i)
                refine wp_storeW 9 _ _ rfl ⟨gi, 0 + j * 1, none⟩ (.string (bs (kB i))) (by kernel_rfl) (by kernel_rfl) (wr.setRow gi cs_27) hst (by kernel_rfl) ?_
                try simp only [pA, pB, p1, p2, p3]
                have HF : Hid (K2 w (wr.setRow gi cs_27) n0 gk kc N V0 (X.set i ⟨some ⟨gi, 0, none⟩, xc, vs.set j (strV (kB i)), a2, c2, vs2⟩)) := hF
                clear hst hF
                generalize wr.setRow gi cs_27 = wS at HF ⊢
                refine WL.nil ?_
                try simp only [pA, pB, p1, p2, p3]
                go_upto_region 22 with fail
                refine WL.start ?_
                refine tK (.int .i64 ((j : Nat) : Int)) ?_
                try simp only [pA, pB, p1, p2, p3]
                refine tW (.int .i64 ((j + 1 : Nat) : Int)) (exec_bin .add 3 _ _ _ rfl (.int .i64 ((j : Nat) : Int)) (.int .i64 1) (.int .i64 ((j + 1 : Nat) : Int)) (by kernel_rfl) (by kernel_rfl) (by kernel_rfl) (b_add1 j (by have := HI.out; omega) _)) ?_
                try simp only [pA, pB, p1, p2, p3]
                refine tK (.int .i64 ((j + 1 : Nat) : Int)) ?_
                try simp only [pA, pB, p1, p2, p3]
                refine WL.nil ?_
                try simp only [pA, pB, p1, p2, p3]
                go_wp2
                go_roundw
                case rel => exact ⟨j + 1, _, by go_num, (by have := HPp.out; show j + 1 ≤ _; omega), HF, dn_set HXi.out HDn.out, filled HXi.out HVk.out HPp.out.1⟩
                case measure => have := HPp.out; simp [intOf]; omega
              · have hcm3 : ¬ ((j : Nat) : Int) < ((vs.length : Nat) : Int) := by omega
                have HJe : Hid (j = vs.length) := show j = vs.length by have := HJn.out; omega
                have HPp : Hid (i < N) := HPi.out
                go_upto_region 21 with fail
                refine WL.start ?_
                refine tK (.int .i64 ((j : Nat) : Int)) ?_
                try simp only [pA, pB, p1, p2, p3]
                refine tK (.slice (some ⟨gk, 0, none⟩) N kc) ?_
                try simp only [pA, pB, p1, p2, p3]
                refine tK (.int .i64 ((i : Nat) : Int)) ?_
                try simp only [pA, pB, p1, p2, p3]
                refine tW (.pointer (some ⟨gk, 0 + i * 1, none⟩)) (exec_ixA 35 1 E35 F35 _ _ rfl gk 0 N kc i (by kernel_rfl) (by kernel_rfl) (by have := HPp.out; omega)) ?_
                try simp only [pA, pB, p1, p2, p3]
                refine tW (.slice xa vs.length xc) (exec_load 22 _ rfl ⟨gk, 0 + i * 1, none⟩ (by kernel_rfl) (.slice xa vs.length xc) (load_one HCl.out U22 rfl)) ?_
                try simp only [pA, pB, p1, p2, p3]
                refine tK (.int .i64 ((vs.length : Nat) : Int)) ?_
                try simp only [pA, pB, p1, p2, p3]
                refine tW (.bool false) (exec_bin .lss 3 _ _ _ rfl (.int .i64 ((j : Nat) : Int)) (.int .i64 ((vs.length : Nat) : Int)) (.bool false) (by kernel_rfl) (by kernel_rfl) (by kernel_rfl) (by rw [b_lss, decide_eq_false hcm3])) ?_
                try simp only [pA, pB, p1, p2, p3]
                refine WL.nil ?_
                try simp only [pA, pB, p1, p2, p3]
                go_upto_region 18 with fail
                refine WL.start ?_
                refine tK (.int .i64 ((i : Nat) : Int)) ?_
                try simp only [pA, pB, p1, p2, p3]
                refine tW (.int .i64 ((i + 1 : Nat) : Int)) (exec_bin .add 3 _ _ _ rfl (.int .i64 ((i : Nat) : Int)) (.int .i64 1) (.int .i64 ((i + 1 : Nat) : Int)) (by kernel_rfl) (by kernel_rfl) (by kernel_rfl) (b_add1 i (by have := HI.out; omega) _)) ?_
                try simp only [pA, pB, p1, p2, p3]
                refine tK (.int .i64 ((i + 1 : Nat) : Int)) ?_
                try simp only [pA, pB, p1, p2, p3]
                refine WL.nil ?_
                try simp only [pA, pB, p1, p2, p3]
                go_wp2
                go_roundw
                case rel => exact ⟨i + 1, X, by go_num, HPi.out, HF, dn_next HXi.out HDn.out (fun k hk => HVk.out _ HXi.out k (by rw [HJe.out]; exact hk))⟩
                case measure => have := HPi.out; simp [intOf]; omega
          · have hcm2 : ¬ ((i : Nat) : Int) < ((N : Nat) : Int) := by omega
            obtain rfl : N = i := by have := HIn.out; omega
            go_upto_region 17 with fail
            refine WL.start ?_
            refine tK (.int .i64 ((N : Nat) : Int)) ?_
            try simp only [pA, pB, p1, p2, p3]
            refine tK (.slice (some ⟨gk, 0, none⟩) N kc) ?_
            try simp only [pA, pB, p1, p2, p3]
            refine tK (.int .i64 ((N : Nat) : Int)) ?_
            try simp only [pA, pB, p1, p2, p3]
            refine tW (.bool false) (exec_bin .lss 3 _ _ _ rfl (.int .i64 ((N : Nat) : Int)) (.int .i64 ((N : Nat) : Int)) (.bool false) (by kernel_rfl) (by kernel_rfl) (by kernel_rfl) (by rw [b_lss, decide_eq_false hcm2])) ?_
            try simp only [pA, pB, p1, p2, p3]
            refine WL.nil ?_
            try simp only [pA, pB, p1, p2, p3]
            have HF3 : Hid (K3 w wr n0 gk kc N V0 wr.heap.size none 0 0 0 X) := HF.out.begin3 HDn.out
            clear HF HDn HIn hcm2
            obtain ⟨b3, hb3⟩ : ∃ b, b = wr.heap.size := ⟨_, rfl⟩
            rw [← hb3] at HF3
            clear hb3 hp
            go_wp2
            go_loopw [6, 17] (fun v6 v17 wr => ∃ (i : Nat) (X : List It) (la : Option Addr) (lc : Nat), v6 = .slice la i lc ∧ v17 = .int .i64 ((i : Nat) : Int) ∧ Hid (i ≤ N) ∧ Hid (K3 w wr n0 gk kc N V0 b3 la lc i i X)) (fun _ v17 _ => N - (intOf v17).toNat)
            case atStart => exact ⟨0, X, none, 0, rfl, by go_num, Nat.zero_le _, HF3⟩
            case round =>
              clear HF3
              obtain ⟨i, X, la, lc, rfl, rfl, HIn, HF⟩ := hrel
              by_cases hp : i < N
              · have hcm2 : ((i : Nat) : Int) < ((N : Nat) : Int) := by omega
                have HI : Hid (i ≤ 8193 ∧ i < N) := ⟨by have := HN.out; omega, hp⟩
                have HPp : Hid (i < N) := hp
                obtain ⟨x, hx, hv, hcl⟩ := HF.out.at hp
                have hok := HF.out.begin hx
                have hsz := HF.out.sz i x hx
                have hxi : (X.set i { x with a2 := x.a, c2 := x.c, vs2 := x.vs })[i]? = some { x with a2 := x.a, c2 := x.c, vs2 := x.vs } := List.getElem?_set_self (List.getElem?_eq_some_iff.1 hx).1
                obtain ⟨a, c, vs, a2, c2, vs2⟩ := x
                obtain ⟨X1, hX1⟩ : ∃ X1, X1 = X.set i ⟨a, c, vs, a, c, vs⟩ := ⟨_, rfl⟩
                have HF : Hid (K3 w wr n0 gk kc N V0 b3 la lc i (i + 1) X1) := by rw [hX1]; exact hok
                have HXi : Hid (X1[i]? = some ⟨a, c, vs, a, c, vs⟩) := by rw [hX1]; exact hxi
                have HLk : Hid (It.link ⟨a, c, vs, a, c, vs⟩) := ⟨.inl ⟨rfl, rfl⟩, List.prefix_refl _⟩
                have HVi : Hid (V0[i]? = some (.slice a vs.length c)) := hv
                have HCl : Hid (wr.cell? ⟨gk, 0 + i * 1, none⟩ = some (.slice a vs.length c)) := hcl
                have HV2 : Hid (vs.length ≤ 200000000000) := hsz
                clear hx hv hcl hok hsz hxi hX1 hp
                go_upto_region 25 with fail
                refine WL.start ?_
                refine tK (.int .i64 ((i : Nat) : Int)) ?_
                try simp only [pA, pB, p1, p2, p3]
                refine tK (.slice (some ⟨gk, 0, none⟩) N kc) ?_
                try simp only [pA, pB, p1, p2, p3]
                refine tK (.int .i64 ((N : Nat) : Int)) ?_
                try simp only [pA, pB, p1, p2, p3]
                refine tW (.bool true) (exec_bin .lss 3 _ _ _ rfl (.int .i64 ((i : Nat) : Int)) (.int .i64 ((N : Nat) : Int)) (.bool true) (by kernel_rfl) (by kernel_rfl) (by kernel_rfl) (by rw [b_lss, decide_eq_true hcm2])) ?_
                try simp only [pA, pB, p1, p2, p3]
                refine WL.nil ?_
                try simp only [pA, pB, p1, p2, p3]
                have HVz : Hid (vs.length ≤ 200000000000) := HV2.out
                go_upto_region 27 with fail
                have HF : Hid (K3 w wr.drew n0 gk kc N V0 b3 la lc i (i + 1) X1) := HF.out.no (Kept.refl No _).drew
                have HCl : Hid (wr.drew.cell? ⟨gk, 0 + i * 1, none⟩ = some (.slice a vs.length c)) := (Kept.refl No _).drew.cell HCl.out (fun e => e)
                refine wp_region_held_drew (S := fun w' => w'.cell? ⟨gk, 0 + i * 1, none⟩ = some (.slice a vs.length c)) rfl HCl.out (fun hH => ?_)
                generalize wr.drew = wk28 at HF HCl hH ⊢
                refine aT (i := 0) (oi := { dst := some 141, op := Op.move (Operand.tmp 5), type := 35, pos := "law.go:132", after := #[], guard := none }) (v := .slice (some ⟨gk, 0, none⟩) N kc) (fun _ _ => by kernel_rfl) hH ?_
                try simp only [pA, pB, p1, p2, p3]
                refine aT (i := 1) (oi := { dst := some 142, op := Op.move (Operand.tmp 17), type := 3, pos := "law.go:132", after := #[], guard := none }) (v := .int .i64 ((i : Nat) : Int)) (fun _ _ => by kernel_rfl) hH ?_
                try simp only [pA, pB, p1, p2, p3]
                refine aT (i := 2) (oi := { dst := some 143, op := Op.indexAddr 35 (Operand.tmp 141) (Operand.tmp 142), type := 0, pos := "law.go:132", after := #[{ on := 0, ground := Ground.data }, { on := 1, ground := Ground.data }], guard := none }) (v := .pointer (some ⟨gk, 0 + i * 1, none⟩)) (fun w' hw => exec_ixA 35 1 E35 F35 _ _ rfl gk 0 N kc i (by kernel_rfl) (by kernel_rfl) (by have := HPp.out; omega)) hH ?_
                try simp only [pA, pB, p1, p2, p3]
                refine aT (i := 3) (oi := { dst := some 144, op := Op.load 22 (Operand.tmp 143), type := 22, pos := "law.go:132", after := #[{ on := 2, ground := Ground.data }], guard := none }) (v := .slice a vs.length c) (fun w' hw => exec_load 22 _ rfl ⟨gk, 0 + i * 1, none⟩ (by kernel_rfl) (.slice a vs.length c) (load_one hw U22 rfl)) hH ?_
                try simp only [pA, pB, p1, p2, p3]
                refine aT (i := 4) (oi := { dst := some 145, op := Op.move (Operand.tmp 17), type := 3, pos := "law.go:132", after := #[], guard := none }) (v := .int .i64 ((i : Nat) : Int)) (fun _ _ => by kernel_rfl) hH ?_
                try simp only [pA, pB, p1, p2, p3]
                refine any_call (i := 5) (o := { dst := some 146, op := Op.call { callee := Callee.value (Operand.func 12), args := #[Operand.tmp 145], argTypes := #[3] }, type := 9, pos := "law.go:132", after := #[{ on := 4, ground := Ground.data }], guard := none }) rfl (by kernel_rfl) (by kernel_rfl) 12 #[.int .i64 ((i : Nat) : Int)] (by kernel_rfl) _ (marked_any i (by have := HI.out; omega) wk28) ?_
                rintro e w_28 ⟨rfl, hk⟩
                have HF : Hid (K3 w w_28 n0 gk kc N V0 b3 la lc i (i + 1) X1) := HF.out.no hk
                have HCl : Hid (w_28.cell? ⟨gk, 0 + i * 1, none⟩ = some (.slice a vs.length c)) := hk.cell HCl.out (fun e => e)
                clear hk
                refine ⟨.string (bs (mk i)), rfl, HCl.out, fun hH => ?_⟩
                try simp only [pA, pB, p1, p2, p3]
                refine aT (i := 6) (oi := { dst := some 147, op := Op.binOp BinOp.add 9 (Operand.const (Value.string { data := #[109, 111, 114, 101, 32] })) (Operand.tmp 146) 9, type := 9, pos := "law.go:132", after := #[{ on := 5, ground := Ground.data }], guard := none }) (v := .string (bs (mB i))) (fun w' hw => exec_bin .add 9 _ _ _ rfl (.string ⟨#[109, 111, 114, 101, 32]⟩) (.string (bs (mk i))) (.string (bs (mB i))) (by kernel_rfl) (by kernel_rfl) (by kernel_rfl) (b_addS [109, 111, 114, 101, 32] (mk i) (by have h1 := HI.out; have h2 := mk_len i; simp; omega) _)) hH ?_
                try simp only [pA, pB, p1, p2, p3]
                have HF : Hid (K3 w (w_28.alloc (.cells [.string (bs (mB i))].toArray 9)) n0 gk kc N V0 b3 la lc i (i + 1) X1) := HF.out.no ((Kept.refl No _).alloc _)
                have HCl : Hid ((w_28.alloc (.cells [.string (bs (mB i))].toArray 9)).cell? ⟨gk, 0 + i * 1, none⟩ = some (.slice a vs.length c)) := ((Kept.refl No _).alloc _).cell HCl.out (fun e => e)
                have HX : Hid (Box (w_28.alloc (.cells [.string (bs (mB i))].toArray 9)) w_28.heap.size 9 [.string (bs (mB i))].toArray) := Box.new _ _ _
                refine any_step (i := 7) (o := { dst := some 148, op := Op.buildSlice 22 1 #[(0, Operand.tmp 147)], type := 22, pos := "law.go:132", after := #[{ on := 6, ground := Ground.data }], guard := none }) (v := .slice (some ⟨w_28.heap.size, 0, none⟩) 1 1) (w' := w_28.alloc (.cells [.string (bs (mB i))].toArray 9)) rfl (by kernel_rfl) (by kernel_rfl) (exec_built (by kernel_rfl)) HCl.out (fun hH => ?_)
                try simp only [pA, pB, p1, p2, p3]
                generalize w_28.alloc (.cells [.string (bs (mB i))].toArray 9) = wk30 at HF HCl HX hH ⊢
                generalize w_28.heap.size = gk31 at HX ⊢
                obtain ⟨y31, w_31, hrun, hvs, hvs2, hlk, hxy, hF⟩ := HF.out.grow HXi.out HLk.out gk31 (mB i) HX.out (show vs.length ≤ 1000000000000 by have := HV2.out; omega)
                clear HX
                have HCl : Hid (w_31.cell? ⟨gk, 0 + i * 1, none⟩ = some (.slice a vs.length c)) := hF.row.cellAt (i := 0 + i * 1) (by rw [Nat.zero_add, Nat.mul_one]; exact HVi.out)
                refine any_step (i := 8) (o := { dst := some 149, op := Op.call { callee := Callee.builtin Builtin.append, args := #[Operand.tmp 144, Operand.tmp 148], argTypes := #[22, 22] }, type := 22, pos := "law.go:132", after := #[{ on := 3, ground := Ground.data }, { on := 7, ground := Ground.data }, { on := 5, ground := Ground.chain }], guard := none }) (v := y31.v2) (w' := w_31) rfl (by kernel_rfl) (by kernel_rfl) (exec_app _ _ 22 22 rfl _ _ _ (by kernel_rfl) (by kernel_rfl) (hrun 22)) HCl.out (fun hH => ?_)
                try simp only [pA, pB, p1, p2, p3]
                have HV2 : Hid (y31.vs2.length = vs.length + 1 ∧ y31.vs2 = vs ++ List.replicate 1 (strV (mB i))) := ⟨by rw [hvs2]; simp, hvs2⟩
                have HVs : Hid (y31.vs = vs) := hvs
                have HLk : Hid y31.link := hlk
                obtain ⟨X2, hX2⟩ : ∃ Z : List It, Z = X1.set i y31 := ⟨_, rfl⟩
                rw [← hX2] at hxy hF
                have HXi : Hid (X2[i]? = some y31) := hxy
                have HF : Hid (K3 w w_31 n0 gk kc N V0 b3 la lc i (i + 1) X2) := hF
                clear hrun hvs hvs2 hlk hxy hF hX2
                refine aT (i := 9) (oi := { dst := some 18, op := Op.assign (Operand.tmp 149), type := 22, pos := "law.go:132", after := #[{ on := 8, ground := Ground.data }, { on := 8, ground := Ground.chain }, { on := 0, ground := Ground.phase }, { on := 1, ground := Ground.phase }, { on := 2, ground := Ground.phase }, { on := 3, ground := Ground.phase }, { on := 4, ground := Ground.phase }, { on := 5, ground := Ground.phase }, { on := 6, ground := Ground.phase }, { on := 7, ground := Ground.phase }, { on := 8, ground := Ground.phase }], guard := none }) (v := y31.v2) (fun _ _ => by kernel_rfl) hH ?_
                try simp only [pA, pB, p1, p2, p3]
                refine wpAnyH_done (by kernel_rfl) ?_ _
                try simp only [pA, pB, p1, p2, p3]
                clear hH
                go_upto_region 28 with fail
                refine WL.start ?_
                refine tK (.int .i64 0) ?_
                try simp only [pA, pB, p1, p2, p3]
                refine WL.nil ?_
                try simp only [pA, pB, p1, p2, p3]
                go_wp2
                go_loopw [18, 19] (fun v18 v19 wr => ∃ (k : Nat) (X2 : List It) (y : It), v18 = y.v2 ∧ v19 = .int .i64 ((k : Nat) : Int) ∧ Hid (k ≤ 70) ∧ Hid (y.vs2.length = vs.length + (k + 1) ∧ y.vs2 = vs ++ List.replicate (k + 1) (strV (mB i))) ∧ Hid (y.vs = vs) ∧ Hid y.link ∧ Hid (X2[i]? = some y) ∧ Hid (K3 w wr n0 gk kc N V0 b3 la lc i (i + 1) X2)) (fun _ v19 _ => 70 - (intOf v19).toNat)
                case atStart => exact ⟨0, X2, y31, rfl, by go_num, Nat.zero_le _, HV2, HVs, HLk, HXi, HF⟩
                case round =>
                  clear HV2 HVs HLk HXi HF HCl
                  obtain ⟨k, X2, y, rfl, rfl, HKk, HV2, HVs, HLk, HXi, HF⟩ := hrel
                  by_cases hp : k < 70
                  · have hcm3 : ((k : Nat) : Int) < 70 := by omega
                    have HPk : Hid (k < 70) := hp
                    have HI : Hid (i ≤ 8193 ∧ i < N ∧ k < 70 ∧ vs.length ≤ 200000000000) := ⟨HI.out.1, HI.out.2, hp, HVz.out⟩
                    clear hp
                    go_upto_region 29 with fail
                    refine WL.start ?_
                    refine tK (.int .i64 ((k : Nat) : Int)) ?_
                    try simp only [pA, pB, p1, p2, p3]
                    refine tW (.bool true) (exec_bin .lss 3 _ _ _ rfl (.int .i64 ((k : Nat) : Int)) (.int .i64 70) (.bool true) (by kernel_rfl) (by kernel_rfl) (by kernel_rfl) (by rw [b_lss, decide_eq_true hcm3])) ?_
                    try simp only [pA, pB, p1, p2, p3]
                    refine WL.nil ?_
                    try simp only [pA, pB, p1, p2, p3]
                    go_upto_region 31 with fail
                    refine WL.start ?_
                    refine tK (y.v2) ?_
                    try simp only [pA, pB, p1, p2, p3]
                    refine tK (.int .i64 ((i : Nat) : Int)) ?_
                    try simp only [pA, pB, p1, p2, p3]
                    refine wp_callW 12 #[.int .i64 ((i : Nat) : Int)] (by kernel_rfl) _ (marked_any i (by have := HI.out; omega) wr) (by kernel_rfl) ?_
                    rintro e w_32 ⟨rfl, hk⟩
                    have HF : Hid (K3 w w_32 n0 gk kc N V0 b3 la lc i (i + 1) X2) := HF.out.no hk
                    clear hk
                    refine ⟨.string (bs (mk i)), rfl, ?_⟩
                    try simp only [pA, pB, p1, p2, p3]
                    refine tW (.string (bs (mB i))) (exec_bin .add 9 _ _ _ rfl (.string ⟨#[109, 111, 114, 101, 32]⟩) (.string (bs (mk i))) (.string (bs (mB i))) (by kernel_rfl) (by kernel_rfl) (by kernel_rfl) (b_addS [109, 111, 114, 101, 32] (mk i) (by have h1 := HI.out; have h2 := mk_len i; simp; omega) _)) ?_
                    try simp only [pA, pB, p1, p2, p3]
                    have HF : Hid (K3 w (w_32.alloc (.cells [.string (bs (mB i))].toArray 9)) n0 gk kc N V0 b3 la lc i (i + 1) X2) := HF.out.no ((Kept.refl No _).alloc _)
                    have HX : Hid (Box (w_32.alloc (.cells [.string (bs (mB i))].toArray 9)) w_32.heap.size 9 [.string (bs (mB i))].toArray) := Box.new _ _ _
                    refine wp_runW (.slice (some ⟨w_32.heap.size, 0, none⟩) 1 1) (w_32.alloc (.cells [.string (bs (mB i))].toArray 9)) (exec_built (by kernel_rfl)) (by kernel_rfl) ?_
                    try simp only [pA, pB, p1, p2, p3]
                    generalize w_32.alloc (.cells [.string (bs (mB i))].toArray 9) = wk34 at HF HX ⊢
                    generalize w_32.heap.size = gk35 at HX ⊢
                    obtain ⟨y35, w_35, hrun, hvs, hvs2, hlk, hxy, hF⟩ := HF.out.grow HXi.out HLk.out gk35 (mB i) HX.out (by have := HI.out; have := HV2.out; omega)
                    clear HX
                    refine wp_runW (y35.v2) w_35 (exec_app _ _ 22 22 rfl _ _ _ (by kernel_rfl) (by kernel_rfl) (hrun 22)) (by kernel_rfl) ?_
                    try simp only [pA, pB, p1, p2, p3]
                    have HV2 : Hid (y35.vs2.length = vs.length + (k + 1) + 1 ∧ y35.vs2 = vs ++ List.replicate (k + 1 + 1) (strV (mB i))) := ⟨by rw [hvs2, List.length_append, HV2.out.1]; rfl, by rw [hvs2, HV2.out.2, List.append_assoc, ← List.replicate_succ']⟩
                    have HVs : Hid (y35.vs = vs) := hvs.trans HVs.out
                    have HLk : Hid y35.link := hlk
                    obtain ⟨X2, hX2⟩ : ∃ Z : List It, Z = X2.set i y35 := ⟨_, rfl⟩
                    rw [← hX2] at hxy hF
                    have HXi : Hid (X2[i]? = some y35) := hxy
                    have HF : Hid (K3 w w_35 n0 gk kc N V0 b3 la lc i (i + 1) X2) := hF
                    clear hrun hvs hvs2 hlk hxy hF hX2
                    refine tK (y35.v2) ?_
                    try simp only [pA, pB, p1, p2, p3]
                    refine WL.nil ?_
                    try simp only [pA, pB, p1, p2, p3]
                    go_upto_region 30 with fail
                    refine WL.start ?_
                    refine tK (.int .i64 ((k : Nat) : Int)) ?_
                    try simp only [pA, pB, p1, p2, p3]
                    refine tW (.int .i64 ((k + 1 : Nat) : Int)) (exec_bin .add 3 _ _ _ rfl (.int .i64 ((k : Nat) : Int)) (.int .i64 1) (.int .i64 ((k + 1 : Nat) : Int)) (by kernel_rfl) (by kernel_rfl) (by kernel_rfl) (b_add1 k (by have := HI.out; omega) _)) ?_
                    try simp only [pA, pB, p1, p2, p3]
                    refine tK (.int .i64 ((k + 1 : Nat) : Int)) ?_
                    try simp only [pA, pB, p1, p2, p3]
                    refine WL.nil ?_
                    try simp only [pA, pB, p1, p2, p3]
                    go_wp2
                    go_roundw
                    case rel => exact ⟨k + 1, X2, y35, rfl, by go_num, HPk.out, HV2, HVs, HLk, HXi, HF⟩
                    case measure => have := HPk.out; simp [intOf]; omega
                  · have hcm3 : ¬ ((k : Nat) : Int) < 70 := by omega
                    have hk70 : k = 70 := by have := HKk.out; omega
                    have HVg : Hid (y.vs2 = y.vs ++ List.replicate 71 (strV (mB i))) := by show _ = _; rw [HVs.out, HV2.out.2, hk70]
                    clear hk70
                    have HI : Hid (i ≤ 8193 ∧ i < N) := HI.out
                    obtain ⟨X, hX⟩ : ∃ X, X = X2 := ⟨_, rfl⟩
                    rw [← hX] at HXi HF
                    clear hX hp
                    go_upto_region 29 with fail
                    refine WL.start ?_
                    refine tK (.int .i64 ((k : Nat) : Int)) ?_
                    try simp only [pA, pB, p1, p2, p3]
                    refine tW (.bool false) (exec_bin .lss 3 _ _ _ rfl (.int .i64 ((k : Nat) : Int)) (.int .i64 70) (.bool false) (by kernel_rfl) (by kernel_rfl) (by kernel_rfl) (by rw [b_lss, decide_eq_false hcm3])) ?_
                    try simp only [pA, pB, p1, p2, p3]
                    refine WL.nil ?_
                    try simp only [pA, pB, p1, p2, p3]
                    go_upto_region 32 with fail
                    refine WL.start ?_
                    refine tK (.slice la i lc) ?_
                    try simp only [pA, pB, p1, p2, p3]
                    refine tK (y.v2) ?_
                    try simp only [pA, pB, p1, p2, p3]
                    have HF : Hid (K3 w (wr.alloc (.cells [y.v2].toArray 22)) n0 gk kc N V0 b3 la lc i (i + 1) X) := HF.out.no ((Kept.refl No _).alloc _)
                    have HX : Hid (Box (wr.alloc (.cells [y.v2].toArray 22)) wr.heap.size 22 [y.v2].toArray) := Box.new _ _ _
                    refine wp_runW (.slice (some ⟨wr.heap.size, 0, none⟩) 1 1) (wr.alloc (.cells [y.v2].toArray 22)) (exec_built (by kernel_rfl)) (by kernel_rfl) ?_
                    try simp only [pA, pB, p1, p2, p3]
                    generalize wr.alloc (.cells [y.v2].toArray 22) = wk37 at HF HX ⊢
                    generalize wr.heap.size = gk38 at HX ⊢
                    obtain ⟨a_38, c_38, w_38, hrun, ho, hc⟩ := run_app 35 22 24 _ U35 I22 rfl HF.out.lrow 35 ⟨gk38, 0, none⟩ 1 1 [y.v2] rfl (box_news HX.out) (by simp [Value.oneCell', It.v2]) (by have := HI.out; omega) (by have := HI.out; omega) (by have := HF.out.hb; omega)
                    clear HX
                    have HF : Hid (K3 w w_38 n0 gk kc N V0 b3 a_38 c_38 (i + 1) (i + 1) X) := HF.out.join HXi.out HVg.out hc ho
                    refine wp_runW (.slice a_38 (i + 1) c_38) w_38 (exec_app _ _ 35 35 rfl _ _ _ (by kernel_rfl) (by kernel_rfl) hrun) (by kernel_rfl) ?_
                    try simp only [pA, pB, p1, p2, p3]
                    clear hrun ho hc
                    refine tK (.slice a_38 (i + 1) c_38) ?_
                    try simp only [pA, pB, p1, p2, p3]
                    refine WL.nil ?_
                    try simp only [pA, pB, p1, p2, p3]
                    go_upto_region 26 with fail
                    refine WL.start ?_
                    refine tK (.int .i64 ((i : Nat) : Int)) ?_
                    try simp only [pA, pB, p1, p2, p3]
                    refine tW (.int .i64 ((i + 1 : Nat) : Int)) (exec_bin .add 3 _ _ _ rfl (.int .i64 ((i : Nat) : Int)) (.int .i64 1) (.int .i64 ((i + 1 : Nat) : Int)) (by kernel_rfl) (by kernel_rfl) (by kernel_rfl) (b_add1 i (by have := HI.out; omega) _)) ?_
                    try simp only [pA, pB, p1, p2, p3]
                    refine tK (.int .i64 ((i + 1 : Nat) : Int)) ?_
                    try simp only [pA, pB, p1, p2, p3]
                    refine WL.nil ?_
                    try simp only [pA, pB, p1, p2, p3]
                    go_wp2
                    go_roundw
                    case rel => exact ⟨i + 1, X, a_38, c_38, rfl, by go_num, HPp.out, HF⟩
                    case measure => have := HPp.out; simp [intOf]; omega
              · have hcm2 : ¬ ((i : Nat) : Int) < ((N : Nat) : Int) := by omega
                obtain rfl : N = i := by have := HIn.out; omega
                go_upto_region 25 with fail
                refine WL.start ?_
                refine tK (.int .i64 ((N : Nat) : Int)) ?_
                try simp only [pA, pB, p1, p2, p3]
                refine tK (.slice (some ⟨gk, 0, none⟩) N kc) ?_
                try simp only [pA, pB, p1, p2, p3]
                refine tK (.int .i64 ((N : Nat) : Int)) ?_
                try simp only [pA, pB, p1, p2, p3]
                refine tW (.bool false) (exec_bin .lss 3 _ _ _ rfl (.int .i64 ((N : Nat) : Int)) (.int .i64 ((N : Nat) : Int)) (.bool false) (by kernel_rfl) (by kernel_rfl) (by kernel_rfl) (by rw [b_lss, decide_eq_false hcm2])) ?_
                try simp only [pA, pB, p1, p2, p3]
                refine WL.nil ?_
                try simp only [pA, pB, p1, p2, p3]
                clear hcm2 hp HIn
                obtain ⟨gl, rfl⟩ := HF.out.lrow.some_of (by have := HN.out; omega)
                go_wp2
                go_loopw [20] (fun v20 wr => ∃ (i : Nat), v20 = .int .i64 ((i : Nat) : Int) ∧ Hid (i ≤ N) ∧ Hid (K3 w wr n0 gk kc N V0 b3 (some ⟨gl, 0, none⟩) lc N N X)) (fun v20 _ => N - (intOf v20).toNat)
                case atStart => exact ⟨0, by go_num, Nat.zero_le _, HF⟩
                case round =>
                  clear HF
                  obtain ⟨i, rfl, HIn, HF⟩ := hrel
                  by_cases hp : i < N
                  · have hcm2 : ((i : Nat) : Int) < ((N : Nat) : Int) := by omega
                    have HI : Hid (i ≤ 8193 ∧ i < N) := ⟨by have := HN.out; omega, hp⟩
                    have HPi : Hid (i < N) := hp
                    have HPp : Hid (i < N) := hp
                    obtain ⟨x, hx, hv, hcl⟩ := HF.out.at hp
                    have hd := HF.out.dn i x hx hp
                    have hg := HF.out.lg i x hx hp
                    have hsz := HF.out.sz i x hx
                    have hl2 : ((X.take N).map It.v2)[i]? = some x.v2 := by rw [List.getElem?_map, List.getElem?_take, if_pos hp, hx]; rfl
                    have hc2 := HF.out.lrow.cellAt (i := 0 + i * 1) (v := x.v2) (by rw [Nat.zero_add, Nat.mul_one]; exact hl2)
                    obtain ⟨a, c, vs, a2, c2, vs2⟩ := x
                    have hl71 : vs2.length = vs.length + 71 := by have e : vs2 = vs ++ List.replicate 71 (strV (mB i)) := hg; rw [e]; simp
                    have HXi : Hid (X[i]? = some ⟨a, c, vs, a2, c2, vs2⟩) := hx
                    have HCl : Hid (wr.cell? ⟨gk, 0 + i * 1, none⟩ = some (.slice a vs.length c)) := hcl
                    have HC2 : Hid (wr.cell? ⟨gl, 0 + i * 1, none⟩ = some (.slice a2 (vs.length + 71) c2)) := by rw [← hl71]; exact hc2
                    have HD : Hid (vs = List.replicate vs.length (strV (kB i))) := hd
                    have HG : Hid (vs2 = vs ++ List.replicate 71 (strV (mB i))) := hg
                    have HL71 : Hid (vs2.length = vs.length + 71) := hl71
                    have HVz : Hid (vs.length ≤ 200000000000) := hsz
                    clear hx hv hcl hd hg hsz hl2 hc2 hl71 hp
                    go_upto_region 34 with fail
                    refine WL.start ?_
                    refine tK (.int .i64 ((i : Nat) : Int)) ?_
                    try simp only [pA, pB, p1, p2, p3]
                    refine tK (.slice (some ⟨gk, 0, none⟩) N kc) ?_
                    try simp only [pA, pB, p1, p2, p3]
                    refine tK (.int .i64 ((N : Nat) : Int)) ?_
                    try simp only [pA, pB, p1, p2, p3]
                    refine tW (.bool true) (exec_bin .lss 3 _ _ _ rfl (.int .i64 ((i : Nat) : Int)) (.int .i64 ((N : Nat) : Int)) (.bool true) (by kernel_rfl) (by kernel_rfl) (by kernel_rfl) (by rw [b_lss, decide_eq_true hcm2])) ?_
                    try simp only [pA, pB, p1, p2, p3]
                    refine WL.nil ?_
                    try simp only [pA, pB, p1, p2, p3]
                    go_upto_region 36 with fail
                    refine WL.start ?_
                    refine tK (.slice (some ⟨gk, 0, none⟩) N kc) ?_
                    try simp only [pA, pB, p1, p2, p3]
                    refine tK (.int .i64 ((i : Nat) : Int)) ?_
                    try simp only [pA, pB, p1, p2, p3]
                    refine tW (.pointer (some ⟨gk, 0 + i * 1, none⟩)) (exec_ixA 35 1 E35 F35 _ _ rfl gk 0 N kc i (by kernel_rfl) (by kernel_rfl) (by have := HPp.out; omega)) ?_
                    try simp only [pA, pB, p1, p2, p3]
                    refine tW (.slice a vs.length c) (exec_load 22 _ rfl ⟨gk, 0 + i * 1, none⟩ (by kernel_rfl) (.slice a vs.length c) (load_one HCl.out U22 rfl)) ?_
                    try simp only [pA, pB, p1, p2, p3]
                    refine tK (.int .i64 ((vs.length : Nat) : Int)) ?_
                    try simp only [pA, pB, p1, p2, p3]
                    refine tK (.int .i64 ((vs.length : Nat) : Int)) ?_
                    try simp only [pA, pB, p1, p2, p3]
                    refine WL.nil ?_
                    try simp only [pA, pB, p1, p2, p3]
                    go_upto_region 37 with fail
                    refine WL.start ?_
                    refine tK (.int .i64 0) ?_
                    try simp only [pA, pB, p1, p2, p3]
                    refine WL.nil ?_
                    try simp only [pA, pB, p1, p2, p3]
                    go_wp2
                    go_loopw [22] (fun v22 wr => ∃ (j : Nat), v22 = .int .i64 ((j : Nat) : Int) ∧ Hid (j ≤ vs.length + 71) ∧ Hid (K3 w wr n0 gk kc N V0 b3 (some ⟨gl, 0, none⟩) lc N N X)) (fun v22 _ => vs.length + 71 - (intOf v22).toNat)
                    case atStart => exact ⟨0, by go_num, Nat.zero_le _, HF⟩
                    case round =>
                      clear HF HCl HC2
                      obtain ⟨j, rfl, HJn, HF⟩ := hrel
                      have hcl0 := HF.out.row.cellAt (i := 0 + i * 1) (v := .slice a vs.length c) (by rw [Nat.zero_add, Nat.mul_one, ← HF.out.map, List.getElem?_map, HXi.out]; rfl)
                      have hcl2 := HF.out.lrow.cellAt (i := 0 + i * 1) (v := .slice a2 vs2.length c2) (by rw [Nat.zero_add, Nat.mul_one, List.getElem?_map, List.getElem?_take, if_pos HPi.out, HXi.out]; rfl)
                      have HCl : Hid (wr.cell? ⟨gk, 0 + i * 1, none⟩ = some (.slice a vs.length c)) := hcl0
                      have HC2 : Hid (wr.cell? ⟨gl, 0 + i * 1, none⟩ = some (.slice a2 (vs.length + 71) c2)) := by rw [← HL71.out]; exact hcl2
                      clear hcl0 hcl2
                      by_cases hp : j < vs.length + 71
                      · have hcm3 : ((j : Nat) : Int) < ((vs.length + 71 : Nat) : Int) := by omega
                        have HPj : Hid (j < vs.length + 71) := hp
                        obtain ⟨gj, rfl⟩ : ∃ g, a2 = some ⟨g, 0, none⟩ := (HF.out.ks.ok i _ HXi.out).own2.some_of (by show 0 < vs2.length; rw [HL71.out]; omega)
                        by_cases hq : j < vs.length
                        · skip
                          have hcq3 : ((j : Nat) : Int) < ((vs.length : Nat) : Int) := by omega
                          have hcg3 : ¬ ((vs.length : Nat) : Int) ≤ ((j : Nat) : Int) := by omega
                          obtain ⟨gi, rfl⟩ : ∃ g, a = some ⟨g, 0, none⟩ := (HF.out.ks.ok i _ HXi.out).own.some_of (by show 0 < vs.length; omega)
                          have hva : vs[j]? = some (strV (kB i)) := by rw [HD.out, List.getElem?_replicate, if_pos hq]
                          have HCa : Hid (wr.cell? ⟨gi, 0 + j * 1, none⟩ = some (strV (kB i))) := (HF.out.ks.ok i _ HXi.out).own.cellAt (i := 0 + j * 1) (by rw [Nat.zero_add, Nat.mul_one]; exact hva)
                          have HCb : Hid (wr.cell? ⟨gj, 0 + j * 1, none⟩ = some (strV (kB i))) := (HF.out.ks.ok i _ HXi.out).own2.cellAt (i := 0 + j * 1) (by rw [Nat.zero_add, Nat.mul_one]; show vs2[j]? = _; rw [HG.out, List.getElem?_append_left hq]; exact hva)
                          have HPp : Hid (i < N ∧ j < vs.length + 71 ∧ j < vs.length) := ⟨HPi.out, hp, hq⟩
                          clear hva
                          have HPz : Hid (j < 1000000000000) := show j < 1000000000000 by have := HVz.out; omega
                          have HI : Hid (i ≤ 8193 ∧ i < N ∧ j < 1000000000000) := ⟨HI.out.1, HI.out.2, HPz.out⟩
                          clear hq hp
                          go_upto_region 38 with fail
                          refine WL.start ?_
                          refine tK (.int .i64 ((j : Nat) : Int)) ?_
                          try simp only [pA, pB, p1, p2, p3]
                          refine tK (.slice (some ⟨gl, 0, none⟩) N lc) ?_
                          try simp only [pA, pB, p1, p2, p3]
                          refine tK (.int .i64 ((i : Nat) : Int)) ?_
                          try simp only [pA, pB, p1, p2, p3]
                          refine tW (.pointer (some ⟨gl, 0 + i * 1, none⟩)) (exec_ixA 35 1 E35 F35 _ _ rfl gl 0 N lc i (by kernel_rfl) (by kernel_rfl) (by have := HPp.out; omega)) ?_
                          try simp only [pA, pB, p1, p2, p3]
                          refine tW (.slice (some ⟨gj, 0, none⟩) (vs.length + 71) c2) (exec_load 22 _ rfl ⟨gl, 0 + i * 1, none⟩ (by kernel_rfl) (.slice (some ⟨gj, 0, none⟩) (vs.length + 71) c2) (load_one HC2.out U22 rfl)) ?_
                          try simp only [pA, pB, p1, p2, p3]
                          refine tK (.int .i64 (((vs.length + 71) : Nat) : Int)) ?_
                          try simp only [pA, pB, p1, p2, p3]
                          refine tW (.bool (decide (((j : Nat) : Int) < (((vs.length + 71) : Nat) : Int)))) (exec_bin .lss 3 _ _ _ rfl (.int .i64 ((j : Nat) : Int)) (.int .i64 (((vs.length + 71) : Nat) : Int)) (.bool (decide (((j : Nat) : Int) < (((vs.length + 71) : Nat) : Int)))) (by kernel_rfl) (by kernel_rfl) (by kernel_rfl) (b_lss _ _ _)) ?_
                          try simp only [pA, pB, p1, p2, p3]
                          refine WL.nil ?_
                          try simp only [pA, pB, p1, p2, p3]
                          have HS : Hid (Kept No wr wr) := Kept.refl _ _
                          have HCl0 : Hid (wr.cell? ⟨gk, 0 + i * 1, none⟩ = some (.slice (some ⟨gi, 0, none⟩) vs.length c)) := HCl
                          have HC20 : Hid (wr.cell? ⟨gl, 0 + i * 1, none⟩ = some (.slice (some ⟨gj, 0, none⟩) (vs.length + 71) c2)) := HC2
                          have HCa0 : Hid (wr.cell? ⟨gi, 0 + j * 1, none⟩ = some (strV (kB i))) := HCa
                          have HCb0 : Hid (wr.cell? ⟨gj, 0 + j * 1, none⟩ = some (strV (kB i))) := HCb
                          go_upto_region 40 with fail
                          have HF : Hid (K3 w wr.drew n0 gk kc N V0 b3 (some ⟨gl, 0, none⟩) lc N N X) := HF.out.no (Kept.refl No _).drew
                          have HCl : Hid (wr.drew.cell? ⟨gk, 0 + i * 1, none⟩ = some (.slice (some ⟨gi, 0, none⟩) vs.length c)) := (Kept.refl No _).drew.cell HCl.out (fun e => e)
                          have HC2 : Hid (wr.drew.cell? ⟨gl, 0 + i * 1, none⟩ = some (.slice (some ⟨gj, 0, none⟩) (vs.length + 71) c2)) := (Kept.refl No _).drew.cell HC2.out (fun e => e)
                          have HCa : Hid (wr.drew.cell? ⟨gi, 0 + j * 1, none⟩ = some (strV (kB i))) := (Kept.refl No _).drew.cell HCa.out (fun e => e)
                          have HCb : Hid (wr.drew.cell? ⟨gj, 0 + j * 1, none⟩ = some (strV (kB i))) := (Kept.refl No _).drew.cell HCb.out (fun e => e)
                          have HS : Hid (Kept No wr wr.drew) := HS.out.then (Kept.refl No _).drew
                          refine wp_region_held_drew (S := fun w' => Kept No wr w') rfl HS.out (fun hH => ?_)
                          generalize wr.drew = wk40 at HF HCl HC2 HCa HCb HS hH ⊢
                          refine aT (i := 0) (oi := { dst := some 184, op := Op.move (Operand.tmp 22), type := 3, pos := "law.go:141", after := #[], guard := none }) (v := .int .i64 ((j : Nat) : Int)) (fun _ _ => by kernel_rfl) hH ?_
                          try simp only [pA, pB, p1, p2, p3]
                          refine aT (i := 1) (oi := { dst := some 185, op := Op.move (Operand.tmp 21), type := 3, pos := "law.go:141", after := #[], guard := none }) (v := .int .i64 ((vs.length : Nat) : Int)) (fun _ _ => by kernel_rfl) hH ?_
                          try simp only [pA, pB, p1, p2, p3]
                          refine aT (i := 2) (oi := { dst := some 186, op := Op.binOp BinOp.lss 3 (Operand.tmp 184) (Operand.tmp 185) 3, type := 4, pos := "law.go:141", after := #[{ on := 0, ground := Ground.data }, { on := 1, ground := Ground.data }], guard := none }) (v := .bool true) (fun w' hw => exec_bin .lss 3 _ _ _ rfl (.int .i64 ((j : Nat) : Int)) (.int .i64 ((vs.length : Nat) : Int)) (.bool true) (by kernel_rfl) (by kernel_rfl) (by kernel_rfl) (by rw [b_lss, decide_eq_true hcq3])) hH ?_
                          try simp only [pA, pB, p1, p2, p3]
                          refine aT (i := 3) (oi := { dst := some 187, op := Op.move (Operand.tmp 186), type := 4, pos := "law.go:141", after := #[{ on := 2, ground := Ground.data }], guard := none }) (v := .bool true) (fun _ _ => by kernel_rfl) hH ?_
                          try simp only [pA, pB, p1, p2, p3]
                          refine aT (i := 4) (oi := { dst := some 188, op := Op.move (Operand.tmp 5), type := 35, pos := "law.go:141", after := #[{ on := 3, ground := Ground.guard }], guard := some (3, true) }) (v := .slice (some ⟨gk, 0, none⟩) N kc) (fun _ _ => by kernel_rfl) hH ?_
                          try simp only [pA, pB, p1, p2, p3]
                          refine aT (i := 5) (oi := { dst := some 189, op := Op.move (Operand.tmp 20), type := 3, pos := "law.go:141", after := #[{ on := 3, ground := Ground.guard }], guard := some (3, true) }) (v := .int .i64 ((i : Nat) : Int)) (fun _ _ => by kernel_rfl) hH ?_
                          try simp only [pA, pB, p1, p2, p3]
                          refine aT (i := 6) (oi := { dst := some 190, op := Op.indexAddr 35 (Operand.tmp 188) (Operand.tmp 189), type := 0, pos := "law.go:141", after := #[{ on := 4, ground := Ground.data }, { on := 5, ground := Ground.data }, { on := 3, ground := Ground.guard }], guard := some (3, true) }) (v := .pointer (some ⟨gk, 0 + i * 1, none⟩)) (fun w' hw => exec_ixA 35 1 E35 F35 _ _ rfl gk 0 N kc i (by kernel_rfl) (by kernel_rfl) (by have := HPp.out; omega)) hH ?_
                          try simp only [pA, pB, p1, p2, p3]
                          refine aT (i := 7) (oi := { dst := some 191, op := Op.load 22 (Operand.tmp 190), type := 22, pos := "law.go:141", after := #[{ on := 6, ground := Ground.data }, { on := 3, ground := Ground.guard }], guard := some (3, true) }) (v := .slice (some ⟨gi, 0, none⟩) vs.length c) (fun w' hw => exec_load 22 _ rfl ⟨gk, 0 + i * 1, none⟩ (by kernel_rfl) (.slice (some ⟨gi, 0, none⟩) vs.length c) (load_one (hw.cell HCl0.out (fun e => e)) U22 rfl)) hH ?_
                          try simp only [pA, pB, p1, p2, p3]
                          refine aT (i := 8) (oi := { dst := some 192, op := Op.move (Operand.tmp 22), type := 3, pos := "law.go:141", after := #[{ on := 3, ground := Ground.guard }], guard := some (3, true) }) (v := .int .i64 ((j : Nat) : Int)) (fun _ _ => by kernel_rfl) hH ?_
                          try simp only [pA, pB, p1, p2, p3]
                          refine aT (i := 9) (oi := { dst := some 193, op := Op.indexAddr 22 (Operand.tmp 191) (Operand.tmp 192), type := 0, pos := "law.go:141", after := #[{ on := 7, ground := Ground.data }, { on := 8, ground := Ground.data }, { on := 3, ground := Ground.guard }], guard := some (3, true) }) (v := .pointer (some ⟨gi, 0 + j * 1, none⟩)) (fun w' hw => exec_ixA 22 1 E22 F22 _ _ rfl gi 0 vs.length c j (by kernel_rfl) (by kernel_rfl) (by have := HPp.out; omega)) hH ?_
                          try simp only [pA, pB, p1, p2, p3]
                          refine aT (i := 10) (oi := { dst := some 194, op := Op.load 9 (Operand.tmp 193), type := 9, pos := "law.go:141", after := #[{ on := 9, ground := Ground.data }, { on := 3, ground := Ground.guard }], guard := some (3, true) }) (v := .string (bs (kB i))) (fun w' hw => exec_load 9 _ rfl ⟨gi, 0 + j * 1, none⟩ (by kernel_rfl) (.string (bs (kB i))) (load_one (hw.cell HCa0.out (fun e => e)) U9 rfl)) hH ?_
                          try simp only [pA, pB, p1, p2, p3]
                          refine aT (i := 11) (oi := { dst := some 195, op := Op.move (Operand.tmp 20), type := 3, pos := "law.go:141", after := #[{ on := 3, ground := Ground.guard }], guard := some (3, true) }) (v := .int .i64 ((i : Nat) : Int)) (fun _ _ => by kernel_rfl) hH ?_
                          try simp only [pA, pB, p1, p2, p3]
                          refine any_call (i := 12) (o := { dst := some 196, op := Op.call { callee := Callee.value (Operand.func 12), args := #[Operand.tmp 195], argTypes := #[3] }, type := 9, pos := "law.go:141", after := #[{ on := 11, ground := Ground.data }, { on := 3, ground := Ground.chain }, { on := 3, ground := Ground.guard }], guard := some (3, true) }) rfl (by kernel_rfl) (by kernel_rfl) 12 #[.int .i64 ((i : Nat) : Int)] (by kernel_rfl) _ (marked_any i (by have := HI.out; omega) wk40) ?_
                          rintro e w_40 ⟨rfl, hk⟩
                          have HF : Hid (K3 w w_40 n0 gk kc N V0 b3 (some ⟨gl, 0, none⟩) lc N N X) := HF.out.no hk
                          have HCl : Hid (w_40.cell? ⟨gk, 0 + i * 1, none⟩ = some (.slice (some ⟨gi, 0, none⟩) vs.length c)) := hk.cell HCl.out (fun e => e)
                          have HC2 : Hid (w_40.cell? ⟨gl, 0 + i * 1, none⟩ = some (.slice (some ⟨gj, 0, none⟩) (vs.length + 71) c2)) := hk.cell HC2.out (fun e => e)
                          have HCa : Hid (w_40.cell? ⟨gi, 0 + j * 1, none⟩ = some (strV (kB i))) := hk.cell HCa.out (fun e => e)
                          have HCb : Hid (w_40.cell? ⟨gj, 0 + j * 1, none⟩ = some (strV (kB i))) := hk.cell HCb.out (fun e => e)
                          have HS : Hid (Kept No wr w_40) := HS.out.then hk
                          clear hk
                          refine ⟨.string (bs (mk i)), rfl, HS.out, fun hH => ?_⟩
                          try simp only [pA, pB, p1, p2, p3]
                          refine aT (i := 13) (oi := { dst := some 197, op := Op.binOp BinOp.add 9 (Operand.const (Value.string { data := #[107, 101, 112, 116, 32] })) (Operand.tmp 196) 9, type := 9, pos := "law.go:141", after := #[{ on := 12, ground := Ground.data }, { on := 3, ground := Ground.guard }], guard := some (3, true) }) (v := .string (bs (kB i))) (fun w' hw => exec_bin .add 9 _ _ _ rfl (.string ⟨#[107, 101, 112, 116, 32]⟩) (.string (bs (mk i))) (.string (bs (kB i))) (by kernel_rfl) (by kernel_rfl) (by kernel_rfl) (b_addS [107, 101, 112, 116, 32] (mk i) (by have h1 := HI.out; have h2 := mk_len i; simp; omega) _)) hH ?_
                          try simp only [pA, pB, p1, p2, p3]
                          refine aT (i := 14) (oi := { dst := some 198, op := Op.binOp BinOp.neq 9 (Operand.tmp 194) (Operand.tmp 197) 9, type := 4, pos := "law.go:141", after := #[{ on := 10, ground := Ground.data }, { on := 13, ground := Ground.data }, { on := 3, ground := Ground.guard }], guard := some (3, true) }) (v := .bool false) (fun w' hw => exec_bin .neq 9 _ _ _ rfl (.string (bs (kB i))) (.string (bs (kB i))) (.bool false) (by kernel_rfl) (by kernel_rfl) (by kernel_rfl) (by rw [b_neqS]; simp)) hH ?_
                          try simp only [pA, pB, p1, p2, p3]
                          refine aT (i := 15) (oi := { dst := some 199, op := Op.move (Operand.tmp 198), type := 4, pos := "law.go:141", after := #[{ on := 14, ground := Ground.data }, { on := 12, ground := Ground.chain }, { on := 3, ground := Ground.guard }], guard := some (3, true) }) (v := .bool false) (fun _ _ => by kernel_rfl) hH ?_
                          try simp only [pA, pB, p1, p2, p3]
                          refine aT (i := 16) (oi := { dst := some 200, op := Op.move (Operand.tmp 6), type := 35, pos := "law.go:141", after := #[{ on := 15, ground := Ground.guard }], guard := some (15, false) }) (v := .slice (some ⟨gl, 0, none⟩) N lc) (fun _ _ => by kernel_rfl) hH ?_
                          try simp only [pA, pB, p1, p2, p3]
                          refine aT (i := 17) (oi := { dst := some 201, op := Op.move (Operand.tmp 20), type := 3, pos := "law.go:141", after := #[{ on := 15, ground := Ground.guard }], guard := some (15, false) }) (v := .int .i64 ((i : Nat) : Int)) (fun _ _ => by kernel_rfl) hH ?_
                          try simp only [pA, pB, p1, p2, p3]
                          refine aT (i := 18) (oi := { dst := some 202, op := Op.indexAddr 35 (Operand.tmp 200) (Operand.tmp 201), type := 0, pos := "law.go:141", after := #[{ on := 16, ground := Ground.data }, { on := 17, ground := Ground.data }, { on := 15, ground := Ground.guard }], guard := some (15, false) }) (v := .pointer (some ⟨gl, 0 + i * 1, none⟩)) (fun w' hw => exec_ixA 35 1 E35 F35 _ _ rfl gl 0 N lc i (by kernel_rfl) (by kernel_rfl) (by have := HPp.out; omega)) hH ?_
                          try simp only [pA, pB, p1, p2, p3]
                          refine aT (i := 19) (oi := { dst := some 203, op := Op.load 22 (Operand.tmp 202), type := 22, pos := "law.go:141", after := #[{ on := 18, ground := Ground.data }, { on := 15, ground := Ground.guard }], guard := some (15, false) }) (v := .slice (some ⟨gj, 0, none⟩) (vs.length + 71) c2) (fun w' hw => exec_load 22 _ rfl ⟨gl, 0 + i * 1, none⟩ (by kernel_rfl) (.slice (some ⟨gj, 0, none⟩) (vs.length + 71) c2) (load_one (hw.cell HC20.out (fun e => e)) U22 rfl)) hH ?_
                          try simp only [pA, pB, p1, p2, p3]
                          refine aT (i := 20) (oi := { dst := some 204, op := Op.move (Operand.tmp 22), type := 3, pos := "law.go:141", after := #[{ on := 15, ground := Ground.guard }], guard := some (15, false) }) (v := .int .i64 ((j : Nat) : Int)) (fun _ _ => by kernel_rfl) hH ?_
                          try simp only [pA, pB, p1, p2, p3]
                          refine aT (i := 21) (oi := { dst := some 205, op := Op.indexAddr 22 (Operand.tmp 203) (Operand.tmp 204), type := 0, pos := "law.go:141", after := #[{ on := 19, ground := Ground.data }, { on := 20, ground := Ground.data }, { on := 15, ground := Ground.guard }], guard := some (15, false) }) (v := .pointer (some ⟨gj, 0 + j * 1, none⟩)) (fun w' hw => exec_ixA 22 1 E22 F22 _ _ rfl gj 0 (vs.length + 71) c2 j (by kernel_rfl) (by kernel_rfl) (by have := HPp.out; omega)) hH ?_
                          try simp only [pA, pB, p1, p2, p3]
                          refine aT (i := 22) (oi := { dst := some 206, op := Op.load 9 (Operand.tmp 205), type := 9, pos := "law.go:141", after := #[{ on := 21, ground := Ground.data }, { on := 15, ground := Ground.guard }], guard := some (15, false) }) (v := .string (bs (kB i))) (fun w' hw => exec_load 9 _ rfl ⟨gj, 0 + j * 1, none⟩ (by kernel_rfl) (.string (bs (kB i))) (load_one (hw.cell HCb0.out (fun e => e)) U9 rfl)) hH ?_
                          try simp only [pA, pB, p1, p2, p3]
                          refine aT (i := 23) (oi := { dst := some 207, op := Op.move (Operand.tmp 5), type := 35, pos := "law.go:141", after := #[{ on := 15, ground := Ground.guard }], guard := some (15, false) }) (v := .slice (some ⟨gk, 0, none⟩) N kc) (fun _ _ => by kernel_rfl) hH ?_
                          try simp only [pA, pB, p1, p2, p3]
                          refine aT (i := 24) (oi := { dst := some 208, op := Op.move (Operand.tmp 20), type := 3, pos := "law.go:141", after := #[{ on := 15, ground := Ground.guard }], guard := some (15, false) }) (v := .int .i64 ((i : Nat) : Int)) (fun _ _ => by kernel_rfl) hH ?_
                          try simp only [pA, pB, p1, p2, p3]
                          refine aT (i := 25) (oi := { dst := some 209, op := Op.indexAddr 35 (Operand.tmp 207) (Operand.tmp 208), type := 0, pos := "law.go:141", after := #[{ on := 23, ground := Ground.data }, { on := 24, ground := Ground.data }, { on := 15, ground := Ground.guard }], guard := some (15, false) }) (v := .pointer (some ⟨gk, 0 + i * 1, none⟩)) (fun w' hw => exec_ixA 35 1 E35 F35 _ _ rfl gk 0 N kc i (by kernel_rfl) (by kernel_rfl) (by have := HPp.out; omega)) hH ?_
                          try simp only [pA, pB, p1, p2, p3]
                          refine aT (i := 26) (oi := { dst := some 210, op := Op.load 22 (Operand.tmp 209), type := 22, pos := "law.go:141", after := #[{ on := 25, ground := Ground.data }, { on := 15, ground := Ground.guard }], guard := some (15, false) }) (v := .slice (some ⟨gi, 0, none⟩) vs.length c) (fun w' hw => exec_load 22 _ rfl ⟨gk, 0 + i * 1, none⟩ (by kernel_rfl) (.slice (some ⟨gi, 0, none⟩) vs.length c) (load_one (hw.cell HCl0.out (fun e => e)) U22 rfl)) hH ?_
                          try simp only [pA, pB, p1, p2, p3]
                          refine aT (i := 27) (oi := { dst := some 211, op := Op.move (Operand.tmp 22), type := 3, pos := "law.go:141", after := #[{ on := 15, ground := Ground.guard }], guard := some (15, false) }) (v := .int .i64 ((j : Nat) : Int)) (fun _ _ => by kernel_rfl) hH ?_
                          try simp only [pA, pB, p1, p2, p3]
                          refine aT (i := 28) (oi := { dst := some 212, op := Op.indexAddr 22 (Operand.tmp 210) (Operand.tmp 211), type := 0, pos := "law.go:141", after := #[{ on := 26, ground := Ground.data }, { on := 27, ground := Ground.data }, { on := 15, ground := Ground.guard }], guard := some (15, false) }) (v := .pointer (some ⟨gi, 0 + j * 1, none⟩)) (fun w' hw => exec_ixA 22 1 E22 F22 _ _ rfl gi 0 vs.length c j (by kernel_rfl) (by kernel_rfl) (by have := HPp.out; omega)) hH ?_
                          try simp only [pA, pB, p1, p2, p3]
                          refine aT (i := 29) (oi := { dst := some 213, op := Op.load 9 (Operand.tmp 212), type := 9, pos := "law.go:141", after := #[{ on := 28, ground := Ground.data }, { on := 15, ground := Ground.guard }], guard := some (15, false) }) (v := .string (bs (kB i))) (fun w' hw => exec_load 9 _ rfl ⟨gi, 0 + j * 1, none⟩ (by kernel_rfl) (.string (bs (kB i))) (load_one (hw.cell HCa0.out (fun e => e)) U9 rfl)) hH ?_
                          try simp only [pA, pB, p1, p2, p3]
                          refine aT (i := 30) (oi := { dst := some 214, op := Op.binOp BinOp.neq 9 (Operand.tmp 206) (Operand.tmp 213) 9, type := 4, pos := "law.go:141", after := #[{ on := 22, ground := Ground.data }, { on := 29, ground := Ground.data }, { on := 15, ground := Ground.guard }], guard := some (15, false) }) (v := .bool false) (fun w' hw => exec_bin .neq 9 _ _ _ rfl (.string (bs (kB i))) (.string (bs (kB i))) (.bool false) (by kernel_rfl) (by kernel_rfl) (by kernel_rfl) (by rw [b_neqS]; simp)) hH ?_
                          try simp only [pA, pB, p1, p2, p3]
                          refine aT (i := 31) (oi := { dst := some 215, op := Op.pick (Operand.tmp 199) (Operand.const (Value.bool true)) (Operand.tmp 214), type := 4, pos := "law.go:141", after := #[{ on := 15, ground := Ground.data }, { on := 30, ground := Ground.data }, { on := 3, ground := Ground.guard }], guard := some (3, true) }) (v := .bool false) (fun _ _ => by kernel_rfl) hH ?_
                          try simp only [pA, pB, p1, p2, p3]
                          refine aT (i := 32) (oi := { dst := some 216, op := Op.pick (Operand.tmp 187) (Operand.tmp 215) (Operand.const (Value.bool false)), type := 4, pos := "law.go:141", after := #[{ on := 3, ground := Ground.data }, { on := 31, ground := Ground.data }], guard := none }) (v := .bool false) (fun _ _ => by kernel_rfl) hH ?_
                          try simp only [pA, pB, p1, p2, p3]
                          refine wpAnyH_done (by kernel_rfl) ?_ _
                          try simp only [pA, pB, p1, p2, p3]
                          clear hH
                          clear HS HCl0 HC20 HCa0 HCb0
                          have HS : Hid (Kept No w_40 w_40) := Kept.refl _ _
                          have HCl0 : Hid (w_40.cell? ⟨gk, 0 + i * 1, none⟩ = some (.slice (some ⟨gi, 0, none⟩) vs.length c)) := HCl
                          have HC20 : Hid (w_40.cell? ⟨gl, 0 + i * 1, none⟩ = some (.slice (some ⟨gj, 0, none⟩) (vs.length + 71) c2)) := HC2
                          have HCa0 : Hid (w_40.cell? ⟨gi, 0 + j * 1, none⟩ = some (strV (kB i))) := HCa
                          have HCb0 : Hid (w_40.cell? ⟨gj, 0 + j * 1, none⟩ = some (strV (kB i))) := HCb
                          go_upto_region 42 with fail
                          have HF : Hid (K3 w w_40.drew n0 gk kc N V0 b3 (some ⟨gl, 0, none⟩) lc N N X) := HF.out.no (Kept.refl No _).drew
                          have HCl : Hid (w_40.drew.cell? ⟨gk, 0 + i * 1, none⟩ = some (.slice (some ⟨gi, 0, none⟩) vs.length c)) := (Kept.refl No _).drew.cell HCl.out (fun e => e)
                          have HC2 : Hid (w_40.drew.cell? ⟨gl, 0 + i * 1, none⟩ = some (.slice (some ⟨gj, 0, none⟩) (vs.length + 71) c2)) := (Kept.refl No _).drew.cell HC2.out (fun e => e)
                          have HCa : Hid (w_40.drew.cell? ⟨gi, 0 + j * 1, none⟩ = some (strV (kB i))) := (Kept.refl No _).drew.cell HCa.out (fun e => e)
                          have HCb : Hid (w_40.drew.cell? ⟨gj, 0 + j * 1, none⟩ = some (strV (kB i))) := (Kept.refl No _).drew.cell HCb.out (fun e => e)
                          have HS : Hid (Kept No w_40 w_40.drew) := HS.out.then (Kept.refl No _).drew
                          refine wp_region_held_drew (S := fun w' => Kept No w_40 w') rfl HS.out (fun hH => ?_)
                          generalize w_40.drew = wk42 at HF HCl HC2 HCa HCb HS hH ⊢
                          refine aT (i := 0) (oi := { dst := some 217, op := Op.move (Operand.tmp 22), type := 3, pos := "law.go:144", after := #[], guard := none }) (v := .int .i64 ((j : Nat) : Int)) (fun _ _ => by kernel_rfl) hH ?_
                          try simp only [pA, pB, p1, p2, p3]
                          refine aT (i := 1) (oi := { dst := some 218, op := Op.move (Operand.tmp 21), type := 3, pos := "law.go:144", after := #[], guard := none }) (v := .int .i64 ((vs.length : Nat) : Int)) (fun _ _ => by kernel_rfl) hH ?_
                          try simp only [pA, pB, p1, p2, p3]
                          refine aT (i := 2) (oi := { dst := some 219, op := Op.binOp BinOp.geq 3 (Operand.tmp 217) (Operand.tmp 218) 3, type := 4, pos := "law.go:144", after := #[{ on := 0, ground := Ground.data }, { on := 1, ground := Ground.data }], guard := none }) (v := .bool false) (fun w' hw => exec_bin .geq 3 _ _ _ rfl (.int .i64 ((j : Nat) : Int)) (.int .i64 ((vs.length : Nat) : Int)) (.bool false) (by kernel_rfl) (by kernel_rfl) (by kernel_rfl) (by rw [b_geq, decide_eq_false hcg3])) hH ?_
                          try simp only [pA, pB, p1, p2, p3]
                          refine aT (i := 3) (oi := { dst := some 220, op := Op.move (Operand.tmp 219), type := 4, pos := "law.go:144", after := #[{ on := 2, ground := Ground.data }], guard := none }) (v := .bool false) (fun _ _ => by kernel_rfl) hH ?_
                          try simp only [pA, pB, p1, p2, p3]
                          refine aS (i := 4) (oi := { dst := some 221, op := Op.move (Operand.tmp 6), type := 35, pos := "law.go:144", after := #[{ on := 3, ground := Ground.guard }], guard := some (3, true) }) hH ?_
                          try simp only [pA, pB, p1, p2, p3]
                          refine aS (i := 5) (oi := { dst := some 222, op := Op.move (Operand.tmp 20), type := 3, pos := "law.go:144", after := #[{ on := 3, ground := Ground.guard }], guard := some (3, true) }) hH ?_
                          try simp only [pA, pB, p1, p2, p3]
                          refine aS (i := 6) (oi := { dst := some 223, op := Op.indexAddr 35 (Operand.tmp 221) (Operand.tmp 222), type := 0, pos := "law.go:144", after := #[{ on := 4, ground := Ground.data }, { on := 5, ground := Ground.data }, { on := 3, ground := Ground.guard }], guard := some (3, true) }) hH ?_
                          try simp only [pA, pB, p1, p2, p3]
                          refine aS (i := 7) (oi := { dst := some 224, op := Op.load 22 (Operand.tmp 223), type := 22, pos := "law.go:144", after := #[{ on := 6, ground := Ground.data }, { on := 3, ground := Ground.guard }], guard := some (3, true) }) hH ?_
                          try simp only [pA, pB, p1, p2, p3]
                          refine aS (i := 8) (oi := { dst := some 225, op := Op.move (Operand.tmp 22), type := 3, pos := "law.go:144", after := #[{ on := 3, ground := Ground.guard }], guard := some (3, true) }) hH ?_
                          try simp only [pA, pB, p1, p2, p3]
                          refine aS (i := 9) (oi := { dst := some 226, op := Op.indexAddr 22 (Operand.tmp 224) (Operand.tmp 225), type := 0, pos := "law.go:144", after := #[{ on := 7, ground := Ground.data }, { on := 8, ground := Ground.data }, { on := 3, ground := Ground.guard }], guard := some (3, true) }) hH ?_
                          try simp only [pA, pB, p1, p2, p3]
                          refine aS (i := 10) (oi := { dst := some 227, op := Op.load 9 (Operand.tmp 226), type := 9, pos := "law.go:144", after := #[{ on := 9, ground := Ground.data }, { on := 3, ground := Ground.guard }], guard := some (3, true) }) hH ?_
                          try simp only [pA, pB, p1, p2, p3]
                          refine aS (i := 11) (oi := { dst := some 228, op := Op.move (Operand.tmp 20), type := 3, pos := "law.go:144", after := #[{ on := 3, ground := Ground.guard }], guard := some (3, true) }) hH ?_
                          try simp only [pA, pB, p1, p2, p3]
                          refine aS (i := 12) (oi := { dst := some 229, op := Op.call { callee := Callee.value (Operand.func 12), args := #[Operand.tmp 228], argTypes := #[3] }, type := 9, pos := "law.go:144", after := #[{ on := 11, ground := Ground.data }, { on := 3, ground := Ground.chain }, { on := 3, ground := Ground.guard }], guard := some (3, true) }) hH ?_
                          try simp only [pA, pB, p1, p2, p3]
                          refine aS (i := 13) (oi := { dst := some 230, op := Op.binOp BinOp.add 9 (Operand.const (Value.string { data := #[109, 111, 114, 101, 32] })) (Operand.tmp 229) 9, type := 9, pos := "law.go:144", after := #[{ on := 12, ground := Ground.data }, { on := 3, ground := Ground.guard }], guard := some (3, true) }) hH ?_
                          try simp only [pA, pB, p1, p2, p3]
                          refine aS (i := 14) (oi := { dst := some 231, op := Op.binOp BinOp.neq 9 (Operand.tmp 227) (Operand.tmp 230) 9, type := 4, pos := "law.go:144", after := #[{ on := 10, ground := Ground.data }, { on := 13, ground := Ground.data }, { on := 3, ground := Ground.guard }], guard := some (3, true) }) hH ?_
                          try simp only [pA, pB, p1, p2, p3]
                          refine aT (i := 15) (oi := { dst := some 232, op := Op.pick (Operand.tmp 220) (Operand.tmp 231) (Operand.const (Value.bool false)), type := 4, pos := "law.go:144", after := #[{ on := 3, ground := Ground.data }, { on := 14, ground := Ground.data }], guard := none }) (v := .bool false) (fun _ _ => by kernel_rfl) hH ?_
                          try simp only [pA, pB, p1, p2, p3]
                          refine wpAnyH_done (by kernel_rfl) ?_ _
                          try simp only [pA, pB, p1, p2, p3]
                          clear hH
                          clear HS HCl0 HC20 HCa0 HCb0
                          go_upto_region 39 with fail
                          refine WL.start ?_
                          refine tK (.int .i64 ((j : Nat) : Int)) ?_
                          try simp only [pA, pB, p1, p2, p3]
                          refine tW (.int .i64 ((j + 1 : Nat) : Int)) (exec_bin .add 3 _ _ _ rfl (.int .i64 ((j : Nat) : Int)) (.int .i64 1) (.int .i64 ((j + 1 : Nat) : Int)) (by kernel_rfl) (by kernel_rfl) (by kernel_rfl) (b_add1 j (by have := HI.out; omega) _)) ?_
                          try simp only [pA, pB, p1, p2, p3]
                          refine tK (.int .i64 ((j + 1 : Nat) : Int)) ?_
                          try simp only [pA, pB, p1, p2, p3]
                          refine WL.nil ?_
                          try simp only [pA, pB, p1, p2, p3]
                          go_wp2
                          go_roundw
                          case rel => exact ⟨j + 1, by go_num, HPj.out, HF⟩
                          case measure => have := HPj.out; simp [intOf]; omega
                        · skip
                          have hcq3 : ¬ ((j : Nat) : Int) < ((vs.length : Nat) : Int) := by omega
                          have hcg3 : ((vs.length : Nat) : Int) ≤ ((j : Nat) : Int) := by omega
                          have hva : vs2[j]? = some (strV (mB i)) := by rw [HG.out, List.getElem?_append_right (by omega), List.getElem?_replicate, if_pos (by omega)]
                          have HCb : Hid (wr.cell? ⟨gj, 0 + j * 1, none⟩ = some (strV (mB i))) := (HF.out.ks.ok i _ HXi.out).own2.cellAt (i := 0 + j * 1) (by rw [Nat.zero_add, Nat.mul_one]; exact hva)
                          have HPp : Hid (i < N ∧ j < vs.length + 71) := ⟨HPi.out, hp⟩
                          clear hva
                          have HPz : Hid (j < 1000000000000) := show j < 1000000000000 by have := HVz.out; omega
                          have HI : Hid (i ≤ 8193 ∧ i < N ∧ j < 1000000000000) := ⟨HI.out.1, HI.out.2, HPz.out⟩
                          clear hq hp
                          go_upto_region 38 with fail
                          refine WL.start ?_
                          refine tK (.int .i64 ((j : Nat) : Int)) ?_
                          try simp only [pA, pB, p1, p2, p3]
                          refine tK (.slice (some ⟨gl, 0, none⟩) N lc) ?_
                          try simp only [pA, pB, p1, p2, p3]
                          refine tK (.int .i64 ((i : Nat) : Int)) ?_
                          try simp only [pA, pB, p1, p2, p3]
                          refine tW (.pointer (some ⟨gl, 0 + i * 1, none⟩)) (exec_ixA 35 1 E35 F35 _ _ rfl gl 0 N lc i (by kernel_rfl) (by kernel_rfl) (by have := HPp.out; omega)) ?_
                          try simp only [pA, pB, p1, p2, p3]
                          refine tW (.slice (some ⟨gj, 0, none⟩) (vs.length + 71) c2) (exec_load 22 _ rfl ⟨gl, 0 + i * 1, none⟩ (by kernel_rfl) (.slice (some ⟨gj, 0, none⟩) (vs.length + 71) c2) (load_one HC2.out U22 rfl)) ?_
                          try simp only [pA, pB, p1, p2, p3]
                          refine tK (.int .i64 (((vs.length + 71) : Nat) : Int)) ?_
                          try simp only [pA, pB, p1, p2, p3]
                          refine tW (.bool (decide (((j : Nat) : Int) < (((vs.length + 71) : Nat) : Int)))) (exec_bin .lss 3 _ _ _ rfl (.int .i64 ((j : Nat) : Int)) (.int .i64 (((vs.length + 71) : Nat) : Int)) (.bool (decide (((j : Nat) : Int) < (((vs.length + 71) : Nat) : Int)))) (by kernel_rfl) (by kernel_rfl) (by kernel_rfl) (b_lss _ _ _)) ?_
                          try simp only [pA, pB, p1, p2, p3]
                          refine WL.nil ?_
                          try simp only [pA, pB, p1, p2, p3]
                          have HS : Hid (Kept No wr wr) := Kept.refl _ _
                          have HCl0 : Hid (wr.cell? ⟨gk, 0 + i * 1, none⟩ = some (.slice a vs.length c)) := HCl
                          have HC20 : Hid (wr.cell? ⟨gl, 0 + i * 1, none⟩ = some (.slice (some ⟨gj, 0, none⟩) (vs.length + 71) c2)) := HC2
                          have HCb0 : Hid (wr.cell? ⟨gj, 0 + j * 1, none⟩ = some (strV (mB i))) := HCb
                          go_upto_region 40 with fail
                          have HF : Hid (K3 w wr.drew n0 gk kc N V0 b3 (some ⟨gl, 0, none⟩) lc N N X) := HF.out.no (Kept.refl No _).drew
                          have HCl : Hid (wr.drew.cell? ⟨gk, 0 + i * 1, none⟩ = some (.slice a vs.length c)) := (Kept.refl No _).drew.cell HCl.out (fun e => e)
                          have HC2 : Hid (wr.drew.cell? ⟨gl, 0 + i * 1, none⟩ = some (.slice (some ⟨gj, 0, none⟩) (vs.length + 71) c2)) := (Kept.refl No _).drew.cell HC2.out (fun e => e)
                          have HCb : Hid (wr.drew.cell? ⟨gj, 0 + j * 1, none⟩ = some (strV (mB i))) := (Kept.refl No _).drew.cell HCb.out (fun e => e)
                          have HS : Hid (Kept No wr wr.drew) := HS.out.then (Kept.refl No _).drew
                          refine wp_region_held_drew (S := fun w' => Kept No wr w') rfl HS.out (fun hH => ?_)
                          generalize wr.drew = wk43 at HF HCl HC2 HCb HS hH ⊢
                          refine aT (i := 0) (oi := { dst := some 184, op := Op.move (Operand.tmp 22), type := 3, pos := "law.go:141", after := #[], guard := none }) (v := .int .i64 ((j : Nat) : Int)) (fun _ _ => by kernel_rfl) hH ?_
                          try simp only [pA, pB, p1, p2, p3]
                          refine aT (i := 1) (oi := { dst := some 185, op := Op.move (Operand.tmp 21), type := 3, pos := "law.go:141", after := #[], guard := none }) (v := .int .i64 ((vs.length : Nat) : Int)) (fun _ _ => by kernel_rfl) hH ?_
                          try simp only [pA, pB, p1, p2, p3]
                          refine aT (i := 2) (oi := { dst := some 186, op := Op.binOp BinOp.lss 3 (Operand.tmp 184) (Operand.tmp 185) 3, type := 4, pos := "law.go:141", after := #[{ on := 0, ground := Ground.data }, { on := 1, ground := Ground.data }], guard := none }) (v := .bool false) (fun w' hw => exec_bin .lss 3 _ _ _ rfl (.int .i64 ((j : Nat) : Int)) (.int .i64 ((vs.length : Nat) : Int)) (.bool false) (by kernel_rfl) (by kernel_rfl) (by kernel_rfl) (by rw [b_lss, decide_eq_false hcq3])) hH ?_
                          try simp only [pA, pB, p1, p2, p3]
                          refine aT (i := 3) (oi := { dst := some 187, op := Op.move (Operand.tmp 186), type := 4, pos := "law.go:141", after := #[{ on := 2, ground := Ground.data }], guard := none }) (v := .bool false) (fun _ _ => by kernel_rfl) hH ?_
                          try simp only [pA, pB, p1, p2, p3]
                          refine aS (i := 4) (oi := { dst := some 188, op := Op.move (Operand.tmp 5), type := 35, pos := "law.go:141", after := #[{ on := 3, ground := Ground.guard }], guard := some (3, true) }) hH ?_
                          try simp only [pA, pB, p1, p2, p3]
                          refine aS (i := 5) (oi := { dst := some 189, op := Op.move (Operand.tmp 20), type := 3, pos := "law.go:141", after := #[{ on := 3, ground := Ground.guard }], guard := some (3, true) }) hH ?_
                          try simp only [pA, pB, p1, p2, p3]
                          refine aS (i := 6) (oi := { dst := some 190, op := Op.indexAddr 35 (Operand.tmp 188) (Operand.tmp 189), type := 0, pos := "law.go:141", after := #[{ on := 4, ground := Ground.data }, { on := 5, ground := Ground.data }, { on := 3, ground := Ground.guard }], guard := some (3, true) }) hH ?_
                          try simp only [pA, pB, p1, p2, p3]
                          refine aS (i := 7) (oi := { dst := some 191, op := Op.load 22 (Operand.tmp 190), type := 22, pos := "law.go:141", after := #[{ on := 6, ground := Ground.data }, { on := 3, ground := Ground.guard }], guard := some (3, true) }) hH ?_
                          try simp only [pA, pB, p1, p2, p3]
                          refine aS (i := 8) (oi := { dst := some 192, op := Op.move (Operand.tmp 22), type := 3, pos := "law.go:141", after := #[{ on := 3, ground := Ground.guard }], guard := some (3, true) }) hH ?_
                          try simp only [pA, pB, p1, p2, p3]
                          refine aS (i := 9) (oi := { dst := some 193, op := Op.indexAddr 22 (Operand.tmp 191) (Operand.tmp 192), type := 0, pos := "law.go:141", after := #[{ on := 7, ground := Ground.data }, { on := 8, ground := Ground.data }, { on := 3, ground := Ground.guard }], guard := some (3, true) }) hH ?_
                          try simp only [pA, pB, p1, p2, p3]
                          refine aS (i := 10) (oi := { dst := some 194, op := Op.load 9 (Operand.tmp 193), type := 9, pos := "law.go:141", after := #[{ on := 9, ground := Ground.data }, { on := 3, ground := Ground.guard }], guard := some (3, true) }) hH ?_
                          try simp only [pA, pB, p1, p2, p3]
                          refine aS (i := 11) (oi := { dst := some 195, op := Op.move (Operand.tmp 20), type := 3, pos := "law.go:141", after := #[{ on := 3, ground := Ground.guard }], guard := some (3, true) }) hH ?_
                          try simp only [pA, pB, p1, p2, p3]
                          refine aS (i := 12) (oi := { dst := some 196, op := Op.call { callee := Callee.value (Operand.func 12), args := #[Operand.tmp 195], argTypes := #[3] }, type := 9, pos := "law.go:141", after := #[{ on := 11, ground := Ground.data }, { on := 3, ground := Ground.chain }, { on := 3, ground := Ground.guard }], guard := some (3, true) }) hH ?_
                          try simp only [pA, pB, p1, p2, p3]
                          refine aS (i := 13) (oi := { dst := some 197, op := Op.binOp BinOp.add 9 (Operand.const (Value.string { data := #[107, 101, 112, 116, 32] })) (Operand.tmp 196) 9, type := 9, pos := "law.go:141", after := #[{ on := 12, ground := Ground.data }, { on := 3, ground := Ground.guard }], guard := some (3, true) }) hH ?_
                          try simp only [pA, pB, p1, p2, p3]
                          refine aS (i := 14) (oi := { dst := some 198, op := Op.binOp BinOp.neq 9 (Operand.tmp 194) (Operand.tmp 197) 9, type := 4, pos := "law.go:141", after := #[{ on := 10, ground := Ground.data }, { on := 13, ground := Ground.data }, { on := 3, ground := Ground.guard }], guard := some (3, true) }) hH ?_
                          try simp only [pA, pB, p1, p2, p3]
                          refine aS (i := 15) (oi := { dst := some 199, op := Op.move (Operand.tmp 198), type := 4, pos := "law.go:141", after := #[{ on := 14, ground := Ground.data }, { on := 12, ground := Ground.chain }, { on := 3, ground := Ground.guard }], guard := some (3, true) }) hH ?_
                          try simp only [pA, pB, p1, p2, p3]
                          refine aS (i := 16) (oi := { dst := some 200, op := Op.move (Operand.tmp 6), type := 35, pos := "law.go:141", after := #[{ on := 15, ground := Ground.guard }], guard := some (15, false) }) hH ?_
                          try simp only [pA, pB, p1, p2, p3]
                          refine aS (i := 17) (oi := { dst := some 201, op := Op.move (Operand.tmp 20), type := 3, pos := "law.go:141", after := #[{ on := 15, ground := Ground.guard }], guard := some (15, false) }) hH ?_
                          try simp only [pA, pB, p1, p2, p3]
                          refine aS (i := 18) (oi := { dst := some 202, op := Op.indexAddr 35 (Operand.tmp 200) (Operand.tmp 201), type := 0, pos := "law.go:141", after := #[{ on := 16, ground := Ground.data }, { on := 17, ground := Ground.data }, { on := 15, ground := Ground.guard }], guard := some (15, false) }) hH ?_
                          try simp only [pA, pB, p1, p2, p3]
                          refine aS (i := 19) (oi := { dst := some 203, op := Op.load 22 (Operand.tmp 202), type := 22, pos := "law.go:141", after := #[{ on := 18, ground := Ground.data }, { on := 15, ground := Ground.guard }], guard := some (15, false) }) hH ?_
                          try simp only [pA, pB, p1, p2, p3]
                          refine aS (i := 20) (oi := { dst := some 204, op := Op.move (Operand.tmp 22), type := 3, pos := "law.go:141", after := #[{ on := 15, ground := Ground.guard }], guard := some (15, false) }) hH ?_
                          try simp only [pA, pB, p1, p2, p3]
                          refine aS (i := 21) (oi := { dst := some 205, op := Op.indexAddr 22 (Operand.tmp 203) (Operand.tmp 204), type := 0, pos := "law.go:141", after := #[{ on := 19, ground := Ground.data }, { on := 20, ground := Ground.data }, { on := 15, ground := Ground.guard }], guard := some (15, false) }) hH ?_
                          try simp only [pA, pB, p1, p2, p3]
                          refine aS (i := 22) (oi := { dst := some 206, op := Op.load 9 (Operand.tmp 205), type := 9, pos := "law.go:141", after := #[{ on := 21, ground := Ground.data }, { on := 15, ground := Ground.guard }], guard := some (15, false) }) hH ?_
                          try simp only [pA, pB, p1, p2, p3]
                          refine aS (i := 23) (oi := { dst := some 207, op := Op.move (Operand.tmp 5), type := 35, pos := "law.go:141", after := #[{ on := 15, ground := Ground.guard }], guard := some (15, false) }) hH ?_
                          try simp only [pA, pB, p1, p2, p3]
                          refine aS (i := 24) (oi := { dst := some 208, op := Op.move (Operand.tmp 20), type := 3, pos := "law.go:141", after := #[{ on := 15, ground := Ground.guard }], guard := some (15, false) }) hH ?_
                          try simp only [pA, pB, p1, p2, p3]
                          refine aS (i := 25) (oi := { dst := some 209, op := Op.indexAddr 35 (Operand.tmp 207) (Operand.tmp 208), type := 0, pos := "law.go:141", after := #[{ on := 23, ground := Ground.data }, { on := 24, ground := Ground.data }, { on := 15, ground := Ground.guard }], guard := some (15, false) }) hH ?_
                          try simp only [pA, pB, p1, p2, p3]
                          refine aS (i := 26) (oi := { dst := some 210, op := Op.load 22 (Operand.tmp 209), type := 22, pos := "law.go:141", after := #[{ on := 25, ground := Ground.data }, { on := 15, ground := Ground.guard }], guard := some (15, false) }) hH ?_
                          try simp only [pA, pB, p1, p2, p3]
                          refine aS (i := 27) (oi := { dst := some 211, op := Op.move (Operand.tmp 22), type := 3, pos := "law.go:141", after := #[{ on := 15, ground := Ground.guard }], guard := some (15, false) }) hH ?_
                          try simp only [pA, pB, p1, p2, p3]
                          refine aS (i := 28) (oi := { dst := some 212, op := Op.indexAddr 22 (Operand.tmp 210) (Operand.tmp 211), type := 0, pos := "law.go:141", after := #[{ on := 26, ground := Ground.data }, { on := 27, ground := Ground.data }, { on := 15, ground := Ground.guard }], guard := some (15, false) }) hH ?_
                          try simp only [pA, pB, p1, p2, p3]
                          refine aS (i := 29) (oi := { dst := some 213, op := Op.load 9 (Operand.tmp 212), type := 9, pos := "law.go:141", after := #[{ on := 28, ground := Ground.data }, { on := 15, ground := Ground.guard }], guard := some (15, false) }) hH ?_
                          try simp only [pA, pB, p1, p2, p3]
                          refine aS (i := 30) (oi := { dst := some 214, op := Op.binOp BinOp.neq 9 (Operand.tmp 206) (Operand.tmp 213) 9, type := 4, pos := "law.go:141", after := #[{ on := 22, ground := Ground.data }, { on := 29, ground := Ground.data }, { on := 15, ground := Ground.guard }], guard := some (15, false) }) hH ?_
                          try simp only [pA, pB, p1, p2, p3]
                          refine aS (i := 31) (oi := { dst := some 215, op := Op.pick (Operand.tmp 199) (Operand.const (Value.bool true)) (Operand.tmp 214), type := 4, pos := "law.go:141", after := #[{ on := 15, ground := Ground.data }, { on := 30, ground := Ground.data }, { on := 3, ground := Ground.guard }], guard := some (3, true) }) hH ?_
                          try simp only [pA, pB, p1, p2, p3]
                          refine aT (i := 32) (oi := { dst := some 216, op := Op.pick (Operand.tmp 187) (Operand.tmp 215) (Operand.const (Value.bool false)), type := 4, pos := "law.go:141", after := #[{ on := 3, ground := Ground.data }, { on := 31, ground := Ground.data }], guard := none }) (v := .bool false) (fun _ _ => by kernel_rfl) hH ?_
                          try simp only [pA, pB, p1, p2, p3]
                          refine wpAnyH_done (by kernel_rfl) ?_ _
                          try simp only [pA, pB, p1, p2, p3]
                          clear hH
                          clear HS HCl0 HC20 HCb0
                          have HS : Hid (Kept No wk43 wk43) := Kept.refl _ _
                          have HCl0 : Hid (wk43.cell? ⟨gk, 0 + i * 1, none⟩ = some (.slice a vs.length c)) := HCl
                          have HC20 : Hid (wk43.cell? ⟨gl, 0 + i * 1, none⟩ = some (.slice (some ⟨gj, 0, none⟩) (vs.length + 71) c2)) := HC2
                          have HCb0 : Hid (wk43.cell? ⟨gj, 0 + j * 1, none⟩ = some (strV (mB i))) := HCb
                          go_upto_region 42 with fail
                          have HF : Hid (K3 w wk43.drew n0 gk kc N V0 b3 (some ⟨gl, 0, none⟩) lc N N X) := HF.out.no (Kept.refl No _).drew
                          have HCl : Hid (wk43.drew.cell? ⟨gk, 0 + i * 1, none⟩ = some (.slice a vs.length c)) := (Kept.refl No _).drew.cell HCl.out (fun e => e)
                          have HC2 : Hid (wk43.drew.cell? ⟨gl, 0 + i * 1, none⟩ = some (.slice (some ⟨gj, 0, none⟩) (vs.length + 71) c2)) := (Kept.refl No _).drew.cell HC2.out (fun e => e)
                          have HCb : Hid (wk43.drew.cell? ⟨gj, 0 + j * 1, none⟩ = some (strV (mB i))) := (Kept.refl No _).drew.cell HCb.out (fun e => e)
                          have HS : Hid (Kept No wk43 wk43.drew) := HS.out.then (Kept.refl No _).drew
                          refine wp_region_held_drew (S := fun w' => Kept No wk43 w') rfl HS.out (fun hH => ?_)
                          generalize wk43.drew = wk44 at HF HCl HC2 HCb HS hH ⊢
                          refine aT (i := 0) (oi := { dst := some 217, op := Op.move (Operand.tmp 22), type := 3, pos := "law.go:144", after := #[], guard := none }) (v := .int .i64 ((j : Nat) : Int)) (fun _ _ => by kernel_rfl) hH ?_
                          try simp only [pA, pB, p1, p2, p3]
                          refine aT (i := 1) (oi := { dst := some 218, op := Op.move (Operand.tmp 21), type := 3, pos := "law.go:144", after := #[], guard := none }) (v := .int .i64 ((vs.length : Nat) : Int)) (fun _ _ => by kernel_rfl) hH ?_
                          try simp only [pA, pB, p1, p2, p3]
                          refine aT (i := 2) (oi := { dst := some 219, op := Op.binOp BinOp.geq 3 (Operand.tmp 217) (Operand.tmp 218) 3, type := 4, pos := "law.go:144", after := #[{ on := 0, ground := Ground.data }, { on := 1, ground := Ground.data }], guard := none }) (v := .bool true) (fun w' hw => exec_bin .geq 3 _ _ _ rfl (.int .i64 ((j : Nat) : Int)) (.int .i64 ((vs.length : Nat) : Int)) (.bool true) (by kernel_rfl) (by kernel_rfl) (by kernel_rfl) (by rw [b_geq, decide_eq_true hcg3])) hH ?_
                          try simp only [pA, pB, p1, p2, p3]
                          refine aT (i := 3) (oi := { dst := some 220, op := Op.move (Operand.tmp 219), type := 4, pos := "law.go:144", after := #[{ on := 2, ground := Ground.data }], guard := none }) (v := .bool true) (fun _ _ => by kernel_rfl) hH ?_
                          try simp only [pA, pB, p1, p2, p3]
                          refine aT (i := 4) (oi := { dst := some 221, op := Op.move (Operand.tmp 6), type := 35, pos := "law.go:144", after := #[{ on := 3, ground := Ground.guard }], guard := some (3, true) }) (v := .slice (some ⟨gl, 0, none⟩) N lc) (fun _ _ => by kernel_rfl) hH ?_
                          try simp only [pA, pB, p1, p2, p3]
                          refine aT (i := 5) (oi := { dst := some 222, op := Op.move (Operand.tmp 20), type := 3, pos := "law.go:144", after := #[{ on := 3, ground := Ground.guard }], guard := some (3, true) }) (v := .int .i64 ((i : Nat) : Int)) (fun _ _ => by kernel_rfl) hH ?_
                          try simp only [pA, pB, p1, p2, p3]
                          refine aT (i := 6) (oi := { dst := some 223, op := Op.indexAddr 35 (Operand.tmp 221) (Operand.tmp 222), type := 0, pos := "law.go:144", after := #[{ on := 4, ground := Ground.data }, { on := 5, ground := Ground.data }, { on := 3, ground := Ground.guard }], guard := some (3, true) }) (v := .pointer (some ⟨gl, 0 + i * 1, none⟩)) (fun w' hw => exec_ixA 35 1 E35 F35 _ _ rfl gl 0 N lc i (by kernel_rfl) (by kernel_rfl) (by have := HPp.out; omega)) hH ?_
                          try simp only [pA, pB, p1, p2, p3]
                          refine aT (i := 7) (oi := { dst := some 224, op := Op.load 22 (Operand.tmp 223), type := 22, pos := "law.go:144", after := #[{ on := 6, ground := Ground.data }, { on := 3, ground := Ground.guard }], guard := some (3, true) }) (v := .slice (some ⟨gj, 0, none⟩) (vs.length + 71) c2) (fun w' hw => exec_load 22 _ rfl ⟨gl, 0 + i * 1, none⟩ (by kernel_rfl) (.slice (some ⟨gj, 0, none⟩) (vs.length + 71) c2) (load_one (hw.cell HC20.out (fun e => e)) U22 rfl)) hH ?_
                          try simp only [pA, pB, p1, p2, p3]
                          refine aT (i := 8) (oi := { dst := some 225, op := Op.move (Operand.tmp 22), type := 3, pos := "law.go:144", after := #[{ on := 3, ground := Ground.guard }], guard := some (3, true) }) (v := .int .i64 ((j : Nat) : Int)) (fun _ _ => by kernel_rfl) hH ?_
                          try simp only [pA, pB, p1, p2, p3]
                          refine aT (i := 9) (oi := { dst := some 226, op := Op.indexAddr 22 (Operand.tmp 224) (Operand.tmp 225), type := 0, pos := "law.go:144", after := #[{ on := 7, ground := Ground.data }, { on := 8, ground := Ground.data }, { on := 3, ground := Ground.guard }], guard := some (3, true) }) (v := .pointer (some ⟨gj, 0 + j * 1, none⟩)) (fun w' hw => exec_ixA 22 1 E22 F22 _ _ rfl gj 0 (vs.length + 71) c2 j (by kernel_rfl) (by kernel_rfl) (by have := HPp.out; omega)) hH ?_
                          try simp only [pA, pB, p1, p2, p3]
                          refine aT (i := 10) (oi := { dst := some 227, op := Op.load 9 (Operand.tmp 226), type := 9, pos := "law.go:144", after := #[{ on := 9, ground := Ground.data }, { on := 3, ground := Ground.guard }], guard := some (3, true) }) (v := .string (bs (mB i))) (fun w' hw => exec_load 9 _ rfl ⟨gj, 0 + j * 1, none⟩ (by kernel_rfl) (.string (bs (mB i))) (load_one (hw.cell HCb0.out (fun e => e)) U9 rfl)) hH ?_
                          try simp only [pA, pB, p1, p2, p3]
                          refine aT (i := 11) (oi := { dst := some 228, op := Op.move (Operand.tmp 20), type := 3, pos := "law.go:144", after := #[{ on := 3, ground := Ground.guard }], guard := some (3, true) }) (v := .int .i64 ((i : Nat) : Int)) (fun _ _ => by kernel_rfl) hH ?_
                          try simp only [pA, pB, p1, p2, p3]
                          refine any_call (i := 12) (o := { dst := some 229, op := Op.call { callee := Callee.value (Operand.func 12), args := #[Operand.tmp 228], argTypes := #[3] }, type := 9, pos := "law.go:144", after := #[{ on := 11, ground := Ground.data }, { on := 3, ground := Ground.chain }, { on := 3, ground := Ground.guard }], guard := some (3, true) }) rfl (by kernel_rfl) (by kernel_rfl) 12 #[.int .i64 ((i : Nat) : Int)] (by kernel_rfl) _ (marked_any i (by have := HI.out; omega) wk44) ?_
                          rintro e w_44 ⟨rfl, hk⟩
                          have HF : Hid (K3 w w_44 n0 gk kc N V0 b3 (some ⟨gl, 0, none⟩) lc N N X) := HF.out.no hk
                          have HCl : Hid (w_44.cell? ⟨gk, 0 + i * 1, none⟩ = some (.slice a vs.length c)) := hk.cell HCl.out (fun e => e)
                          have HC2 : Hid (w_44.cell? ⟨gl, 0 + i * 1, none⟩ = some (.slice (some ⟨gj, 0, none⟩) (vs.length + 71) c2)) := hk.cell HC2.out (fun e => e)
                          have HCb : Hid (w_44.cell? ⟨gj, 0 + j * 1, none⟩ = some (strV (mB i))) := hk.cell HCb.out (fun e => e)
                          have HS : Hid (Kept No wk43 w_44) := HS.out.then hk
                          clear hk
                          refine ⟨.string (bs (mk i)), rfl, HS.out, fun hH => ?_⟩
                          try simp only [pA, pB, p1, p2, p3]
                          refine aT (i := 13) (oi := { dst := some 230, op := Op.binOp BinOp.add 9 (Operand.const (Value.string { data := #[109, 111, 114, 101, 32] })) (Operand.tmp 229) 9, type := 9, pos := "law.go:144", after := #[{ on := 12, ground := Ground.data }, { on := 3, ground := Ground.guard }], guard := some (3, true) }) (v := .string (bs (mB i))) (fun w' hw => exec_bin .add 9 _ _ _ rfl (.string ⟨#[109, 111, 114, 101, 32]⟩) (.string (bs (mk i))) (.string (bs (mB i))) (by kernel_rfl) (by kernel_rfl) (by kernel_rfl) (b_addS [109, 111, 114, 101, 32] (mk i) (by have h1 := HI.out; have h2 := mk_len i; simp; omega) _)) hH ?_
                          try simp only [pA, pB, p1, p2, p3]
                          refine aT (i := 14) (oi := { dst := some 231, op := Op.binOp BinOp.neq 9 (Operand.tmp 227) (Operand.tmp 230) 9, type := 4, pos := "law.go:144", after := #[{ on := 10, ground := Ground.data }, { on := 13, ground := Ground.data }, { on := 3, ground := Ground.guard }], guard := some (3, true) }) (v := .bool false) (fun w' hw => exec_bin .neq 9 _ _ _ rfl (.string (bs (mB i))) (.string (bs (mB i))) (.bool false) (by kernel_rfl) (by kernel_rfl) (by kernel_rfl) (by rw [b_neqS]; simp)) hH ?_
                          try simp only [pA, pB, p1, p2, p3]
                          refine aT (i := 15) (oi := { dst := some 232, op := Op.pick (Operand.tmp 220) (Operand.tmp 231) (Operand.const (Value.bool false)), type := 4, pos := "law.go:144", after := #[{ on := 3, ground := Ground.data }, { on := 14, ground := Ground.data }], guard := none }) (v := .bool false) (fun _ _ => by kernel_rfl) hH ?_
                          try simp only [pA, pB, p1, p2, p3]
                          refine wpAnyH_done (by kernel_rfl) ?_ _
                          try simp only [pA, pB, p1, p2, p3]
                          clear hH
                          clear HS HCl0 HC20 HCb0
                          go_upto_region 39 with fail
                          refine WL.start ?_
                          refine tK (.int .i64 ((j : Nat) : Int)) ?_
                          try simp only [pA, pB, p1, p2, p3]
                          refine tW (.int .i64 ((j + 1 : Nat) : Int)) (exec_bin .add 3 _ _ _ rfl (.int .i64 ((j : Nat) : Int)) (.int .i64 1) (.int .i64 ((j + 1 : Nat) : Int)) (by kernel_rfl) (by kernel_rfl) (by kernel_rfl) (b_add1 j (by have := HI.out; omega) _)) ?_
                          try simp only [pA, pB, p1, p2, p3]
                          refine tK (.int .i64 ((j + 1 : Nat) : Int)) ?_
                          try simp only [pA, pB, p1, p2, p3]
                          refine WL.nil ?_
                          try simp only [pA, pB, p1, p2, p3]
                          go_wp2
                          go_roundw
                          case rel => exact ⟨j + 1, by go_num, HPj.out, HF⟩
                          case measure => have := HPj.out; simp [intOf]; omega
                      · have hcm3 : ¬ ((j : Nat) : Int) < ((vs.length + 71 : Nat) : Int) := by omega
                        go_upto_region 38 with fail
                        refine WL.start ?_
                        refine tK (.int .i64 ((j : Nat) : Int)) ?_
                        try simp only [pA, pB, p1, p2, p3]
                        refine tK (.slice (some ⟨gl, 0, none⟩) N lc) ?_
                        try simp only [pA, pB, p1, p2, p3]
                        refine tK (.int .i64 ((i : Nat) : Int)) ?_
                        try simp only [pA, pB, p1, p2, p3]
                        refine tW (.pointer (some ⟨gl, 0 + i * 1, none⟩)) (exec_ixA 35 1 E35 F35 _ _ rfl gl 0 N lc i (by kernel_rfl) (by kernel_rfl) (by have := HPp.out; omega)) ?_
                        try simp only [pA, pB, p1, p2, p3]
                        refine tW (.slice a2 (vs.length + 71) c2) (exec_load 22 _ rfl ⟨gl, 0 + i * 1, none⟩ (by kernel_rfl) (.slice a2 (vs.length + 71) c2) (load_one HC2.out U22 rfl)) ?_
                        try simp only [pA, pB, p1, p2, p3]
                        refine tK (.int .i64 (((vs.length + 71) : Nat) : Int)) ?_
                        try simp only [pA, pB, p1, p2, p3]
                        refine tW (.bool (decide (((j : Nat) : Int) < (((vs.length + 71) : Nat) : Int)))) (exec_bin .lss 3 _ _ _ rfl (.int .i64 ((j : Nat) : Int)) (.int .i64 (((vs.length + 71) : Nat) : Int)) (.bool (decide (((j : Nat) : Int) < (((vs.length + 71) : Nat) : Int)))) (by kernel_rfl) (by kernel_rfl) (by kernel_rfl) (b_lss _ _ _)) ?_
                        try simp only [pA, pB, p1, p2, p3]
                        refine WL.nil ?_
                        try simp only [pA, pB, p1, p2, p3]
                        go_upto_region 35 with fail
                        refine WL.start ?_
                        refine tK (.int .i64 ((i : Nat) : Int)) ?_
                        try simp only [pA, pB, p1, p2, p3]
                        refine tW (.int .i64 ((i + 1 : Nat) : Int)) (exec_bin .add 3 _ _ _ rfl (.int .i64 ((i : Nat) : Int)) (.int .i64 1) (.int .i64 ((i + 1 : Nat) : Int)) (by kernel_rfl) (by kernel_rfl) (by kernel_rfl) (b_add1 i (by have := HI.out; omega) _)) ?_
                        try simp only [pA, pB, p1, p2, p3]
                        refine tK (.int .i64 ((i + 1 : Nat) : Int)) ?_
                        try simp only [pA, pB, p1, p2, p3]
                        refine WL.nil ?_
                        try simp only [pA, pB, p1, p2, p3]
                        go_wp2
                        go_roundw
                        case rel => exact ⟨i + 1, by go_num, HPi.out, HF⟩
                        case measure => have := HPi.out; simp [intOf]; omega
                  · have hcm2 : ¬ ((i : Nat) : Int) < ((N : Nat) : Int) := by omega
                    go_upto_region 34 with fail
                    refine WL.start ?_
                    refine tK (.int .i64 ((i : Nat) : Int)) ?_
                    try simp only [pA, pB, p1, p2, p3]
                    refine tK (.slice (some ⟨gk, 0, none⟩) N kc) ?_
                    try simp only [pA, pB, p1, p2, p3]
                    refine tK (.int .i64 ((N : Nat) : Int)) ?_
                    try simp only [pA, pB, p1, p2, p3]
                    refine tW (.bool false) (exec_bin .lss 3 _ _ _ rfl (.int .i64 ((i : Nat) : Int)) (.int .i64 ((N : Nat) : Int)) (.bool false) (by kernel_rfl) (by kernel_rfl) (by kernel_rfl) (by rw [b_lss, decide_eq_false hcm2])) ?_
                    try simp only [pA, pB, p1, p2, p3]
                    refine WL.nil ?_
                    try simp only [pA, pB, p1, p2, p3]
                    go_upto_region 44 with fail
                    refine WL.start ?_
                    refine tK (.bool true) ?_
                    try simp only [pA, pB, p1, p2, p3]
                    refine WL.nil ?_
                    try simp only [pA, pB, p1, p2, p3]
                    go_wp2
                    rw [HC.out]
                    exact ⟨rfl, HF.out.kept⟩
    · have hcm : ¬ ((i : Nat) : Int) < ((ls.length : Nat) : Int) := by omega
      have HN : Hid (X.length ≤ 8193 ∧ 1 ≤ X.length) := ⟨by have := HLx.out; have := HIi.out; omega, by have := HLx.out; omega⟩
      obtain ⟨gk, rfl⟩ := HKr.out.some_of (by have := HN.out; omega)
      obtain ⟨N, hN⟩ : ∃ N, N = X.length := ⟨_, rfl⟩
      obtain ⟨V0, hV0⟩ : ∃ V, V = X.map It.v := ⟨_, rfl⟩
      have HF : Hid (K2 w wr n0 gk kc N V0 X) := ⟨HKs.out, by rw [hN, hV0]; exact HKr.out, hN.symm, hV0.symm, HZt.out, HSz.out, HK.out, HN0.out⟩
      rw [← hN] at HN
      clear HKs HKr HZt HSz HK HLx HIi
      go_upto_region 7 with fail
      refine WL.start ?_
      refine tK (.int .i64 ((i : Nat) : Int)) ?_
      try simp only [pA, pB, p1, p2, p3]
      refine tK (.slice a ls.length cap) ?_
      try simp only [pA, pB, p1, p2, p3]
      refine tK (.int .i64 ((ls.length : Nat) : Int)) ?_
      try simp only [pA, pB, p1, p2, p3]
      refine tW (.bool false) (exec_bin .lss 3 _ _ _ rfl (.int .i64 ((i : Nat) : Int)) (.int .i64 ((ls.length : Nat) : Int)) (.bool false) (by kernel_rfl) (by kernel_rfl) (by kernel_rfl) (by rw [b_lss, decide_eq_false hcm])) ?_
      try simp only [pA, pB, p1, p2, p3]
      refine tK (.bool false) ?_
      try simp only [pA, pB, p1, p2, p3]
      refine sK ?_
      try simp only [pA, pB, p1, p2, p3]
      refine sK ?_
      try simp only [pA, pB, p1, p2, p3]
      refine tK (.bool false) ?_
      try simp only [pA, pB, p1, p2, p3]
      refine WL.nil ?_
      try simp only [pA, pB, p1, p2, p3]
      rw [← hN]
      clear hN hV0
      clear hp
      go_wp2
      go_loopw [14] (fun v14 wr => ∃ (i : Nat) (X : List It), v14 = .int .i64 ((i : Nat) : Int) ∧ Hid (i ≤ N) ∧ Hid (K2 w wr n0 gk kc N V0 X) ∧ Hid (Dn X i)) (fun v14 _ => N - (intOf v14).toNat)
      case atStart => exact ⟨0, X, by go_num, Nat.zero_le _, HF, fun j x _ hj => by omega⟩
      case round =>
        clear HF
        obtain ⟨i, X, rfl, HIn, HF, HDn⟩ := hrel
        by_cases hp : i < N
        · have hcm2 : ((i : Nat) : Int) < ((N : Nat) : Int) := by omega
          have HI : Hid (i ≤ 8193 ∧ i < N) := ⟨by have := HN.out; omega, hp⟩
          have HPi : Hid (i < N) := hp
          obtain ⟨x, hx, hv, hcl⟩ := HF.out.at hp
          obtain ⟨xa, xn, xc, hxv⟩ : ∃ xa xn xc, x.v = .slice xa xn xc := ⟨_, _, _, rfl⟩
          rw [hxv] at hv
          have HVi : Hid (V0[i]? = some (.slice xa xn xc)) := hv
          have HXn : Hid (xn ≤ 200000000000) := by
            have := HF.out.sz i x hx
            unfold It.v at hxv
            simp only [Value.slice.injEq] at hxv
            show xn ≤ _
            rw [← hxv.2.1]; exact this
          clear hx hv hcl hxv x hp
          go_upto_region 17 with fail
          refine WL.start ?_
          refine tK (.int .i64 ((i : Nat) : Int)) ?_
          try simp only [pA, pB, p1, p2, p3]
          refine tK (.slice (some ⟨gk, 0, none⟩) N kc) ?_
          try simp only [pA, pB, p1, p2, p3]
          refine tK (.int .i64 ((N : Nat) : Int)) ?_
          try simp only [pA, pB, p1, p2, p3]
          refine tW (.bool true) (exec_bin .lss 3 _ _ _ rfl (.int .i64 ((i : Nat) : Int)) (.int .i64 ((N : Nat) : Int)) (.bool true) (by kernel_rfl) (by kernel_rfl) (by kernel_rfl) (by rw [b_lss, decide_eq_true hcm2])) ?_
          try simp only [pA, pB, p1, p2, p3]
          refine WL.nil ?_
          try simp only [pA, pB, p1, p2, p3]
          go_upto_region 19 with fail
          refine WL.start ?_
          refine tK (.int .i64 ((i : Nat) : Int)) ?_
          try simp only [pA, pB, p1, p2, p3]
          refine wp_callW 12 #[.int .i64 ((i : Nat) : Int)] (by kernel_rfl) _ (marked_any i (by have := HI.out; omega) wr) (by kernel_rfl) ?_
          rintro e w_45 ⟨rfl, hk⟩
          have HF : Hid (K2 w w_45 n0 gk kc N V0 X) := HF.out.no hk
          clear hk
          refine ⟨.string (bs (mk i)), rfl, ?_⟩
          try simp only [pA, pB, p1, p2, p3]
          refine tW (.string (bs (kB i))) (exec_bin .add 9 _ _ _ rfl (.string ⟨#[107, 101, 112, 116, 32]⟩) (.string (bs (mk i))) (.string (bs (kB i))) (by kernel_rfl) (by kernel_rfl) (by kernel_rfl) (b_addS [107, 101, 112, 116, 32] (mk i) (by have h1 := HI.out; have h2 := mk_len i; simp; omega) _)) ?_
          try simp only [pA, pB, p1, p2, p3]
          refine tK (.string (bs (kB i))) ?_
          try simp only [pA, pB, p1, p2, p3]
          refine WL.nil ?_
          try simp only [pA, pB, p1, p2, p3]
          go_upto_region 20 with fail
          refine WL.start ?_
          refine tK (.int .i64 0) ?_
          try simp only [pA, pB, p1, p2, p3]
          refine WL.nil ?_
          try simp only [pA, pB, p1, p2, p3]
          go_wp2
          go_loopw [16] (fun v16 wr => ∃ (j : Nat) (X : List It), v16 = .int .i64 ((j : Nat) : Int) ∧ Hid (j ≤ xn) ∧ Hid (K2 w wr n0 gk kc N V0 X) ∧ Hid (Dn X i) ∧ Hid (∀ x, X[i]? = some x → ∀ k, k < j → x.vs[k]? = some (strV (kB i)))) (fun v16 _ => xn - (intOf v16).toNat)
          case atStart => exact ⟨0, X, by go_num, Nat.zero_le _, HF, HDn, (show ∀ x, X[i]? = some x → ∀ k, k < 0 → x.vs[k]? = some (strV (kB i)) from fun x _ k hk => by omega)⟩
          case round =>
            clear HF HDn
            obtain ⟨j, X, rfl, HJn, HF, HDn, HVk⟩ := hrel
            obtain ⟨x, hx, hv, hcl⟩ := HF.out.at HPi.out
            rw [HVi.out] at hv
            obtain ⟨a0, c, vs, a2, c2, vs2⟩ := x
            obtain ⟨rfl, rfl, rfl⟩ : xa = a0 ∧ xn = vs.length ∧ xc = c := by
              have e : (.slice xa xn xc : Value) = .slice a0 vs.length c := Option.some.inj hv
              simpa using e
            have HXi : Hid (X[i]? = some ⟨xa, xc, vs, a2, c2, vs2⟩) := hx
            have HCl : Hid (wr.cell? ⟨gk, 0 + i * 1, none⟩ = some (.slice xa vs.length xc)) := hcl
            clear hx hv hcl
            by_cases hp : j < vs.length
            · have hcm3 : ((j : Nat) : Int) < ((vs.length : Nat) : Int) := by omega
              have HPp : Hid (j < vs.length ∧ i < N) := ⟨hp, HPi.out⟩
              obtain ⟨gi, rfl⟩ := (HF.out.ks.ok i _ HXi.out).own.some_of (by show 0 < vs.length; omega)
              have HI : Hid (i ≤ 8193 ∧ i < N ∧ j ≤ 200000000000) := ⟨HI.out.1, HI.out.2, by have := HXn.out; omega⟩
              clear hp
              go_upto_region 21 with fail
              refine WL.start ?_
              refine tK (.int .i64 ((j : Nat) : Int)) ?_
              try simp only [pA, pB, p1, p2, p3]
              refine tK (.slice (some ⟨gk, 0, none⟩) N kc) ?_
              try simp only [pA, pB, p1, p2, p3]
              refine tK (.int .i64 ((i : Nat) : Int)) ?_
              try simp only [pA, pB, p1, p2, p3]
              refine tW (.pointer (some ⟨gk, 0 + i * 1, none⟩)) (exec_ixA 35 1 E35 F35 _ _ rfl gk 0 N kc i (by kernel_rfl) (by kernel_rfl) (by have := HPp.out; omega)) ?_
              try simp only [pA, pB, p1, p2, p3]
              refine tW (.slice (some ⟨gi, 0, none⟩) vs.length xc) (exec_load 22 _ rfl ⟨gk, 0 + i * 1, none⟩ (by kernel_rfl) (.slice (some ⟨gi, 0, none⟩) vs.length xc) (load_one HCl.out U22 rfl)) ?_
              try simp only [pA, pB, p1, p2, p3]
              refine tK (.int .i64 ((vs.length : Nat) : Int)) ?_
              try simp only [pA, pB, p1, p2, p3]
              refine tW (.bool true) (exec_bin .lss 3 _ _ _ rfl (.int .i64 ((j : Nat) : Int)) (.int .i64 ((vs.length : Nat) : Int)) (.bool true) (by kernel_rfl) (by kernel_rfl) (by kernel_rfl) (by rw [b_lss, decide_eq_true hcm3])) ?_
              try simp only [pA, pB, p1, p2, p3]
              refine WL.nil ?_
              try simp only [pA, pB, p1, p2, p3]
              go_upto_region 23 with fail
              refine WL.start ?_
              refine tK (.slice (some ⟨gk, 0, none⟩) N kc) ?_
              try simp only [pA, pB, p1, p2, p3]
              refine tK (.int .i64 ((i : Nat) : Int)) ?_
              try simp only [pA, pB, p1, p2, p3]
              refine tW (.pointer (some ⟨gk, 0 + i * 1, none⟩)) (exec_ixA 35 1 E35 F35 _ _ rfl gk 0 N kc i (by kernel_rfl) (by kernel_rfl) (by have := HPp.out; omega)) ?_
              try simp only [pA, pB, p1, p2, p3]
              refine tW (.slice (some ⟨gi, 0, none⟩) vs.length xc) (exec_load 22 _ rfl ⟨gk, 0 + i * 1, none⟩ (by kernel_rfl) (.slice (some ⟨gi, 0, none⟩) vs.length xc) (load_one HCl.out U22 rfl)) ?_
              try simp only [pA, pB, p1, p2, p3]
              refine tK (.int .i64 ((j : Nat) : Int)) ?_
              try simp only [pA, pB, p1, p2, p3]
              refine tK (.string (bs (kB i))) ?_
              try simp only [pA, pB, p1, p2, p3]
              refine tW (.pointer (some ⟨gi, 0 + j * 1, none⟩)) (exec_ixA 22 1 E22 F22 _ _ rfl gi 0 vs.length xc j (by kernel_rfl) (by kernel_rfl) (by have := HPp.out; omega)) ?_
              try simp only [pA, pB, p1, p2, p3]
              obtain ⟨cs_47, hst, hF⟩ := HF.out.store (j := j) (g := gi) HXi.out rfl HPp.out.1 (kB i)
              refine wp_storeW 9 _ _ rfl ⟨gi, 0 + j * 1, none⟩ (.string (bs (kB i))) (by kernel_rfl) (by kernel_rfl) (wr.setRow gi cs_47) hst (by kernel_rfl) ?_
              try simp only [pA, pB, p1, p2, p3]
              have HF : Hid (K2 w (wr.setRow gi cs_47) n0 gk kc N V0 (X.set i ⟨some ⟨gi, 0, none⟩, xc, vs.set j (strV (kB i)), a2, c2, vs2⟩)) := hF
              clear hst hF
              generalize wr.setRow gi cs_47 = wS at HF ⊢
              refine WL.nil ?_
              try simp only [pA, pB, p1, p2, p3]
              go_upto_region 22 with fail
              refine WL.start ?_
              refine tK (.int .i64 ((j : Nat) : Int)) ?_
              try simp only [pA, pB, p1, p2, p3]
              refine tW (.int .i64 ((j + 1 : Nat) : Int)) (exec_bin .add 3 _ _ _ rfl (.int .i64 ((j : Nat) : Int)) (.int .i64 1) (.int .i64 ((j + 1 : Nat) : Int)) (by kernel_rfl) (by kernel_rfl) (by kernel_rfl) (b_add1 j (by have := HI.out; omega) _)) ?_
              try simp only [pA, pB, p1, p2, p3]
              refine tK (.int .i64 ((j + 1 : Nat) : Int)) ?_
              try simp only [pA, pB, p1, p2, p3]
              refine WL.nil ?_
              try simp only [pA, pB, p1, p2, p3]
              go_wp2
              go_roundw
              case rel => exact ⟨j + 1, _, by go_num, (by have := HPp.out; show j + 1 ≤ _; omega), HF, dn_set HXi.out HDn.out, filled HXi.out HVk.out HPp.out.1⟩
              case measure => have := HPp.out; simp [intOf]; omega
            · have hcm3 : ¬ ((j : Nat) : Int) < ((vs.length : Nat) : Int) := by omega
              have HJe : Hid (j = vs.length) := show j = vs.length by have := HJn.out; omega
              have HPp : Hid (i < N) := HPi.out
              go_upto_region 21 with fail
              refine WL.start ?_
              refine tK (.int .i64 ((j : Nat) : Int)) ?_
              try simp only [pA, pB, p1, p2, p3]
              refine tK (.slice (some ⟨gk, 0, none⟩) N kc) ?_
              try simp only [pA, pB, p1, p2, p3]
              refine tK (.int .i64 ((i : Nat) : Int)) ?_
              try simp only [pA, pB, p1, p2, p3]
              refine tW (.pointer (some ⟨gk, 0 + i * 1, none⟩)) (exec_ixA 35 1 E35 F35 _ _ rfl gk 0 N kc i (by kernel_rfl) (by kernel_rfl) (by have := HPp.out; omega)) ?_
              try simp only [pA, pB, p1, p2, p3]
              refine tW (.slice xa vs.length xc) (exec_load 22 _ rfl ⟨gk, 0 + i * 1, none⟩ (by kernel_rfl) (.slice xa vs.length xc) (load_one HCl.out U22 rfl)) ?_
              try simp only [pA, pB, p1, p2, p3]
              refine tK (.int .i64 ((vs.length : Nat) : Int)) ?_
              try simp only [pA, pB, p1, p2, p3]
              refine tW (.bool false) (exec_bin .lss 3 _ _ _ rfl (.int .i64 ((j : Nat) : Int)) (.int .i64 ((vs.length : Nat) : Int)) (.bool false) (by kernel_rfl) (by kernel_rfl) (by kernel_rfl) (by rw [b_lss, decide_eq_false hcm3])) ?_
              try simp only [pA, pB, p1, p2, p3]
              refine WL.nil ?_
              try simp only [pA, pB, p1, p2, p3]
              go_upto_region 18 with fail
              refine WL.start ?_
              refine tK (.int .i64 ((i : Nat) : Int)) ?_
              try simp only [pA, pB, p1, p2, p3]
              refine tW (.int .i64 ((i + 1 : Nat) : Int)) (exec_bin .add 3 _ _ _ rfl (.int .i64 ((i : Nat) : Int)) (.int .i64 1) (.int .i64 ((i + 1 : Nat) : Int)) (by kernel_rfl) (by kernel_rfl) (by kernel_rfl) (b_add1 i (by have := HI.out; omega) _)) ?_
              try simp only [pA, pB, p1, p2, p3]
              refine tK (.int .i64 ((i + 1 : Nat) : Int)) ?_
              try simp only [pA, pB, p1, p2, p3]
              refine WL.nil ?_
              try simp only [pA, pB, p1, p2, p3]
              go_wp2
              go_roundw
              case rel => exact ⟨i + 1, X, by go_num, HPi.out, HF, dn_next HXi.out HDn.out (fun k hk => HVk.out _ HXi.out k (by rw [HJe.out]; exact hk))⟩
              case measure => have := HPi.out; simp [intOf]; omega
        · have hcm2 : ¬ ((i : Nat) : Int) < ((N : Nat) : Int) := by omega
          obtain rfl : N = i := by have := HIn.out; omega
          go_upto_region 17 with fail
          refine WL.start ?_
          refine tK (.int .i64 ((N : Nat) : Int)) ?_
          try simp only [pA, pB, p1, p2, p3]
          refine tK (.slice (some ⟨gk, 0, none⟩) N kc) ?_
          try simp only [pA, pB, p1, p2, p3]
          refine tK (.int .i64 ((N : Nat) : Int)) ?_
          try simp only [pA, pB, p1, p2, p3]
          refine tW (.bool false) (exec_bin .lss 3 _ _ _ rfl (.int .i64 ((N : Nat) : Int)) (.int .i64 ((N : Nat) : Int)) (.bool false) (by kernel_rfl) (by kernel_rfl) (by kernel_rfl) (by rw [b_lss, decide_eq_false hcm2])) ?_
          try simp only [pA, pB, p1, p2, p3]
          refine WL.nil ?_
          try simp only [pA, pB, p1, p2, p3]
          have HF3 : Hid (K3 w wr n0 gk kc N V0 wr.heap.size none 0 0 0 X) := HF.out.begin3 HDn.out
          clear HF HDn HIn hcm2
          obtain ⟨b3, hb3⟩ : ∃ b, b = wr.heap.size := ⟨_, rfl⟩
          rw [← hb3] at HF3
          clear hb3 hp
          go_wp2
          go_loopw [6, 17] (fun v6 v17 wr => ∃ (i : Nat) (X : List It) (la : Option Addr) (lc : Nat), v6 = .slice la i lc ∧ v17 = .int .i64 ((i : Nat) : Int) ∧ Hid (i ≤ N) ∧ Hid (K3 w wr n0 gk kc N V0 b3 la lc i i X)) (fun _ v17 _ => N - (intOf v17).toNat)
          case atStart => exact ⟨0, X, none, 0, rfl, by go_num, Nat.zero_le _, HF3⟩
          case round =>
            clear HF3
            obtain ⟨i, X, la, lc, rfl, rfl, HIn, HF⟩ := hrel
            by_cases hp : i < N
            · have hcm2 : ((i : Nat) : Int) < ((N : Nat) : Int) := by omega
              have HI : Hid (i ≤ 8193 ∧ i < N) := ⟨by have := HN.out; omega, hp⟩
              have HPp : Hid (i < N) := hp
              obtain ⟨x, hx, hv, hcl⟩ := HF.out.at hp
              have hok := HF.out.begin hx
              have hsz := HF.out.sz i x hx
              have hxi : (X.set i { x with a2 := x.a, c2 := x.c, vs2 := x.vs })[i]? = some { x with a2 := x.a, c2 := x.c, vs2 := x.vs } := List.getElem?_set_self (List.getElem?_eq_some_iff.1 hx).1
              obtain ⟨a, c, vs, a2, c2, vs2⟩ := x
              obtain ⟨X1, hX1⟩ : ∃ X1, X1 = X.set i ⟨a, c, vs, a, c, vs⟩ := ⟨_, rfl⟩
              have HF : Hid (K3 w wr n0 gk kc N V0 b3 la lc i (i + 1) X1) := by rw [hX1]; exact hok
              have HXi : Hid (X1[i]? = some ⟨a, c, vs, a, c, vs⟩) := by rw [hX1]; exact hxi
              have HLk : Hid (It.link ⟨a, c, vs, a, c, vs⟩) := ⟨.inl ⟨rfl, rfl⟩, List.prefix_refl _⟩
              have HVi : Hid (V0[i]? = some (.slice a vs.length c)) := hv
              have HCl : Hid (wr.cell? ⟨gk, 0 + i * 1, none⟩ = some (.slice a vs.length c)) := hcl
              have HV2 : Hid (vs.length ≤ 200000000000) := hsz
              clear hx hv hcl hok hsz hxi hX1 hp
              go_upto_region 25 with fail
              refine WL.start ?_
              refine tK (.int .i64 ((i : Nat) : Int)) ?_
              try simp only [pA, pB, p1, p2, p3]
              refine tK (.slice (some ⟨gk, 0, none⟩) N kc) ?_
              try simp only [pA, pB, p1, p2, p3]
              refine tK (.int .i64 ((N : Nat) : Int)) ?_
              try simp only [pA, pB, p1, p2, p3]
              refine tW (.bool true) (exec_bin .lss 3 _ _ _ rfl (.int .i64 ((i : Nat) : Int)) (.int .i64 ((N : Nat) : Int)) (.bool true) (by kernel_rfl) (by kernel_rfl) (by kernel_rfl) (by rw [b_lss, decide_eq_true hcm2])) ?_
              try simp only [pA, pB, p1, p2, p3]
              refine WL.nil ?_
              try simp only [pA, pB, p1, p2, p3]
              have HVz : Hid (vs.length ≤ 200000000000) := HV2.out
              go_upto_region 27 with fail
              have HF : Hid (K3 w wr.drew n0 gk kc N V0 b3 la lc i (i + 1) X1) := HF.out.no (Kept.refl No _).drew
              have HCl : Hid (wr.drew.cell? ⟨gk, 0 + i * 1, none⟩ = some (.slice a vs.length c)) := (Kept.refl No _).drew.cell HCl.out (fun e => e)
              refine wp_region_held_drew (S := fun w' => w'.cell? ⟨gk, 0 + i * 1, none⟩ = some (.slice a vs.length c)) rfl HCl.out (fun hH => ?_)
              generalize wr.drew = wk48 at HF HCl hH ⊢
              refine aT (i := 0) (oi := { dst := some 141, op := Op.move (Operand.tmp 5), type := 35, pos := "law.go:132", after := #[], guard := none }) (v := .slice (some ⟨gk, 0, none⟩) N kc) (fun _ _ => by kernel_rfl) hH ?_
              try simp only [pA, pB, p1, p2, p3]
              refine aT (i := 1) (oi := { dst := some 142, op := Op.move (Operand.tmp 17), type := 3, pos := "law.go:132", after := #[], guard := none }) (v := .int .i64 ((i : Nat) : Int)) (fun _ _ => by kernel_rfl) hH ?_
              try simp only [pA, pB, p1, p2, p3]
              refine aT (i := 2) (oi := { dst := some 143, op := Op.indexAddr 35 (Operand.tmp 141) (Operand.tmp 142), type := 0, pos := "law.go:132", after := #[{ on := 0, ground := Ground.data }, { on := 1, ground := Ground.data }], guard := none }) (v := .pointer (some ⟨gk, 0 + i * 1, none⟩)) (fun w' hw => exec_ixA 35 1 E35 F35 _ _ rfl gk 0 N kc i (by kernel_rfl) (by kernel_rfl) (by have := HPp.out; omega)) hH ?_
              try simp only [pA, pB, p1, p2, p3]
              refine aT (i := 3) (oi := { dst := some 144, op := Op.load 22 (Operand.tmp 143), type := 22, pos := "law.go:132", after := #[{ on := 2, ground := Ground.data }], guard := none }) (v := .slice a vs.length c) (fun w' hw => exec_load 22 _ rfl ⟨gk, 0 + i * 1, none⟩ (by kernel_rfl) (.slice a vs.length c) (load_one hw U22 rfl)) hH ?_
              try simp only [pA, pB, p1, p2, p3]
              refine aT (i := 4) (oi := { dst := some 145, op := Op.move (Operand.tmp 17), type := 3, pos := "law.go:132", after := #[], guard := none }) (v := .int .i64 ((i : Nat) : Int)) (fun _ _ => by kernel_rfl) hH ?_
              try simp only [pA, pB, p1, p2, p3]
              refine any_call (i := 5) (o := { dst := some 146, op := Op.call { callee := Callee.value (Operand.func 12), args := #[Operand.tmp 145], argTypes := #[3] }, type := 9, pos := "law.go:132", after := #[{ on := 4, ground := Ground.data }], guard := none }) rfl (by kernel_rfl) (by kernel_rfl) 12 #[.int .i64 ((i : Nat) : Int)] (by kernel_rfl) _ (marked_any i (by have := HI.out; omega) wk48) ?_
              rintro e w_48 ⟨rfl, hk⟩
              have HF : Hid (K3 w w_48 n0 gk kc N V0 b3 la lc i (i + 1) X1) := HF.out.no hk
              have HCl : Hid (w_48.cell? ⟨gk, 0 + i * 1, none⟩ = some (.slice a vs.length c)) := hk.cell HCl.out (fun e => e)
              clear hk
              refine ⟨.string (bs (mk i)), rfl, HCl.out, fun hH => ?_⟩
              try simp only [pA, pB, p1, p2, p3]
              refine aT (i := 6) (oi := { dst := some 147, op := Op.binOp BinOp.add 9 (Operand.const (Value.string { data := #[109, 111, 114, 101, 32] })) (Operand.tmp 146) 9, type := 9, pos := "law.go:132", after := #[{ on := 5, ground := Ground.data }], guard := none }) (v := .string (bs (mB i))) (fun w' hw => exec_bin .add 9 _ _ _ rfl (.string ⟨#[109, 111, 114, 101, 32]⟩) (.string (bs (mk i))) (.string (bs (mB i))) (by kernel_rfl) (by kernel_rfl) (by kernel_rfl) (b_addS [109, 111, 114, 101, 32] (mk i) (by have h1 := HI.out; have h2 := mk_len i; simp; omega) _)) hH ?_
              try simp only [pA, pB, p1, p2, p3]
              have HF : Hid (K3 w (w_48.alloc (.cells [.string (bs (mB i))].toArray 9)) n0 gk kc N V0 b3 la lc i (i + 1) X1) := HF.out.no ((Kept.refl No _).alloc _)
              have HCl : Hid ((w_48.alloc (.cells [.string (bs (mB i))].toArray 9)).cell? ⟨gk, 0 + i * 1, none⟩ = some (.slice a vs.length c)) := ((Kept.refl No _).alloc _).cell HCl.out (fun e => e)
              have HX : Hid (Box (w_48.alloc (.cells [.string (bs (mB i))].toArray 9)) w_48.heap.size 9 [.string (bs (mB i))].toArray) := Box.new _ _ _
              refine any_step (i := 7) (o := { dst := some 148, op := Op.buildSlice 22 1 #[(0, Operand.tmp 147)], type := 22, pos := "law.go:132", after := #[{ on := 6, ground := Ground.data }], guard := none }) (v := .slice (some ⟨w_48.heap.size, 0, none⟩) 1 1) (w' := w_48.alloc (.cells [.string (bs (mB i))].toArray 9)) rfl (by kernel_rfl) (by kernel_rfl) (exec_built (by kernel_rfl)) HCl.out (fun hH => ?_)
              try simp only [pA, pB, p1, p2, p3]
              generalize w_48.alloc (.cells [.string (bs (mB i))].toArray 9) = wk50 at HF HCl HX hH ⊢
              generalize w_48.heap.size = gk51 at HX ⊢
              obtain ⟨y51, w_51, hrun, hvs, hvs2, hlk, hxy, hF⟩ := HF.out.grow HXi.out HLk.out gk51 (mB i) HX.out (show vs.length ≤ 1000000000000 by have := HV2.out; omega)
              clear HX
              have HCl : Hid (w_51.cell? ⟨gk, 0 + i * 1, none⟩ = some (.slice a vs.length c)) := hF.row.cellAt (i := 0 + i * 1) (by rw [Nat.zero_add, Nat.mul_one]; exact HVi.out)
              refine any_step (i := 8) (o := { dst := some 149, op := Op.call { callee := Callee.builtin Builtin.append, args := #[Operand.tmp 144, Operand.tmp 148], argTypes := #[22, 22] }, type := 22, pos := "law.go:132", after := #[{ on := 3, ground := Ground.data }, { on := 7, ground := Ground.data }, { on := 5, ground := Ground.chain }], guard := none }) (v := y51.v2) (w' := w_51) rfl (by kernel_rfl) (by kernel_rfl) (exec_app _ _ 22 22 rfl _ _ _ (by kernel_rfl) (by kernel_rfl) (hrun 22)) HCl.out (fun hH => ?_)
              try simp only [pA, pB, p1, p2, p3]
              have HV2 : Hid (y51.vs2.length = vs.length + 1 ∧ y51.vs2 = vs ++ List.replicate 1 (strV (mB i))) := ⟨by rw [hvs2]; simp, hvs2⟩
              have HVs : Hid (y51.vs = vs) := hvs
              have HLk : Hid y51.link := hlk
              obtain ⟨X2, hX2⟩ : ∃ Z : List It, Z = X1.set i y51 := ⟨_, rfl⟩
              rw [← hX2] at hxy hF
              have HXi : Hid (X2[i]? = some y51) := hxy
              have HF : Hid (K3 w w_51 n0 gk kc N V0 b3 la lc i (i + 1) X2) := hF
              clear hrun hvs hvs2 hlk hxy hF hX2
              refine aT (i := 9) (oi := { dst := some 18, op := Op.assign (Operand.tmp 149), type := 22, pos := "law.go:132", after := #[{ on := 8, ground := Ground.data }, { on := 8, ground := Ground.chain }, { on := 0, ground := Ground.phase }, { on := 1, ground := Ground.phase }, { on := 2, ground := Ground.phase }, { on := 3, ground := Ground.phase }, { on := 4, ground := Ground.phase }, { on := 5, ground := Ground.phase }, { on := 6, ground := Ground.phase }, { on := 7, ground := Ground.phase }, { on := 8, ground := Ground.phase }], guard := none }) (v := y51.v2) (fun _ _ => by kernel_rfl) hH ?_
              try simp only [pA, pB, p1, p2, p3]
              refine wpAnyH_done (by kernel_rfl) ?_ _
              try simp only [pA, pB, p1, p2, p3]
              clear hH
              go_upto_region 28 with fail
              refine WL.start ?_
              refine tK (.int .i64 0) ?_
              try simp only [pA, pB, p1, p2, p3]
              refine WL.nil ?_
              try simp only [pA, pB, p1, p2, p3]
              go_wp2
              go_loopw [18, 19] (fun v18 v19 wr => ∃ (k : Nat) (X2 : List It) (y : It), v18 = y.v2 ∧ v19 = .int .i64 ((k : Nat) : Int) ∧ Hid (k ≤ 70) ∧ Hid (y.vs2.length = vs.length + (k + 1) ∧ y.vs2 = vs ++ List.replicate (k + 1) (strV (mB i))) ∧ Hid (y.vs = vs) ∧ Hid y.link ∧ Hid (X2[i]? = some y) ∧ Hid (K3 w wr n0 gk kc N V0 b3 la lc i (i + 1) X2)) (fun _ v19 _ => 70 - (intOf v19).toNat)
              case atStart => exact ⟨0, X2, y51, rfl, by go_num, Nat.zero_le _, HV2, HVs, HLk, HXi, HF⟩
              case round =>
                clear HV2 HVs HLk HXi HF HCl
                obtain ⟨k, X2, y, rfl, rfl, HKk, HV2, HVs, HLk, HXi, HF⟩ := hrel
                by_cases hp : k < 70
                · have hcm3 : ((k : Nat) : Int) < 70 := by omega
                  have HPk : Hid (k < 70) := hp
                  have HI : Hid (i ≤ 8193 ∧ i < N ∧ k < 70 ∧ vs.length ≤ 200000000000) := ⟨HI.out.1, HI.out.2, hp, HVz.out⟩
                  clear hp
                  go_upto_region 29 with fail
                  refine WL.start ?_
                  refine tK (.int .i64 ((k : Nat) : Int)) ?_
                  try simp only [pA, pB, p1, p2, p3]
                  refine tW (.bool true) (exec_bin .lss 3 _ _ _ rfl (.int .i64 ((k : Nat) : Int)) (.int .i64 70) (.bool true) (by kernel_rfl) (by kernel_rfl) (by kernel_rfl) (by rw [b_lss, decide_eq_true hcm3])) ?_
                  try simp only [pA, pB, p1, p2, p3]
                  refine WL.nil ?_
                  try simp only [pA, pB, p1, p2, p3]
                  go_upto_region 31 with fail
                  refine WL.start ?_
                  refine tK (y.v2) ?_
                  try simp only [pA, pB, p1, p2, p3]
                  refine tK (.int .i64 ((i : Nat) : Int)) ?_
                  try simp only [pA, pB, p1, p2, p3]
                  refine wp_callW 12 #[.int .i64 ((i : Nat) : Int)] (by kernel_rfl) _ (marked_any i (by have := HI.out; omega) wr) (by kernel_rfl) ?_
                  rintro e w_52 ⟨rfl, hk⟩
                  have HF : Hid (K3 w w_52 n0 gk kc N V0 b3 la lc i (i + 1) X2) := HF.out.no hk
                  clear hk
                  refine ⟨.string (bs (mk i)), rfl, ?_⟩
                  try simp only [pA, pB, p1, p2, p3]
                  refine tW (.string (bs (mB i))) (exec_bin .add 9 _ _ _ rfl (.string ⟨#[109, 111, 114, 101, 32]⟩) (.string (bs (mk i))) (.string (bs (mB i))) (by kernel_rfl) (by kernel_rfl) (by kernel_rfl) (b_addS [109, 111, 114, 101, 32] (mk i) (by have h1 := HI.out; have h2 := mk_len i; simp; omega) _)) ?_
                  try simp only [pA, pB, p1, p2, p3]
                  have HF : Hid (K3 w (w_52.alloc (.cells [.string (bs (mB i))].toArray 9)) n0 gk kc N V0 b3 la lc i (i + 1) X2) := HF.out.no ((Kept.refl No _).alloc _)
                  have HX : Hid (Box (w_52.alloc (.cells [.string (bs (mB i))].toArray 9)) w_52.heap.size 9 [.string (bs (mB i))].toArray) := Box.new _ _ _
                  refine wp_runW (.slice (some ⟨w_52.heap.size, 0, none⟩) 1 1) (w_52.alloc (.cells [.string (bs (mB i))].toArray 9)) (exec_built (by kernel_rfl)) (by kernel_rfl) ?_
                  try simp only [pA, pB, p1, p2, p3]
                  generalize w_52.alloc (.cells [.string (bs (mB i))].toArray 9) = wk54 at HF HX ⊢
                  generalize w_52.heap.size = gk55 at HX ⊢
                  obtain ⟨y55, w_55, hrun, hvs, hvs2, hlk, hxy, hF⟩ := HF.out.grow HXi.out HLk.out gk55 (mB i) HX.out (by have := HI.out; have := HV2.out; omega)
                  clear HX
                  refine wp_runW (y55.v2) w_55 (exec_app _ _ 22 22 rfl _ _ _ (by kernel_rfl) (by kernel_rfl) (hrun 22)) (by kernel_rfl) ?_
                  try simp only [pA, pB, p1, p2, p3]
                  have HV2 : Hid (y55.vs2.length = vs.length + (k + 1) + 1 ∧ y55.vs2 = vs ++ List.replicate (k + 1 + 1) (strV (mB i))) := ⟨by rw [hvs2, List.length_append, HV2.out.1]; rfl, by rw [hvs2, HV2.out.2, List.append_assoc, ← List.replicate_succ']⟩
                  have HVs : Hid (y55.vs = vs) := hvs.trans HVs.out
                  have HLk : Hid y55.link := hlk
                  obtain ⟨X2, hX2⟩ : ∃ Z : List It, Z = X2.set i y55 := ⟨_, rfl⟩
                  rw [← hX2] at hxy hF
                  have HXi : Hid (X2[i]? = some y55) := hxy
                  have HF : Hid (K3 w w_55 n0 gk kc N V0 b3 la lc i (i + 1) X2) := hF
                  clear hrun hvs hvs2 hlk hxy hF hX2
                  refine tK (y55.v2) ?_
                  try simp only [pA, pB, p1, p2, p3]
                  refine WL.nil ?_
                  try simp only [pA, pB, p1, p2, p3]
                  go_upto_region 30 with fail
                  refine WL.start ?_
                  refine tK (.int .i64 ((k : Nat) : Int)) ?_
                  try simp only [pA, pB, p1, p2, p3]
                  refine tW (.int .i64 ((k + 1 : Nat) : Int)) (exec_bin .add 3 _ _ _ rfl (.int .i64 ((k : Nat) : Int)) (.int .i64 1) (.int .i64 ((k + 1 : Nat) : Int)) (by kernel_rfl) (by kernel_rfl) (by kernel_rfl) (b_add1 k (by have := HI.out; omega) _)) ?_
                  try simp only [pA, pB, p1, p2, p3]
                  refine tK (.int .i64 ((k + 1 : Nat) : Int)) ?_
                  try simp only [pA, pB, p1, p2, p3]
                  refine WL.nil ?_
                  try simp only [pA, pB, p1, p2, p3]
                  go_wp2
                  go_roundw
                  case rel => exact ⟨k + 1, X2, y55, rfl, by go_num, HPk.out, HV2, HVs, HLk, HXi, HF⟩
                  case measure => have := HPk.out; simp [intOf]; omega
                · have hcm3 : ¬ ((k : Nat) : Int) < 70 := by omega
                  have hk70 : k = 70 := by have := HKk.out; omega
                  have HVg : Hid (y.vs2 = y.vs ++ List.replicate 71 (strV (mB i))) := by show _ = _; rw [HVs.out, HV2.out.2, hk70]
                  clear hk70
                  have HI : Hid (i ≤ 8193 ∧ i < N) := HI.out
                  obtain ⟨X, hX⟩ : ∃ X, X = X2 := ⟨_, rfl⟩
                  rw [← hX] at HXi HF
                  clear hX hp
                  go_upto_region 29 with fail
                  refine WL.start ?_
                  refine tK (.int .i64 ((k : Nat) : Int)) ?_
                  try simp only [pA, pB, p1, p2, p3]
                  refine tW (.bool false) (exec_bin .lss 3 _ _ _ rfl (.int .i64 ((k : Nat) : Int)) (.int .i64 70) (.bool false) (by kernel_rfl) (by kernel_rfl) (by kernel_rfl) (by rw [b_lss, decide_eq_false hcm3])) ?_
                  try simp only [pA, pB, p1, p2, p3]
                  refine WL.nil ?_
                  try simp only [pA, pB, p1, p2, p3]
                  go_upto_region 32 with fail
                  refine WL.start ?_
                  refine tK (.slice la i lc) ?_
                  try simp only [pA, pB, p1, p2, p3]
                  refine tK (y.v2) ?_
                  try simp only [pA, pB, p1, p2, p3]
                  have HF : Hid (K3 w (wr.alloc (.cells [y.v2].toArray 22)) n0 gk kc N V0 b3 la lc i (i + 1) X) := HF.out.no ((Kept.refl No _).alloc _)
                  have HX : Hid (Box (wr.alloc (.cells [y.v2].toArray 22)) wr.heap.size 22 [y.v2].toArray) := Box.new _ _ _
                  refine wp_runW (.slice (some ⟨wr.heap.size, 0, none⟩) 1 1) (wr.alloc (.cells [y.v2].toArray 22)) (exec_built (by kernel_rfl)) (by kernel_rfl) ?_
                  try simp only [pA, pB, p1, p2, p3]
                  generalize wr.alloc (.cells [y.v2].toArray 22) = wk57 at HF HX ⊢
                  generalize wr.heap.size = gk58 at HX ⊢
                  obtain ⟨a_58, c_58, w_58, hrun, ho, hc⟩ := run_app 35 22 24 _ U35 I22 rfl HF.out.lrow 35 ⟨gk58, 0, none⟩ 1 1 [y.v2] rfl (box_news HX.out) (by simp [Value.oneCell', It.v2]) (by have := HI.out; omega) (by have := HI.out; omega) (by have := HF.out.hb; omega)
                  clear HX
                  have HF : Hid (K3 w w_58 n0 gk kc N V0 b3 a_58 c_58 (i + 1) (i + 1) X) := HF.out.join HXi.out HVg.out hc ho
                  refine wp_runW (.slice a_58 (i + 1) c_58) w_58 (exec_app _ _ 35 35 rfl _ _ _ (by kernel_rfl) (by kernel_rfl) hrun) (by kernel_rfl) ?_
                  try simp only [pA, pB, p1, p2, p3]
                  clear hrun ho hc
                  refine tK (.slice a_58 (i + 1) c_58) ?_
                  try simp only [pA, pB, p1, p2, p3]
                  refine WL.nil ?_
                  try simp only [pA, pB, p1, p2, p3]
                  go_upto_region 26 with fail
                  refine WL.start ?_
                  refine tK (.int .i64 ((i : Nat) : Int)) ?_
                  try simp only [pA, pB, p1, p2, p3]
                  refine tW (.int .i64 ((i + 1 : Nat) : Int)) (exec_bin .add 3 _ _ _ rfl (.int .i64 ((i : Nat) : Int)) (.int .i64 1) (.int .i64 ((i + 1 : Nat) : Int)) (by kernel_rfl) (by kernel_rfl) (by kernel_rfl) (b_add1 i (by have := HI.out; omega) _)) ?_
                  try simp only [pA, pB, p1, p2, p3]
                  refine tK (.int .i64 ((i + 1 : Nat) : Int)) ?_
                  try simp only [pA, pB, p1, p2, p3]
                  refine WL.nil ?_
                  try simp only [pA, pB, p1, p2, p3]
                  go_wp2
                  go_roundw
                  case rel => exact ⟨i + 1, X, a_58, c_58, rfl, by go_num, HPp.out, HF⟩
                  case measure => have := HPp.out; simp [intOf]; omega
            · have hcm2 : ¬ ((i : Nat) : Int) < ((N : Nat) : Int) := by omega
              obtain rfl : N = i := by have := HIn.out; omega
              go_upto_region 25 with fail
              refine WL.start ?_
              refine tK (.int .i64 ((N : Nat) : Int)) ?_
              try simp only [pA, pB, p1, p2, p3]
              refine tK (.slice (some ⟨gk, 0, none⟩) N kc) ?_
              try simp only [pA, pB, p1, p2, p3]
              refine tK (.int .i64 ((N : Nat) : Int)) ?_
              try simp only [pA, pB, p1, p2, p3]
              refine tW (.bool false) (exec_bin .lss 3 _ _ _ rfl (.int .i64 ((N : Nat) : Int)) (.int .i64 ((N : Nat) : Int)) (.bool false) (by kernel_rfl) (by kernel_rfl) (by kernel_rfl) (by rw [b_lss, decide_eq_false hcm2])) ?_
              try simp only [pA, pB, p1, p2, p3]
              refine WL.nil ?_
              try simp only [pA, pB, p1, p2, p3]
              clear hcm2 hp HIn
              obtain ⟨gl, rfl⟩ := HF.out.lrow.some_of (by have := HN.out; omega)
              go_wp2
              go_loopw [20] (fun v20 wr => ∃ (i : Nat), v20 = .int .i64 ((i : Nat) : Int) ∧ Hid (i ≤ N) ∧ Hid (K3 w wr n0 gk kc N V0 b3 (some ⟨gl, 0, none⟩) lc N N X)) (fun v20 _ => N - (intOf v20).toNat)
              case atStart => exact ⟨0, by go_num, Nat.zero_le _, HF⟩
              case round =>
                clear HF
                obtain ⟨i, rfl, HIn, HF⟩ := hrel
                by_cases hp : i < N
                · have hcm2 : ((i : Nat) : Int) < ((N : Nat) : Int) := by omega
                  have HI : Hid (i ≤ 8193 ∧ i < N) := ⟨by have := HN.out; omega, hp⟩
                  have HPi : Hid (i < N) := hp
                  have HPp : Hid (i < N) := hp
                  obtain ⟨x, hx, hv, hcl⟩ := HF.out.at hp
                  have hd := HF.out.dn i x hx hp
                  have hg := HF.out.lg i x hx hp
                  have hsz := HF.out.sz i x hx
                  have hl2 : ((X.take N).map It.v2)[i]? = some x.v2 := by rw [List.getElem?_map, List.getElem?_take, if_pos hp, hx]; rfl
                  have hc2 := HF.out.lrow.cellAt (i := 0 + i * 1) (v := x.v2) (by rw [Nat.zero_add, Nat.mul_one]; exact hl2)
                  obtain ⟨a, c, vs, a2, c2, vs2⟩ := x
                  have hl71 : vs2.length = vs.length + 71 := by have e : vs2 = vs ++ List.replicate 71 (strV (mB i)) := hg; rw [e]; simp
                  have HXi : Hid (X[i]? = some ⟨a, c, vs, a2, c2, vs2⟩) := hx
                  have HCl : Hid (wr.cell? ⟨gk, 0 + i * 1, none⟩ = some (.slice a vs.length c)) := hcl
                  have HC2 : Hid (wr.cell? ⟨gl, 0 + i * 1, none⟩ = some (.slice a2 (vs.length + 71) c2)) := by rw [← hl71]; exact hc2
                  have HD : Hid (vs = List.replicate vs.length (strV (kB i))) := hd
                  have HG : Hid (vs2 = vs ++ List.replicate 71 (strV (mB i))) := hg
                  have HL71 : Hid (vs2.length = vs.length + 71) := hl71
                  have HVz : Hid (vs.length ≤ 200000000000) := hsz
                  clear hx hv hcl hd hg hsz hl2 hc2 hl71 hp
                  go_upto_region 34 with fail
                  refine WL.start ?_
                  refine tK (.int .i64 ((i : Nat) : Int)) ?_
                  try simp only [pA, pB, p1, p2, p3]
                  refine tK (.slice (some ⟨gk, 0, none⟩) N kc) ?_
                  try simp only [pA, pB, p1, p2, p3]
                  refine tK (.int .i64 ((N : Nat) : Int)) ?_
                  try simp only [pA, pB, p1, p2, p3]
                  refine tW (.bool true) (exec_bin .lss 3 _ _ _ rfl (.int .i64 ((i : Nat) : Int)) (.int .i64 ((N : Nat) : Int)) (.bool true) (by kernel_rfl) (by kernel_rfl) (by kernel_rfl) (by rw [b_lss, decide_eq_true hcm2])) ?_
                  try simp only [pA, pB, p1, p2, p3]
                  refine WL.nil ?_
                  try simp only [pA, pB, p1, p2, p3]
                  go_upto_region 36 with fail
                  refine WL.start ?_
                  refine tK (.slice (some ⟨gk, 0, none⟩) N kc) ?_
                  try simp only [pA, pB, p1, p2, p3]
                  refine tK (.int .i64 ((i : Nat) : Int)) ?_
                  try simp only [pA, pB, p1, p2, p3]
                  refine tW (.pointer (some ⟨gk, 0 + i * 1, none⟩)) (exec_ixA 35 1 E35 F35 _ _ rfl gk 0 N kc i (by kernel_rfl) (by kernel_rfl) (by have := HPp.out; omega)) ?_
                  try simp only [pA, pB, p1, p2, p3]
                  refine tW (.slice a vs.length c) (exec_load 22 _ rfl ⟨gk, 0 + i * 1, none⟩ (by kernel_rfl) (.slice a vs.length c) (load_one HCl.out U22 rfl)) ?_
                  try simp only [pA, pB, p1, p2, p3]
                  refine tK (.int .i64 ((vs.length : Nat) : Int)) ?_
                  try simp only [pA, pB, p1, p2, p3]
                  refine tK (.int .i64 ((vs.length : Nat) : Int)) ?_
                  try simp only [pA, pB, p1, p2, p3]
                  refine WL.nil ?_
                  try simp only [pA, pB, p1, p2, p3]
                  go_upto_region 37 with fail
                  refine WL.start ?_
                  refine tK (.int .i64 0) ?_
                  try simp only [pA, pB, p1, p2, p3]
                  refine WL.nil ?_
                  try simp only [pA, pB, p1, p2, p3]
                  go_wp2
                  go_loopw [22] (fun v22 wr => ∃ (j : Nat), v22 = .int .i64 ((j : Nat) : Int) ∧ Hid (j ≤ vs.length + 71) ∧ Hid (K3 w wr n0 gk kc N V0 b3 (some ⟨gl, 0, none⟩) lc N N X)) (fun v22 _ => vs.length + 71 - (intOf v22).toNat)
                  case atStart => exact ⟨0, by go_num, Nat.zero_le _, HF⟩
                  case round =>
                    clear HF HCl HC2
                    obtain ⟨j, rfl, HJn, HF⟩ := hrel
                    have hcl0 := HF.out.row.cellAt (i := 0 + i * 1) (v := .slice a vs.length c) (by rw [Nat.zero_add, Nat.mul_one, ← HF.out.map, List.getElem?_map, HXi.out]; rfl)
                    have hcl2 := HF.out.lrow.cellAt (i := 0 + i * 1) (v := .slice a2 vs2.length c2) (by rw [Nat.zero_add, Nat.mul_one, List.getElem?_map, List.getElem?_take, if_pos HPi.out, HXi.out]; rfl)
                    have HCl : Hid (wr.cell? ⟨gk, 0 + i * 1, none⟩ = some (.slice a vs.length c)) := hcl0
                    have HC2 : Hid (wr.cell? ⟨gl, 0 + i * 1, none⟩ = some (.slice a2 (vs.length + 71) c2)) := by rw [← HL71.out]; exact hcl2
                    clear hcl0 hcl2
                    by_cases hp : j < vs.length + 71
                    · have hcm3 : ((j : Nat) : Int) < ((vs.length + 71 : Nat) : Int) := by omega
                      have HPj : Hid (j < vs.length + 71) := hp
                      obtain ⟨gj, rfl⟩ : ∃ g, a2 = some ⟨g, 0, none⟩ := (HF.out.ks.ok i _ HXi.out).own2.some_of (by show 0 < vs2.length; rw [HL71.out]; omega)
                      by_cases hq : j < vs.length
                      · skip
                        have hcq3 : ((j : Nat) : Int) < ((vs.length : Nat) : Int) := by omega
                        have hcg3 : ¬ ((vs.length : Nat) : Int) ≤ ((j : Nat) : Int) := by omega
                        obtain ⟨gi, rfl⟩ : ∃ g, a = some ⟨g, 0, none⟩ := (HF.out.ks.ok i _ HXi.out).own.some_of (by show 0 < vs.length; omega)
                        have hva : vs[j]? = some (strV (kB i)) := by rw [HD.out, List.getElem?_replicate, if_pos hq]
                        have HCa : Hid (wr.cell? ⟨gi, 0 + j * 1, none⟩ = some (strV (kB i))) := (HF.out.ks.ok i _ HXi.out).own.cellAt (i := 0 + j * 1) (by rw [Nat.zero_add, Nat.mul_one]; exact hva)
                        have HCb : Hid (wr.cell? ⟨gj, 0 + j * 1, none⟩ = some (strV (kB i))) := (HF.out.ks.ok i _ HXi.out).own2.cellAt (i := 0 + j * 1) (by rw [Nat.zero_add, Nat.mul_one]; show vs2[j]? = _; rw [HG.out, List.getElem?_append_left hq]; exact hva)
                        have HPp : Hid (i < N ∧ j < vs.length + 71 ∧ j < vs.length) := ⟨HPi.out, hp, hq⟩
                        clear hva
                        have HPz : Hid (j < 1000000000000) := show j < 1000000000000 by have := HVz.out; omega
                        have HI : Hid (i ≤ 8193 ∧ i < N ∧ j < 1000000000000) := ⟨HI.out.1, HI.out.2, HPz.out⟩
                        clear hq hp
                        go_upto_region 38 with fail
                        refine WL.start ?_
                        refine tK (.int .i64 ((j : Nat) : Int)) ?_
                        try simp only [pA, pB, p1, p2, p3]
                        refine tK (.slice (some ⟨gl, 0, none⟩) N lc) ?_
                        try simp only [pA, pB, p1, p2, p3]
                        refine tK (.int .i64 ((i : Nat) : Int)) ?_
                        try simp only [pA, pB, p1, p2, p3]
                        refine tW (.pointer (some ⟨gl, 0 + i * 1, none⟩)) (exec_ixA 35 1 E35 F35 _ _ rfl gl 0 N lc i (by kernel_rfl) (by kernel_rfl) (by have := HPp.out; omega)) ?_
                        try simp only [pA, pB, p1, p2, p3]
                        refine tW (.slice (some ⟨gj, 0, none⟩) (vs.length + 71) c2) (exec_load 22 _ rfl ⟨gl, 0 + i * 1, none⟩ (by kernel_rfl) (.slice (some ⟨gj, 0, none⟩) (vs.length + 71) c2) (load_one HC2.out U22 rfl)) ?_
                        try simp only [pA, pB, p1, p2, p3]
                        refine tK (.int .i64 (((vs.length + 71) : Nat) : Int)) ?_
                        try simp only [pA, pB, p1, p2, p3]
                        refine tW (.bool (decide (((j : Nat) : Int) < (((vs.length + 71) : Nat) : Int)))) (exec_bin .lss 3 _ _ _ rfl (.int .i64 ((j : Nat) : Int)) (.int .i64 (((vs.length + 71) : Nat) : Int)) (.bool (decide (((j : Nat) : Int) < (((vs.length + 71) : Nat) : Int)))) (by kernel_rfl) (by kernel_rfl) (by kernel_rfl) (b_lss _ _ _)) ?_
                        try simp only [pA, pB, p1, p2, p3]
                        refine WL.nil ?_
                        try simp only [pA, pB, p1, p2, p3]
                        have HS : Hid (Kept No wr wr) := Kept.refl _ _
                        have HCl0 : Hid (wr.cell? ⟨gk, 0 + i * 1, none⟩ = some (.slice (some ⟨gi, 0, none⟩) vs.length c)) := HCl
                        have HC20 : Hid (wr.cell? ⟨gl, 0 + i * 1, none⟩ = some (.slice (some ⟨gj, 0, none⟩) (vs.length + 71) c2)) := HC2
                        have HCa0 : Hid (wr.cell? ⟨gi, 0 + j * 1, none⟩ = some (strV (kB i))) := HCa
                        have HCb0 : Hid (wr.cell? ⟨gj, 0 + j * 1, none⟩ = some (strV (kB i))) := HCb
                        go_upto_region 40 with fail
                        have HF : Hid (K3 w wr.drew n0 gk kc N V0 b3 (some ⟨gl, 0, none⟩) lc N N X) := HF.out.no (Kept.refl No _).drew
                        have HCl : Hid (wr.drew.cell? ⟨gk, 0 + i * 1, none⟩ = some (.slice (some ⟨gi, 0, none⟩) vs.length c)) := (Kept.refl No _).drew.cell HCl.out (fun e => e)
                        have HC2 : Hid (wr.drew.cell? ⟨gl, 0 + i * 1, none⟩ = some (.slice (some ⟨gj, 0, none⟩) (vs.length + 71) c2)) := (Kept.refl No _).drew.cell HC2.out (fun e => e)
                        have HCa : Hid (wr.drew.cell? ⟨gi, 0 + j * 1, none⟩ = some (strV (kB i))) := (Kept.refl No _).drew.cell HCa.out (fun e => e)
                        have HCb : Hid (wr.drew.cell? ⟨gj, 0 + j * 1, none⟩ = some (strV (kB i))) := (Kept.refl No _).drew.cell HCb.out (fun e => e)
                        have HS : Hid (Kept No wr wr.drew) := HS.out.then (Kept.refl No _).drew
                        refine wp_region_held_drew (S := fun w' => Kept No wr w') rfl HS.out (fun hH => ?_)
                        generalize wr.drew = wk60 at HF HCl HC2 HCa HCb HS hH ⊢
                        refine aT (i := 0) (oi := { dst := some 184, op := Op.move (Operand.tmp 22), type := 3, pos := "law.go:141", after := #[], guard := none }) (v := .int .i64 ((j : Nat) : Int)) (fun _ _ => by kernel_rfl) hH ?_
                        try simp only [pA, pB, p1, p2, p3]
                        refine aT (i := 1) (oi := { dst := some 185, op := Op.move (Operand.tmp 21), type := 3, pos := "law.go:141", after := #[], guard := none }) (v := .int .i64 ((vs.length : Nat) : Int)) (fun _ _ => by kernel_rfl) hH ?_
                        try simp only [pA, pB, p1, p2, p3]
                        refine aT (i := 2) (oi := { dst := some 186, op := Op.binOp BinOp.lss 3 (Operand.tmp 184) (Operand.tmp 185) 3, type := 4, pos := "law.go:141", after := #[{ on := 0, ground := Ground.data }, { on := 1, ground := Ground.data }], guard := none }) (v := .bool true) (fun w' hw => exec_bin .lss 3 _ _ _ rfl (.int .i64 ((j : Nat) : Int)) (.int .i64 ((vs.length : Nat) : Int)) (.bool true) (by kernel_rfl) (by kernel_rfl) (by kernel_rfl) (by rw [b_lss, decide_eq_true hcq3])) hH ?_
                        try simp only [pA, pB, p1, p2, p3]
                        refine aT (i := 3) (oi := { dst := some 187, op := Op.move (Operand.tmp 186), type := 4, pos := "law.go:141", after := #[{ on := 2, ground := Ground.data }], guard := none }) (v := .bool true) (fun _ _ => by kernel_rfl) hH ?_
                        try simp only [pA, pB, p1, p2, p3]
                        refine aT (i := 4) (oi := { dst := some 188, op := Op.move (Operand.tmp 5), type := 35, pos := "law.go:141", after := #[{ on := 3, ground := Ground.guard }], guard := some (3, true) }) (v := .slice (some ⟨gk, 0, none⟩) N kc) (fun _ _ => by kernel_rfl) hH ?_
                        try simp only [pA, pB, p1, p2, p3]
                        refine aT (i := 5) (oi := { dst := some 189, op := Op.move (Operand.tmp 20), type := 3, pos := "law.go:141", after := #[{ on := 3, ground := Ground.guard }], guard := some (3, true) }) (v := .int .i64 ((i : Nat) : Int)) (fun _ _ => by kernel_rfl) hH ?_
                        try simp only [pA, pB, p1, p2, p3]
                        refine aT (i := 6) (oi := { dst := some 190, op := Op.indexAddr 35 (Operand.tmp 188) (Operand.tmp 189), type := 0, pos := "law.go:141", after := #[{ on := 4, ground := Ground.data }, { on := 5, ground := Ground.data }, { on := 3, ground := Ground.guard }], guard := some (3, true) }) (v := .pointer (some ⟨gk, 0 + i * 1, none⟩)) (fun w' hw => exec_ixA 35 1 E35 F35 _ _ rfl gk 0 N kc i (by kernel_rfl) (by kernel_rfl) (by have := HPp.out; omega)) hH ?_
                        try simp only [pA, pB, p1, p2, p3]
                        refine aT (i := 7) (oi := { dst := some 191, op := Op.load 22 (Operand.tmp 190), type := 22, pos := "law.go:141", after := #[{ on := 6, ground := Ground.data }, { on := 3, ground := Ground.guard }], guard := some (3, true) }) (v := .slice (some ⟨gi, 0, none⟩) vs.length c) (fun w' hw => exec_load 22 _ rfl ⟨gk, 0 + i * 1, none⟩ (by kernel_rfl) (.slice (some ⟨gi, 0, none⟩) vs.length c) (load_one (hw.cell HCl0.out (fun e => e)) U22 rfl)) hH ?_
                        try simp only [pA, pB, p1, p2, p3]
                        refine aT (i := 8) (oi := { dst := some 192, op := Op.move (Operand.tmp 22), type := 3, pos := "law.go:141", after := #[{ on := 3, ground := Ground.guard }], guard := some (3, true) }) (v := .int .i64 ((j : Nat) : Int)) (fun _ _ => by kernel_rfl) hH ?_
                        try simp only [pA, pB, p1, p2, p3]
                        refine aT (i := 9) (oi := { dst := some 193, op := Op.indexAddr 22 (Operand.tmp 191) (Operand.tmp 192), type := 0, pos := "law.go:141", after := #[{ on := 7, ground := Ground.data }, { on := 8, ground := Ground.data }, { on := 3, ground := Ground.guard }], guard := some (3, true) }) (v := .pointer (some ⟨gi, 0 + j * 1, none⟩)) (fun w' hw => exec_ixA 22 1 E22 F22 _ _ rfl gi 0 vs.length c j (by kernel_rfl) (by kernel_rfl) (by have := HPp.out; omega)) hH ?_
                        try simp only [pA, pB, p1, p2, p3]
                        refine aT (i := 10) (oi := { dst := some 194, op := Op.load 9 (Operand.tmp 193), type := 9, pos := "law.go:141", after := #[{ on := 9, ground := Ground.data }, { on := 3, ground := Ground.guard }], guard := some (3, true) }) (v := .string (bs (kB i))) (fun w' hw => exec_load 9 _ rfl ⟨gi, 0 + j * 1, none⟩ (by kernel_rfl) (.string (bs (kB i))) (load_one (hw.cell HCa0.out (fun e => e)) U9 rfl)) hH ?_
                        try simp only [pA, pB, p1, p2, p3]
                        refine aT (i := 11) (oi := { dst := some 195, op := Op.move (Operand.tmp 20), type := 3, pos := "law.go:141", after := #[{ on := 3, ground := Ground.guard }], guard := some (3, true) }) (v := .int .i64 ((i : Nat) : Int)) (fun _ _ => by kernel_rfl) hH ?_
                        try simp only [pA, pB, p1, p2, p3]
                        refine any_call (i := 12) (o := { dst := some 196, op := Op.call { callee := Callee.value (Operand.func 12), args := #[Operand.tmp 195], argTypes := #[3] }, type := 9, pos := "law.go:141", after := #[{ on := 11, ground := Ground.data }, { on := 3, ground := Ground.chain }, { on := 3, ground := Ground.guard }], guard := some (3, true) }) rfl (by kernel_rfl) (by kernel_rfl) 12 #[.int .i64 ((i : Nat) : Int)] (by kernel_rfl) _ (marked_any i (by have := HI.out; omega) wk60) ?_
                        rintro e w_60 ⟨rfl, hk⟩
                        have HF : Hid (K3 w w_60 n0 gk kc N V0 b3 (some ⟨gl, 0, none⟩) lc N N X) := HF.out.no hk
                        have HCl : Hid (w_60.cell? ⟨gk, 0 + i * 1, none⟩ = some (.slice (some ⟨gi, 0, none⟩) vs.length c)) := hk.cell HCl.out (fun e => e)
                        have HC2 : Hid (w_60.cell? ⟨gl, 0 + i * 1, none⟩ = some (.slice (some ⟨gj, 0, none⟩) (vs.length + 71) c2)) := hk.cell HC2.out (fun e => e)
                        have HCa : Hid (w_60.cell? ⟨gi, 0 + j * 1, none⟩ = some (strV (kB i))) := hk.cell HCa.out (fun e => e)
                        have HCb : Hid (w_60.cell? ⟨gj, 0 + j * 1, none⟩ = some (strV (kB i))) := hk.cell HCb.out (fun e => e)
                        have HS : Hid (Kept No wr w_60) := HS.out.then hk
                        clear hk
                        refine ⟨.string (bs (mk i)), rfl, HS.out, fun hH => ?_⟩
                        try simp only [pA, pB, p1, p2, p3]
                        refine aT (i := 13) (oi := { dst := some 197, op := Op.binOp BinOp.add 9 (Operand.const (Value.string { data := #[107, 101, 112, 116, 32] })) (Operand.tmp 196) 9, type := 9, pos := "law.go:141", after := #[{ on := 12, ground := Ground.data }, { on := 3, ground := Ground.guard }], guard := some (3, true) }) (v := .string (bs (kB i))) (fun w' hw => exec_bin .add 9 _ _ _ rfl (.string ⟨#[107, 101, 112, 116, 32]⟩) (.string (bs (mk i))) (.string (bs (kB i))) (by kernel_rfl) (by kernel_rfl) (by kernel_rfl) (b_addS [107, 101, 112, 116, 32] (mk i) (by have h1 := HI.out; have h2 := mk_len i; simp; omega) _)) hH ?_
                        try simp only [pA, pB, p1, p2, p3]
                        refine aT (i := 14) (oi := { dst := some 198, op := Op.binOp BinOp.neq 9 (Operand.tmp 194) (Operand.tmp 197) 9, type := 4, pos := "law.go:141", after := #[{ on := 10, ground := Ground.data }, { on := 13, ground := Ground.data }, { on := 3, ground := Ground.guard }], guard := some (3, true) }) (v := .bool false) (fun w' hw => exec_bin .neq 9 _ _ _ rfl (.string (bs (kB i))) (.string (bs (kB i))) (.bool false) (by kernel_rfl) (by kernel_rfl) (by kernel_rfl) (by rw [b_neqS]; simp)) hH ?_
                        try simp only [pA, pB, p1, p2, p3]
                        refine aT (i := 15) (oi := { dst := some 199, op := Op.move (Operand.tmp 198), type := 4, pos := "law.go:141", after := #[{ on := 14, ground := Ground.data }, { on := 12, ground := Ground.chain }, { on := 3, ground := Ground.guard }], guard := some (3, true) }) (v := .bool false) (fun _ _ => by kernel_rfl) hH ?_
                        try simp only [pA, pB, p1, p2, p3]
                        refine aT (i := 16) (oi := { dst := some 200, op := Op.move (Operand.tmp 6), type := 35, pos := "law.go:141", after := #[{ on := 15, ground := Ground.guard }], guard := some (15, false) }) (v := .slice (some ⟨gl, 0, none⟩) N lc) (fun _ _ => by kernel_rfl) hH ?_
                        try simp only [pA, pB, p1, p2, p3]
                        refine aT (i := 17) (oi := { dst := some 201, op := Op.move (Operand.tmp 20), type := 3, pos := "law.go:141", after := #[{ on := 15, ground := Ground.guard }], guard := some (15, false) }) (v := .int .i64 ((i : Nat) : Int)) (fun _ _ => by kernel_rfl) hH ?_
                        try simp only [pA, pB, p1, p2, p3]
                        refine aT (i := 18) (oi := { dst := some 202, op := Op.indexAddr 35 (Operand.tmp 200) (Operand.tmp 201), type := 0, pos := "law.go:141", after := #[{ on := 16, ground := Ground.data }, { on := 17, ground := Ground.data }, { on := 15, ground := Ground.guard }], guard := some (15, false) }) (v := .pointer (some ⟨gl, 0 + i * 1, none⟩)) (fun w' hw => exec_ixA 35 1 E35 F35 _ _ rfl gl 0 N lc i (by kernel_rfl) (by kernel_rfl) (by have := HPp.out; omega)) hH ?_
                        try simp only [pA, pB, p1, p2, p3]
                        refine aT (i := 19) (oi := { dst := some 203, op := Op.load 22 (Operand.tmp 202), type := 22, pos := "law.go:141", after := #[{ on := 18, ground := Ground.data }, { on := 15, ground := Ground.guard }], guard := some (15, false) }) (v := .slice (some ⟨gj, 0, none⟩) (vs.length + 71) c2) (fun w' hw => exec_load 22 _ rfl ⟨gl, 0 + i * 1, none⟩ (by kernel_rfl) (.slice (some ⟨gj, 0, none⟩) (vs.length + 71) c2) (load_one (hw.cell HC20.out (fun e => e)) U22 rfl)) hH ?_
                        try simp only [pA, pB, p1, p2, p3]
                        refine aT (i := 20) (oi := { dst := some 204, op := Op.move (Operand.tmp 22), type := 3, pos := "law.go:141", after := #[{ on := 15, ground := Ground.guard }], guard := some (15, false) }) (v := .int .i64 ((j : Nat) : Int)) (fun _ _ => by kernel_rfl) hH ?_
                        try simp only [pA, pB, p1, p2, p3]
                        refine aT (i := 21) (oi := { dst := some 205, op := Op.indexAddr 22 (Operand.tmp 203) (Operand.tmp 204), type := 0, pos := "law.go:141", after := #[{ on := 19, ground := Ground.data }, { on := 20, ground := Ground.data }, { on := 15, ground := Ground.guard }], guard := some (15, false) }) (v := .pointer (some ⟨gj, 0 + j * 1, none⟩)) (fun w' hw => exec_ixA 22 1 E22 F22 _ _ rfl gj 0 (vs.length + 71) c2 j (by kernel_rfl) (by kernel_rfl) (by have := HPp.out; omega)) hH ?_
                        try simp only [pA, pB, p1, p2, p3]
                        refine aT (i := 22) (oi := { dst := some 206, op := Op.load 9 (Operand.tmp 205), type := 9, pos := "law.go:141", after := #[{ on := 21, ground := Ground.data }, { on := 15, ground := Ground.guard }], guard := some (15, false) }) (v := .string (bs (kB i))) (fun w' hw => exec_load 9 _ rfl ⟨gj, 0 + j * 1, none⟩ (by kernel_rfl) (.string (bs (kB i))) (load_one (hw.cell HCb0.out (fun e => e)) U9 rfl)) hH ?_
                        try simp only [pA, pB, p1, p2, p3]
                        refine aT (i := 23) (oi := { dst := some 207, op := Op.move (Operand.tmp 5), type := 35, pos := "law.go:141", after := #[{ on := 15, ground := Ground.guard }], guard := some (15, false) }) (v := .slice (some ⟨gk, 0, none⟩) N kc) (fun _ _ => by kernel_rfl) hH ?_
                        try simp only [pA, pB, p1, p2, p3]
                        refine aT (i := 24) (oi := { dst := some 208, op := Op.move (Operand.tmp 20), type := 3, pos := "law.go:141", after := #[{ on := 15, ground := Ground.guard }], guard := some (15, false) }) (v := .int .i64 ((i : Nat) : Int)) (fun _ _ => by kernel_rfl) hH ?_
                        try simp only [pA, pB, p1, p2, p3]
                        refine aT (i := 25) (oi := { dst := some 209, op := Op.indexAddr 35 (Operand.tmp 207) (Operand.tmp 208), type := 0, pos := "law.go:141", after := #[{ on := 23, ground := Ground.data }, { on := 24, ground := Ground.data }, { on := 15, ground := Ground.guard }], guard := some (15, false) }) (v := .pointer (some ⟨gk, 0 + i * 1, none⟩)) (fun w' hw => exec_ixA 35 1 E35 F35 _ _ rfl gk 0 N kc i (by kernel_rfl) (by kernel_rfl) (by have := HPp.out; omega)) hH ?_
                        try simp only [pA, pB, p1, p2, p3]
                        refine aT (i := 26) (oi := { dst := some 210, op := Op.load 22 (Operand.tmp 209), type := 22, pos := "law.go:141", after := #[{ on := 25, ground := Ground.data }, { on := 15, ground := Ground.guard }], guard := some (15, false) }) (v := .slice (some ⟨gi, 0, none⟩) vs.length c) (fun w' hw => exec_load 22 _ rfl ⟨gk, 0 + i * 1, none⟩ (by kernel_rfl) (.slice (some ⟨gi, 0, none⟩) vs.length c) (load_one (hw.cell HCl0.out (fun e => e)) U22 rfl)) hH ?_
                        try simp only [pA, pB, p1, p2, p3]
                        refine aT (i := 27) (oi := { dst := some 211, op := Op.move (Operand.tmp 22), type := 3, pos := "law.go:141", after := #[{ on := 15, ground := Ground.guard }], guard := some (15, false) }) (v := .int .i64 ((j : Nat) : Int)) (fun _ _ => by kernel_rfl) hH ?_
                        try simp only [pA, pB, p1, p2, p3]
                        refine aT (i := 28) (oi := { dst := some 212, op := Op.indexAddr 22 (Operand.tmp 210) (Operand.tmp 211), type := 0, pos := "law.go:141", after := #[{ on := 26, ground := Ground.data }, { on := 27, ground := Ground.data }, { on := 15, ground := Ground.guard }], guard := some (15, false) }) (v := .pointer (some ⟨gi, 0 + j * 1, none⟩)) (fun w' hw => exec_ixA 22 1 E22 F22 _ _ rfl gi 0 vs.length c j (by kernel_rfl) (by kernel_rfl) (by have := HPp.out; omega)) hH ?_
                        try simp only [pA, pB, p1, p2, p3]
                        refine aT (i := 29) (oi := { dst := some 213, op := Op.load 9 (Operand.tmp 212), type := 9, pos := "law.go:141", after := #[{ on := 28, ground := Ground.data }, { on := 15, ground := Ground.guard }], guard := some (15, false) }) (v := .string (bs (kB i))) (fun w' hw => exec_load 9 _ rfl ⟨gi, 0 + j * 1, none⟩ (by kernel_rfl) (.string (bs (kB i))) (load_one (hw.cell HCa0.out (fun e => e)) U9 rfl)) hH ?_
                        try simp only [pA, pB, p1, p2, p3]
                        refine aT (i := 30) (oi := { dst := some 214, op := Op.binOp BinOp.neq 9 (Operand.tmp 206) (Operand.tmp 213) 9, type := 4, pos := "law.go:141", after := #[{ on := 22, ground := Ground.data }, { on := 29, ground := Ground.data }, { on := 15, ground := Ground.guard }], guard := some (15, false) }) (v := .bool false) (fun w' hw => exec_bin .neq 9 _ _ _ rfl (.string (bs (kB i))) (.string (bs (kB i))) (.bool false) (by kernel_rfl) (by kernel_rfl) (by kernel_rfl) (by rw [b_neqS]; simp)) hH ?_
                        try simp only [pA, pB, p1, p2, p3]
                        refine aT (i := 31) (oi := { dst := some 215, op := Op.pick (Operand.tmp 199) (Operand.const (Value.bool true)) (Operand.tmp 214), type := 4, pos := "law.go:141", after := #[{ on := 15, ground := Ground.data }, { on := 30, ground := Ground.data }, { on := 3, ground := Ground.guard }], guard := some (3, true) }) (v := .bool false) (fun _ _ => by kernel_rfl) hH ?_
                        try simp only [pA, pB, p1, p2, p3]
                        refine aT (i := 32) (oi := { dst := some 216, op := Op.pick (Operand.tmp 187) (Operand.tmp 215) (Operand.const (Value.bool false)), type := 4, pos := "law.go:141", after := #[{ on := 3, ground := Ground.data }, { on := 31, ground := Ground.data }], guard := none }) (v := .bool false) (fun _ _ => by kernel_rfl) hH ?_
                        try simp only [pA, pB, p1, p2, p3]
                        refine wpAnyH_done (by kernel_rfl) ?_ _
                        try simp only [pA, pB, p1, p2, p3]
                        clear hH
                        clear HS HCl0 HC20 HCa0 HCb0
                        have HS : Hid (Kept No w_60 w_60) := Kept.refl _ _
                        have HCl0 : Hid (w_60.cell? ⟨gk, 0 + i * 1, none⟩ = some (.slice (some ⟨gi, 0, none⟩) vs.length c)) := HCl
                        have HC20 : Hid (w_60.cell? ⟨gl, 0 + i * 1, none⟩ = some (.slice (some ⟨gj, 0, none⟩) (vs.length + 71) c2)) := HC2
                        have HCa0 : Hid (w_60.cell? ⟨gi, 0 + j * 1, none⟩ = some (strV (kB i))) := HCa
                        have HCb0 : Hid (w_60.cell? ⟨gj, 0 + j * 1, none⟩ = some (strV (kB i))) := HCb
                        go_upto_region 42 with fail
                        have HF : Hid (K3 w w_60.drew n0 gk kc N V0 b3 (some ⟨gl, 0, none⟩) lc N N X) := HF.out.no (Kept.refl No _).drew
                        have HCl : Hid (w_60.drew.cell? ⟨gk, 0 + i * 1, none⟩ = some (.slice (some ⟨gi, 0, none⟩) vs.length c)) := (Kept.refl No _).drew.cell HCl.out (fun e => e)
                        have HC2 : Hid (w_60.drew.cell? ⟨gl, 0 + i * 1, none⟩ = some (.slice (some ⟨gj, 0, none⟩) (vs.length + 71) c2)) := (Kept.refl No _).drew.cell HC2.out (fun e => e)
                        have HCa : Hid (w_60.drew.cell? ⟨gi, 0 + j * 1, none⟩ = some (strV (kB i))) := (Kept.refl No _).drew.cell HCa.out (fun e => e)
                        have HCb : Hid (w_60.drew.cell? ⟨gj, 0 + j * 1, none⟩ = some (strV (kB i))) := (Kept.refl No _).drew.cell HCb.out (fun e => e)
                        have HS : Hid (Kept No w_60 w_60.drew) := HS.out.then (Kept.refl No _).drew
                        refine wp_region_held_drew (S := fun w' => Kept No w_60 w') rfl HS.out (fun hH => ?_)
                        generalize w_60.drew = wk62 at HF HCl HC2 HCa HCb HS hH ⊢
                        refine aT (i := 0) (oi := { dst := some 217, op := Op.move (Operand.tmp 22), type := 3, pos := "law.go:144", after := #[], guard := none }) (v := .int .i64 ((j : Nat) : Int)) (fun _ _ => by kernel_rfl) hH ?_
                        try simp only [pA, pB, p1, p2, p3]
                        refine aT (i := 1) (oi := { dst := some 218, op := Op.move (Operand.tmp 21), type := 3, pos := "law.go:144", after := #[], guard := none }) (v := .int .i64 ((vs.length : Nat) : Int)) (fun _ _ => by kernel_rfl) hH ?_
                        try simp only [pA, pB, p1, p2, p3]
                        refine aT (i := 2) (oi := { dst := some 219, op := Op.binOp BinOp.geq 3 (Operand.tmp 217) (Operand.tmp 218) 3, type := 4, pos := "law.go:144", after := #[{ on := 0, ground := Ground.data }, { on := 1, ground := Ground.data }], guard := none }) (v := .bool false) (fun w' hw => exec_bin .geq 3 _ _ _ rfl (.int .i64 ((j : Nat) : Int)) (.int .i64 ((vs.length : Nat) : Int)) (.bool false) (by kernel_rfl) (by kernel_rfl) (by kernel_rfl) (by rw [b_geq, decide_eq_false hcg3])) hH ?_
                        try simp only [pA, pB, p1, p2, p3]
                        refine aT (i := 3) (oi := { dst := some 220, op := Op.move (Operand.tmp 219), type := 4, pos := "law.go:144", after := #[{ on := 2, ground := Ground.data }], guard := none }) (v := .bool false) (fun _ _ => by kernel_rfl) hH ?_
                        try simp only [pA, pB, p1, p2, p3]
                        refine aS (i := 4) (oi := { dst := some 221, op := Op.move (Operand.tmp 6), type := 35, pos := "law.go:144", after := #[{ on := 3, ground := Ground.guard }], guard := some (3, true) }) hH ?_
                        try simp only [pA, pB, p1, p2, p3]
                        refine aS (i := 5) (oi := { dst := some 222, op := Op.move (Operand.tmp 20), type := 3, pos := "law.go:144", after := #[{ on := 3, ground := Ground.guard }], guard := some (3, true) }) hH ?_
                        try simp only [pA, pB, p1, p2, p3]
                        refine aS (i := 6) (oi := { dst := some 223, op := Op.indexAddr 35 (Operand.tmp 221) (Operand.tmp 222), type := 0, pos := "law.go:144", after := #[{ on := 4, ground := Ground.data }, { on := 5, ground := Ground.data }, { on := 3, ground := Ground.guard }], guard := some (3, true) }) hH ?_
                        try simp only [pA, pB, p1, p2, p3]
                        refine aS (i := 7) (oi := { dst := some 224, op := Op.load 22 (Operand.tmp 223), type := 22, pos := "law.go:144", after := #[{ on := 6, ground := Ground.data }, { on := 3, ground := Ground.guard }], guard := some (3, true) }) hH ?_
                        try simp only [pA, pB, p1, p2, p3]
                        refine aS (i := 8) (oi := { dst := some 225, op := Op.move (Operand.tmp 22), type := 3, pos := "law.go:144", after := #[{ on := 3, ground := Ground.guard }], guard := some (3, true) }) hH ?_
                        try simp only [pA, pB, p1, p2, p3]
                        refine aS (i := 9) (oi := { dst := some 226, op := Op.indexAddr 22 (Operand.tmp 224) (Operand.tmp 225), type := 0, pos := "law.go:144", after := #[{ on := 7, ground := Ground.data }, { on := 8, ground := Ground.data }, { on := 3, ground := Ground.guard }], guard := some (3, true) }) hH ?_
                        try simp only [pA, pB, p1, p2, p3]
                        refine aS (i := 10) (oi := { dst := some 227, op := Op.load 9 (Operand.tmp 226), type := 9, pos := "law.go:144", after := #[{ on := 9, ground := Ground.data }, { on := 3, ground := Ground.guard }], guard := some (3, true) }) hH ?_
                        try simp only [pA, pB, p1, p2, p3]
                        refine aS (i := 11) (oi := { dst := some 228, op := Op.move (Operand.tmp 20), type := 3, pos := "law.go:144", after := #[{ on := 3, ground := Ground.guard }], guard := some (3, true) }) hH ?_
                        try simp only [pA, pB, p1, p2, p3]
                        refine aS (i := 12) (oi := { dst := some 229, op := Op.call { callee := Callee.value (Operand.func 12), args := #[Operand.tmp 228], argTypes := #[3] }, type := 9, pos := "law.go:144", after := #[{ on := 11, ground := Ground.data }, { on := 3, ground := Ground.chain }, { on := 3, ground := Ground.guard }], guard := some (3, true) }) hH ?_
                        try simp only [pA, pB, p1, p2, p3]
                        refine aS (i := 13) (oi := { dst := some 230, op := Op.binOp BinOp.add 9 (Operand.const (Value.string { data := #[109, 111, 114, 101, 32] })) (Operand.tmp 229) 9, type := 9, pos := "law.go:144", after := #[{ on := 12, ground := Ground.data }, { on := 3, ground := Ground.guard }], guard := some (3, true) }) hH ?_
                        try simp only [pA, pB, p1, p2, p3]
                        refine aS (i := 14) (oi := { dst := some 231, op := Op.binOp BinOp.neq 9 (Operand.tmp 227) (Operand.tmp 230) 9, type := 4, pos := "law.go:144", after := #[{ on := 10, ground := Ground.data }, { on := 13, ground := Ground.data }, { on := 3, ground := Ground.guard }], guard := some (3, true) }) hH ?_
                        try simp only [pA, pB, p1, p2, p3]
                        refine aT (i := 15) (oi := { dst := some 232, op := Op.pick (Operand.tmp 220) (Operand.tmp 231) (Operand.const (Value.bool false)), type := 4, pos := "law.go:144", after := #[{ on := 3, ground := Ground.data }, { on := 14, ground := Ground.data }], guard := none }) (v := .bool false) (fun _ _ => by kernel_rfl) hH ?_
                        try simp only [pA, pB, p1, p2, p3]
                        refine wpAnyH_done (by kernel_rfl) ?_ _
                        try simp only [pA, pB, p1, p2, p3]
                        clear hH
                        clear HS HCl0 HC20 HCa0 HCb0
                        go_upto_region 39 with fail
                        refine WL.start ?_
                        refine tK (.int .i64 ((j : Nat) : Int)) ?_
                        try simp only [pA, pB, p1, p2, p3]
                        refine tW (.int .i64 ((j + 1 : Nat) : Int)) (exec_bin .add 3 _ _ _ rfl (.int .i64 ((j : Nat) : Int)) (.int .i64 1) (.int .i64 ((j + 1 : Nat) : Int)) (by kernel_rfl) (by kernel_rfl) (by kernel_rfl) (b_add1 j (by have := HI.out; omega) _)) ?_
                        try simp only [pA, pB, p1, p2, p3]
                        refine tK (.int .i64 ((j + 1 : Nat) : Int)) ?_
                        try simp only [pA, pB, p1, p2, p3]
                        refine WL.nil ?_
                        try simp only [pA, pB, p1, p2, p3]
                        go_wp2
                        go_roundw
                        case rel => exact ⟨j + 1, by go_num, HPj.out, HF⟩
                        case measure => have := HPj.out; simp [intOf]; omega
                      · skip
                        have hcq3 : ¬ ((j : Nat) : Int) < ((vs.length : Nat) : Int) := by omega
                        have hcg3 : ((vs.length : Nat) : Int) ≤ ((j : Nat) : Int) := by omega
                        have hva : vs2[j]? = some (strV (mB i)) := by rw [HG.out, List.getElem?_append_right (by omega), List.getElem?_replicate, if_pos (by omega)]
                        have HCb : Hid (wr.cell? ⟨gj, 0 + j * 1, none⟩ = some (strV (mB i))) := (HF.out.ks.ok i _ HXi.out).own2.cellAt (i := 0 + j * 1) (by rw [Nat.zero_add, Nat.mul_one]; exact hva)
                        have HPp : Hid (i < N ∧ j < vs.length + 71) := ⟨HPi.out, hp⟩
                        clear hva
                        have HPz : Hid (j < 1000000000000) := show j < 1000000000000 by have := HVz.out; omega
                        have HI : Hid (i ≤ 8193 ∧ i < N ∧ j < 1000000000000) := ⟨HI.out.1, HI.out.2, HPz.out⟩
                        clear hq hp
                        go_upto_region 38 with fail
                        refine WL.start ?_
                        refine tK (.int .i64 ((j : Nat) : Int)) ?_
                        try simp only [pA, pB, p1, p2, p3]
                        refine tK (.slice (some ⟨gl, 0, none⟩) N lc) ?_
                        try simp only [pA, pB, p1, p2, p3]
                        refine tK (.int .i64 ((i : Nat) : Int)) ?_
                        try simp only [pA, pB, p1, p2, p3]
                        refine tW (.pointer (some ⟨gl, 0 + i * 1, none⟩)) (exec_ixA 35 1 E35 F35 _ _ rfl gl 0 N lc i (by kernel_rfl) (by kernel_rfl) (by have := HPp.out; omega)) ?_
                        try simp only [pA, pB, p1, p2, p3]
                        refine tW (.slice (some ⟨gj, 0, none⟩) (vs.length + 71) c2) (exec_load 22 _ rfl ⟨gl, 0 + i * 1, none⟩ (by kernel_rfl) (.slice (some ⟨gj, 0, none⟩) (vs.length + 71) c2) (load_one HC2.out U22 rfl)) ?_
                        try simp only [pA, pB, p1, p2, p3]
                        refine tK (.int .i64 (((vs.length + 71) : Nat) : Int)) ?_
                        try simp only [pA, pB, p1, p2, p3]
                        refine tW (.bool (decide (((j : Nat) : Int) < (((vs.length + 71) : Nat) : Int)))) (exec_bin .lss 3 _ _ _ rfl (.int .i64 ((j : Nat) : Int)) (.int .i64 (((vs.length + 71) : Nat) : Int)) (.bool (decide (((j : Nat) : Int) < (((vs.length + 71) : Nat) : Int)))) (by kernel_rfl) (by kernel_rfl) (by kernel_rfl) (b_lss _ _ _)) ?_
                        try simp only [pA, pB, p1, p2, p3]
                        refine WL.nil ?_
                        try simp only [pA, pB, p1, p2, p3]
                        have HS : Hid (Kept No wr wr) := Kept.refl _ _
                        have HCl0 : Hid (wr.cell? ⟨gk, 0 + i * 1, none⟩ = some (.slice a vs.length c)) := HCl
                        have HC20 : Hid (wr.cell? ⟨gl, 0 + i * 1, none⟩ = some (.slice (some ⟨gj, 0, none⟩) (vs.length + 71) c2)) := HC2
                        have HCb0 : Hid (wr.cell? ⟨gj, 0 + j * 1, none⟩ = some (strV (mB i))) := HCb
                        go_upto_region 40 with fail
                        have HF : Hid (K3 w wr.drew n0 gk kc N V0 b3 (some ⟨gl, 0, none⟩) lc N N X) := HF.out.no (Kept.refl No _).drew
                        have HCl : Hid (wr.drew.cell? ⟨gk, 0 + i * 1, none⟩ = some (.slice a vs.length c)) := (Kept.refl No _).drew.cell HCl.out (fun e => e)
                        have HC2 : Hid (wr.drew.cell? ⟨gl, 0 + i * 1, none⟩ = some (.slice (some ⟨gj, 0, none⟩) (vs.length + 71) c2)) := (Kept.refl No _).drew.cell HC2.out (fun e => e)
                        have HCb : Hid (wr.drew.cell? ⟨gj, 0 + j * 1, none⟩ = some (strV (mB i))) := (Kept.refl No _).drew.cell HCb.out (fun e => e)
                        have HS : Hid (Kept No wr wr.drew) := HS.out.then (Kept.refl No _).drew
                        refine wp_region_held_drew (S := fun w' => Kept No wr w') rfl HS.out (fun hH => ?_)
                        generalize wr.drew = wk63 at HF HCl HC2 HCb HS hH ⊢
                        refine aT (i := 0) (oi := { dst := some 184, op := Op.move (Operand.tmp 22), type := 3, pos := "law.go:141", after := #[], guard := none }) (v := .int .i64 ((j : Nat) : Int)) (fun _ _ => by kernel_rfl) hH ?_
                        try simp only [pA, pB, p1, p2, p3]
                        refine aT (i := 1) (oi := { dst := some 185, op := Op.move (Operand.tmp 21), type := 3, pos := "law.go:141", after := #[], guard := none }) (v := .int .i64 ((vs.length : Nat) : Int)) (fun _ _ => by kernel_rfl) hH ?_
                        try simp only [pA, pB, p1, p2, p3]
                        refine aT (i := 2) (oi := { dst := some 186, op := Op.binOp BinOp.lss 3 (Operand.tmp 184) (Operand.tmp 185) 3, type := 4, pos := "law.go:141", after := #[{ on := 0, ground := Ground.data }, { on := 1, ground := Ground.data }], guard := none }) (v := .bool false) (fun w' hw => exec_bin .lss 3 _ _ _ rfl (.int .i64 ((j : Nat) : Int)) (.int .i64 ((vs.length : Nat) : Int)) (.bool false) (by kernel_rfl) (by kernel_rfl) (by kernel_rfl) (by rw [b_lss, decide_eq_false hcq3])) hH ?_
                        try simp only [pA, pB, p1, p2, p3]
                        refine aT (i := 3) (oi := { dst := some 187, op := Op.move (Operand.tmp 186), type := 4, pos := "law.go:141", after := #[{ on := 2, ground := Ground.data }], guard := none }) (v := .bool false) (fun _ _ => by kernel_rfl) hH ?_
                        try simp only [pA, pB, p1, p2, p3]
                        refine aS (i := 4) (oi := { dst := some 188, op := Op.move (Operand.tmp 5), type := 35, pos := "law.go:141", after := #[{ on := 3, ground := Ground.guard }], guard := some (3, true) }) hH ?_
                        try simp only [pA, pB, p1, p2, p3]
                        refine aS (i := 5) (oi := { dst := some 189, op := Op.move (Operand.tmp 20), type := 3, pos := "law.go:141", after := #[{ on := 3, ground := Ground.guard }], guard := some (3, true) }) hH ?_
                        try simp only [pA, pB, p1, p2, p3]
                        refine aS (i := 6) (oi := { dst := some 190, op := Op.indexAddr 35 (Operand.tmp 188) (Operand.tmp 189), type := 0, pos := "law.go:141", after := #[{ on := 4, ground := Ground.data }, { on := 5, ground := Ground.data }, { on := 3, ground := Ground.guard }], guard := some (3, true) }) hH ?_
                        try simp only [pA, pB, p1, p2, p3]
                        refine aS (i := 7) (oi := { dst := some 191, op := Op.load 22 (Operand.tmp 190), type := 22, pos := "law.go:141", after := #[{ on := 6, ground := Ground.data }, { on := 3, ground := Ground.guard }], guard := some (3, true) }) hH ?_
                        try simp only [pA, pB, p1, p2, p3]
                        refine aS (i := 8) (oi := { dst := some 192, op := Op.move (Operand.tmp 22), type := 3, pos := "law.go:141", after := #[{ on := 3, ground := Ground.guard }], guard := some (3, true) }) hH ?_
                        try simp only [pA, pB, p1, p2, p3]
                        refine aS (i := 9) (oi := { dst := some 193, op := Op.indexAddr 22 (Operand.tmp 191) (Operand.tmp 192), type := 0, pos := "law.go:141", after := #[{ on := 7, ground := Ground.data }, { on := 8, ground := Ground.data }, { on := 3, ground := Ground.guard }], guard := some (3, true) }) hH ?_
                        try simp only [pA, pB, p1, p2, p3]
                        refine aS (i := 10) (oi := { dst := some 194, op := Op.load 9 (Operand.tmp 193), type := 9, pos := "law.go:141", after := #[{ on := 9, ground := Ground.data }, { on := 3, ground := Ground.guard }], guard := some (3, true) }) hH ?_
                        try simp only [pA, pB, p1, p2, p3]
                        refine aS (i := 11) (oi := { dst := some 195, op := Op.move (Operand.tmp 20), type := 3, pos := "law.go:141", after := #[{ on := 3, ground := Ground.guard }], guard := some (3, true) }) hH ?_
                        try simp only [pA, pB, p1, p2, p3]
                        refine aS (i := 12) (oi := { dst := some 196, op := Op.call { callee := Callee.value (Operand.func 12), args := #[Operand.tmp 195], argTypes := #[3] }, type := 9, pos := "law.go:141", after := #[{ on := 11, ground := Ground.data }, { on := 3, ground := Ground.chain }, { on := 3, ground := Ground.guard }], guard := some (3, true) }) hH ?_
                        try simp only [pA, pB, p1, p2, p3]
                        refine aS (i := 13) (oi := { dst := some 197, op := Op.binOp BinOp.add 9 (Operand.const (Value.string { data := #[107, 101, 112, 116, 32] })) (Operand.tmp 196) 9, type := 9, pos := "law.go:141", after := #[{ on := 12, ground := Ground.data }, { on := 3, ground := Ground.guard }], guard := some (3, true) }) hH ?_
                        try simp only [pA, pB, p1, p2, p3]
                        refine aS (i := 14) (oi := { dst := some 198, op := Op.binOp BinOp.neq 9 (Operand.tmp 194) (Operand.tmp 197) 9, type := 4, pos := "law.go:141", after := #[{ on := 10, ground := Ground.data }, { on := 13, ground := Ground.data }, { on := 3, ground := Ground.guard }], guard := some (3, true) }) hH ?_
                        try simp only [pA, pB, p1, p2, p3]
                        refine aS (i := 15) (oi := { dst := some 199, op := Op.move (Operand.tmp 198), type := 4, pos := "law.go:141", after := #[{ on := 14, ground := Ground.data }, { on := 12, ground := Ground.chain }, { on := 3, ground := Ground.guard }], guard := some (3, true) }) hH ?_
                        try simp only [pA, pB, p1, p2, p3]
                        refine aS (i := 16) (oi := { dst := some 200, op := Op.move (Operand.tmp 6), type := 35, pos := "law.go:141", after := #[{ on := 15, ground := Ground.guard }], guard := some (15, false) }) hH ?_
                        try simp only [pA, pB, p1, p2, p3]
                        refine aS (i := 17) (oi := { dst := some 201, op := Op.move (Operand.tmp 20), type := 3, pos := "law.go:141", after := #[{ on := 15, ground := Ground.guard }], guard := some (15, false) }) hH ?_
                        try simp only [pA, pB, p1, p2, p3]
                        refine aS (i := 18) (oi := { dst := some 202, op := Op.indexAddr 35 (Operand.tmp 200) (Operand.tmp 201), type := 0, pos := "law.go:141", after := #[{ on := 16, ground := Ground.data }, { on := 17, ground := Ground.data }, { on := 15, ground := Ground.guard }], guard := some (15, false) }) hH ?_
                        try simp only [pA, pB, p1, p2, p3]
                        refine aS (i := 19) (oi := { dst := some 203, op := Op.load 22 (Operand.tmp 202), type := 22, pos := "law.go:141", after := #[{ on := 18, ground := Ground.data }, { on := 15, ground := Ground.guard }], guard := some (15, false) }) hH ?_
                        try simp only [pA, pB, p1, p2, p3]
                        refine aS (i := 20) (oi := { dst := some 204, op := Op.move (Operand.tmp 22), type := 3, pos := "law.go:141", after := #[{ on := 15, ground := Ground.guard }], guard := some (15, false) }) hH ?_
                        try simp only [pA, pB, p1, p2, p3]
                        refine aS (i := 21) (oi := { dst := some 205, op := Op.indexAddr 22 (Operand.tmp 203) (Operand.tmp 204), type := 0, pos := "law.go:141", after := #[{ on := 19, ground := Ground.data }, { on := 20, ground := Ground.data }, { on := 15, ground := Ground.guard }], guard := some (15, false) }) hH ?_
                        try simp only [pA, pB, p1, p2, p3]
                        refine aS (i := 22) (oi := { dst := some 206, op := Op.load 9 (Operand.tmp 205), type := 9, pos := "law.go:141", after := #[{ on := 21, ground := Ground.data }, { on := 15, ground := Ground.guard }], guard := some (15, false) }) hH ?_
                        try simp only [pA, pB, p1, p2, p3]
                        refine aS (i := 23) (oi := { dst := some 207, op := Op.move (Operand.tmp 5), type := 35, pos := "law.go:141", after := #[{ on := 15, ground := Ground.guard }], guard := some (15, false) }) hH ?_
                        try simp only [pA, pB, p1, p2, p3]
                        refine aS (i := 24) (oi := { dst := some 208, op := Op.move (Operand.tmp 20), type := 3, pos := "law.go:141", after := #[{ on := 15, ground := Ground.guard }], guard := some (15, false) }) hH ?_
                        try simp only [pA, pB, p1, p2, p3]
                        refine aS (i := 25) (oi := { dst := some 209, op := Op.indexAddr 35 (Operand.tmp 207) (Operand.tmp 208), type := 0, pos := "law.go:141", after := #[{ on := 23, ground := Ground.data }, { on := 24, ground := Ground.data }, { on := 15, ground := Ground.guard }], guard := some (15, false) }) hH ?_
                        try simp only [pA, pB, p1, p2, p3]
                        refine aS (i := 26) (oi := { dst := some 210, op := Op.load 22 (Operand.tmp 209), type := 22, pos := "law.go:141", after := #[{ on := 25, ground := Ground.data }, { on := 15, ground := Ground.guard }], guard := some (15, false) }) hH ?_
                        try simp only [pA, pB, p1, p2, p3]
                        refine aS (i := 27) (oi := { dst := some 211, op := Op.move (Operand.tmp 22), type := 3, pos := "law.go:141", after := #[{ on := 15, ground := Ground.guard }], guard := some (15, false) }) hH ?_
                        try simp only [pA, pB, p1, p2, p3]
                        refine aS (i := 28) (oi := { dst := some 212, op := Op.indexAddr 22 (Operand.tmp 210) (Operand.tmp 211), type := 0, pos := "law.go:141", after := #[{ on := 26, ground := Ground.data }, { on := 27, ground := Ground.data }, { on := 15, ground := Ground.guard }], guard := some (15, false) }) hH ?_
                        try simp only [pA, pB, p1, p2, p3]
                        refine aS (i := 29) (oi := { dst := some 213, op := Op.load 9 (Operand.tmp 212), type := 9, pos := "law.go:141", after := #[{ on := 28, ground := Ground.data }, { on := 15, ground := Ground.guard }], guard := some (15, false) }) hH ?_
                        try simp only [pA, pB, p1, p2, p3]
                        refine aS (i := 30) (oi := { dst := some 214, op := Op.binOp BinOp.neq 9 (Operand.tmp 206) (Operand.tmp 213) 9, type := 4, pos := "law.go:141", after := #[{ on := 22, ground := Ground.data }, { on := 29, ground := Ground.data }, { on := 15, ground := Ground.guard }], guard := some (15, false) }) hH ?_
                        try simp only [pA, pB, p1, p2, p3]
                        refine aS (i := 31) (oi := { dst := some 215, op := Op.pick (Operand.tmp 199) (Operand.const (Value.bool true)) (Operand.tmp 214), type := 4, pos := "law.go:141", after := #[{ on := 15, ground := Ground.data }, { on := 30, ground := Ground.data }, { on := 3, ground := Ground.guard }], guard := some (3, true) }) hH ?_
                        try simp only [pA, pB, p1, p2, p3]
                        refine aT (i := 32) (oi := { dst := some 216, op := Op.pick (Operand.tmp 187) (Operand.tmp 215) (Operand.const (Value.bool false)), type := 4, pos := "law.go:141", after := #[{ on := 3, ground := Ground.data }, { on := 31, ground := Ground.data }], guard := none }) (v := .bool false) (fun _ _ => by kernel_rfl) hH ?_
                        try simp only [pA, pB, p1, p2, p3]
                        refine wpAnyH_done (by kernel_rfl) ?_ _
                        try simp only [pA, pB, p1, p2, p3]
                        clear hH
                        clear HS HCl0 HC20 HCb0
                        have HS : Hid (Kept No wk63 wk63) := Kept.refl _ _
                        have HCl0 : Hid (wk63.cell? ⟨gk, 0 + i * 1, none⟩ = some (.slice a vs.length c)) := HCl
                        have HC20 : Hid (wk63.cell? ⟨gl, 0 + i * 1, none⟩ = some (.slice (some ⟨gj, 0, none⟩) (vs.length + 71) c2)) := HC2
                        have HCb0 : Hid (wk63.cell? ⟨gj, 0 + j * 1, none⟩ = some (strV (mB i))) := HCb
                        go_upto_region 42 with fail
                        have HF : Hid (K3 w wk63.drew n0 gk kc N V0 b3 (some ⟨gl, 0, none⟩) lc N N X) := HF.out.no (Kept.refl No _).drew
                        have HCl : Hid (wk63.drew.cell? ⟨gk, 0 + i * 1, none⟩ = some (.slice a vs.length c)) := (Kept.refl No _).drew.cell HCl.out (fun e => e)
                        have HC2 : Hid (wk63.drew.cell? ⟨gl, 0 + i * 1, none⟩ = some (.slice (some ⟨gj, 0, none⟩) (vs.length + 71) c2)) := (Kept.refl No _).drew.cell HC2.out (fun e => e)
                        have HCb : Hid (wk63.drew.cell? ⟨gj, 0 + j * 1, none⟩ = some (strV (mB i))) := (Kept.refl No _).drew.cell HCb.out (fun e => e)
                        have HS : Hid (Kept No wk63 wk63.drew) := HS.out.then (Kept.refl No _).drew
                        refine wp_region_held_drew (S := fun w' => Kept No wk63 w') rfl HS.out (fun hH => ?_)
                        generalize wk63.drew = wk64 at HF HCl HC2 HCb HS hH ⊢
                        refine aT (i := 0) (oi := { dst := some 217, op := Op.move (Operand.tmp 22), type := 3, pos := "law.go:144", after := #[], guard := none }) (v := .int .i64 ((j : Nat) : Int)) (fun _ _ => by kernel_rfl) hH ?_
                        try simp only [pA, pB, p1, p2, p3]
                        refine aT (i := 1) (oi := { dst := some 218, op := Op.move (Operand.tmp 21), type := 3, pos := "law.go:144", after := #[], guard := none }) (v := .int .i64 ((vs.length : Nat) : Int)) (fun _ _ => by kernel_rfl) hH ?_
                        try simp only [pA, pB, p1, p2, p3]
                        refine aT (i := 2) (oi := { dst := some 219, op := Op.binOp BinOp.geq 3 (Operand.tmp 217) (Operand.tmp 218) 3, type := 4, pos := "law.go:144", after := #[{ on := 0, ground := Ground.data }, { on := 1, ground := Ground.data }], guard := none }) (v := .bool true) (fun w' hw => exec_bin .geq 3 _ _ _ rfl (.int .i64 ((j : Nat) : Int)) (.int .i64 ((vs.length : Nat) : Int)) (.bool true) (by kernel_rfl) (by kernel_rfl) (by kernel_rfl) (by rw [b_geq, decide_eq_true hcg3])) hH ?_
                        try simp only [pA, pB, p1, p2, p3]
                        refine aT (i := 3) (oi := { dst := some 220, op := Op.move (Operand.tmp 219), type := 4, pos := "law.go:144", after := #[{ on := 2, ground := Ground.data }], guard := none }) (v := .bool true) (fun _ _ => by kernel_rfl) hH ?_
                        try simp only [pA, pB, p1, p2, p3]
                        refine aT (i := 4) (oi := { dst := some 221, op := Op.move (Operand.tmp 6), type := 35, pos := "law.go:144", after := #[{ on := 3, ground := Ground.guard }], guard := some (3, true) }) (v := .slice (some ⟨gl, 0, none⟩) N lc) (fun _ _ => by kernel_rfl) hH ?_
                        try simp only [pA, pB, p1, p2, p3]
                        refine aT (i := 5) (oi := { dst := some 222, op := Op.move (Operand.tmp 20), type := 3, pos := "law.go:144", after := #[{ on := 3, ground := Ground.guard }], guard := some (3, true) }) (v := .int .i64 ((i : Nat) : Int)) (fun _ _ => by kernel_rfl) hH ?_
                        try simp only [pA, pB, p1, p2, p3]
                        refine aT (i := 6) (oi := { dst := some 223, op := Op.indexAddr 35 (Operand.tmp 221) (Operand.tmp 222), type := 0, pos := "law.go:144", after := #[{ on := 4, ground := Ground.data }, { on := 5, ground := Ground.data }, { on := 3, ground := Ground.guard }], guard := some (3, true) }) (v := .pointer (some ⟨gl, 0 + i * 1, none⟩)) (fun w' hw => exec_ixA 35 1 E35 F35 _ _ rfl gl 0 N lc i (by kernel_rfl) (by kernel_rfl) (by have := HPp.out; omega)) hH ?_
                        try simp only [pA, pB, p1, p2, p3]
                        refine aT (i := 7) (oi := { dst := some 224, op := Op.load 22 (Operand.tmp 223), type := 22, pos := "law.go:144", after := #[{ on := 6, ground := Ground.data }, { on := 3, ground := Ground.guard }], guard := some (3, true) }) (v := .slice (some ⟨gj, 0, none⟩) (vs.length + 71) c2) (fun w' hw => exec_load 22 _ rfl ⟨gl, 0 + i * 1, none⟩ (by kernel_rfl) (.slice (some ⟨gj, 0, none⟩) (vs.length + 71) c2) (load_one (hw.cell HC20.out (fun e => e)) U22 rfl)) hH ?_
                        try simp only [pA, pB, p1, p2, p3]
                        refine aT (i := 8) (oi := { dst := some 225, op := Op.move (Operand.tmp 22), type := 3, pos := "law.go:144", after := #[{ on := 3, ground := Ground.guard }], guard := some (3, true) }) (v := .int .i64 ((j : Nat) : Int)) (fun _ _ => by kernel_rfl) hH ?_
                        try simp only [pA, pB, p1, p2, p3]
                        refine aT (i := 9) (oi := { dst := some 226, op := Op.indexAddr 22 (Operand.tmp 224) (Operand.tmp 225), type := 0, pos := "law.go:144", after := #[{ on := 7, ground := Ground.data }, { on := 8, ground := Ground.data }, { on := 3, ground := Ground.guard }], guard := some (3, true) }) (v := .pointer (some ⟨gj, 0 + j * 1, none⟩)) (fun w' hw => exec_ixA 22 1 E22 F22 _ _ rfl gj 0 (vs.length + 71) c2 j (by kernel_rfl) (by kernel_rfl) (by have := HPp.out; omega)) hH ?_
                        try simp only [pA, pB, p1, p2, p3]
                        refine aT (i := 10) (oi := { dst := some 227, op := Op.load 9 (Operand.tmp 226), type := 9, pos := "law.go:144", after := #[{ on := 9, ground := Ground.data }, { on := 3, ground := Ground.guard }], guard := some (3, true) }) (v := .string (bs (mB i))) (fun w' hw => exec_load 9 _ rfl ⟨gj, 0 + j * 1, none⟩ (by kernel_rfl) (.string (bs (mB i))) (load_one (hw.cell HCb0.out (fun e => e)) U9 rfl)) hH ?_
                        try simp only [pA, pB, p1, p2, p3]
                        refine aT (i := 11) (oi := { dst := some 228, op := Op.move (Operand.tmp 20), type := 3, pos := "law.go:144", after := #[{ on := 3, ground := Ground.guard }], guard := some (3, true) }) (v := .int .i64 ((i : Nat) : Int)) (fun _ _ => by kernel_rfl) hH ?_
                        try simp only [pA, pB, p1, p2, p3]
                        refine any_call (i := 12) (o := { dst := some 229, op := Op.call { callee := Callee.value (Operand.func 12), args := #[Operand.tmp 228], argTypes := #[3] }, type := 9, pos := "law.go:144", after := #[{ on := 11, ground := Ground.data }, { on := 3, ground := Ground.chain }, { on := 3, ground := Ground.guard }], guard := some (3, true) }) rfl (by kernel_rfl) (by kernel_rfl) 12 #[.int .i64 ((i : Nat) : Int)] (by kernel_rfl) _ (marked_any i (by have := HI.out; omega) wk64) ?_
                        rintro e w_64 ⟨rfl, hk⟩
                        have HF : Hid (K3 w w_64 n0 gk kc N V0 b3 (some ⟨gl, 0, none⟩) lc N N X) := HF.out.no hk
                        have HCl : Hid (w_64.cell? ⟨gk, 0 + i * 1, none⟩ = some (.slice a vs.length c)) := hk.cell HCl.out (fun e => e)
                        have HC2 : Hid (w_64.cell? ⟨gl, 0 + i * 1, none⟩ = some (.slice (some ⟨gj, 0, none⟩) (vs.length + 71) c2)) := hk.cell HC2.out (fun e => e)
                        have HCb : Hid (w_64.cell? ⟨gj, 0 + j * 1, none⟩ = some (strV (mB i))) := hk.cell HCb.out (fun e => e)
                        have HS : Hid (Kept No wk63 w_64) := HS.out.then hk
                        clear hk
                        refine ⟨.string (bs (mk i)), rfl, HS.out, fun hH => ?_⟩
                        try simp only [pA, pB, p1, p2, p3]
                        refine aT (i := 13) (oi := { dst := some 230, op := Op.binOp BinOp.add 9 (Operand.const (Value.string { data := #[109, 111, 114, 101, 32] })) (Operand.tmp 229) 9, type := 9, pos := "law.go:144", after := #[{ on := 12, ground := Ground.data }, { on := 3, ground := Ground.guard }], guard := some (3, true) }) (v := .string (bs (mB i))) (fun w' hw => exec_bin .add 9 _ _ _ rfl (.string ⟨#[109, 111, 114, 101, 32]⟩) (.string (bs (mk i))) (.string (bs (mB i))) (by kernel_rfl) (by kernel_rfl) (by kernel_rfl) (b_addS [109, 111, 114, 101, 32] (mk i) (by have h1 := HI.out; have h2 := mk_len i; simp; omega) _)) hH ?_
                        try simp only [pA, pB, p1, p2, p3]
                        refine aT (i := 14) (oi := { dst := some 231, op := Op.binOp BinOp.neq 9 (Operand.tmp 227) (Operand.tmp 230) 9, type := 4, pos := "law.go:144", after := #[{ on := 10, ground := Ground.data }, { on := 13, ground := Ground.data }, { on := 3, ground := Ground.guard }], guard := some (3, true) }) (v := .bool false) (fun w' hw => exec_bin .neq 9 _ _ _ rfl (.string (bs (mB i))) (.string (bs (mB i))) (.bool false) (by kernel_rfl) (by kernel_rfl) (by kernel_rfl) (by rw [b_neqS]; simp)) hH ?_
                        try simp only [pA, pB, p1, p2, p3]
                        refine aT (i := 15) (oi := { dst := some 232, op := Op.pick (Operand.tmp 220) (Operand.tmp 231) (Operand.const (Value.bool false)), type := 4, pos := "law.go:144", after := #[{ on := 3, ground := Ground.data }, { on := 14, ground := Ground.data }], guard := none }) (v := .bool false) (fun _ _ => by kernel_rfl) hH ?_
                        try simp only [pA, pB, p1, p2, p3]
                        refine wpAnyH_done (by kernel_rfl) ?_ _
                        try simp only [pA, pB, p1, p2, p3]
                        clear hH
                        clear HS HCl0 HC20 HCb0
                        go_upto_region 39 with fail
                        refine WL.start ?_
                        refine tK (.int .i64 ((j : Nat) : Int)) ?_
                        try simp only [pA, pB, p1, p2, p3]
                        refine tW (.int .i64 ((j + 1 : Nat) : Int)) (exec_bin .add 3 _ _ _ rfl (.int .i64 ((j : Nat) : Int)) (.int .i64 1) (.int .i64 ((j + 1 : Nat) : Int)) (by kernel_rfl) (by kernel_rfl) (by kernel_rfl) (b_add1 j (by have := HI.out; omega) _)) ?_
                        try simp only [pA, pB, p1, p2, p3]
                        refine tK (.int .i64 ((j + 1 : Nat) : Int)) ?_
                        try simp only [pA, pB, p1, p2, p3]
                        refine WL.nil ?_
                        try simp only [pA, pB, p1, p2, p3]
                        go_wp2
                        go_roundw
                        case rel => exact ⟨j + 1, by go_num, HPj.out, HF⟩
                        case measure => have := HPj.out; simp [intOf]; omega
                    · have hcm3 : ¬ ((j : Nat) : Int) < ((vs.length + 71 : Nat) : Int) := by omega
                      go_upto_region 38 with fail
                      refine WL.start ?_
                      refine tK (.int .i64 ((j : Nat) : Int)) ?_
                      try simp only [pA, pB, p1, p2, p3]
                      refine tK (.slice (some ⟨gl, 0, none⟩) N lc) ?_
                      try simp only [pA, pB, p1, p2, p3]
                      refine tK (.int .i64 ((i : Nat) : Int)) ?_
                      try simp only [pA, pB, p1, p2, p3]
                      refine tW (.pointer (some ⟨gl, 0 + i * 1, none⟩)) (exec_ixA 35 1 E35 F35 _ _ rfl gl 0 N lc i (by kernel_rfl) (by kernel_rfl) (by have := HPp.out; omega)) ?_
                      try simp only [pA, pB, p1, p2, p3]
                      refine tW (.slice a2 (vs.length + 71) c2) (exec_load 22 _ rfl ⟨gl, 0 + i * 1, none⟩ (by kernel_rfl) (.slice a2 (vs.length + 71) c2) (load_one HC2.out U22 rfl)) ?_
                      try simp only [pA, pB, p1, p2, p3]
                      refine tK (.int .i64 (((vs.length + 71) : Nat) : Int)) ?_
                      try simp only [pA, pB, p1, p2, p3]
                      refine tW (.bool (decide (((j : Nat) : Int) < (((vs.length + 71) : Nat) : Int)))) (exec_bin .lss 3 _ _ _ rfl (.int .i64 ((j : Nat) : Int)) (.int .i64 (((vs.length + 71) : Nat) : Int)) (.bool (decide (((j : Nat) : Int) < (((vs.length + 71) : Nat) : Int)))) (by kernel_rfl) (by kernel_rfl) (by kernel_rfl) (b_lss _ _ _)) ?_
                      try simp only [pA, pB, p1, p2, p3]
                      refine WL.nil ?_
                      try simp only [pA, pB, p1, p2, p3]
                      go_upto_region 35 with fail
                      refine WL.start ?_
                      refine tK (.int .i64 ((i : Nat) : Int)) ?_
                      try simp only [pA, pB, p1, p2, p3]
                      refine tW (.int .i64 ((i + 1 : Nat) : Int)) (exec_bin .add 3 _ _ _ rfl (.int .i64 ((i : Nat) : Int)) (.int .i64 1) (.int .i64 ((i + 1 : Nat) : Int)) (by kernel_rfl) (by kernel_rfl) (by kernel_rfl) (b_add1 i (by have := HI.out; omega) _)) ?_
                      try simp only [pA, pB, p1, p2, p3]
                      refine tK (.int .i64 ((i + 1 : Nat) : Int)) ?_
                      try simp only [pA, pB, p1, p2, p3]
                      refine WL.nil ?_
                      try simp only [pA, pB, p1, p2, p3]
                      go_wp2
                      go_roundw
                      case rel => exact ⟨i + 1, by go_num, HPi.out, HF⟩
                      case measure => have := HPi.out; simp [intOf]; omega
                · have hcm2 : ¬ ((i : Nat) : Int) < ((N : Nat) : Int) := by omega
                  go_upto_region 34 with fail
                  refine WL.start ?_
                  refine tK (.int .i64 ((i : Nat) : Int)) ?_
                  try simp only [pA, pB, p1, p2, p3]
                  refine tK (.slice (some ⟨gk, 0, none⟩) N kc) ?_
                  try simp only [pA, pB, p1, p2, p3]
                  refine tK (.int .i64 ((N : Nat) : Int)) ?_
                  try simp only [pA, pB, p1, p2, p3]
                  refine tW (.bool false) (exec_bin .lss 3 _ _ _ rfl (.int .i64 ((i : Nat) : Int)) (.int .i64 ((N : Nat) : Int)) (.bool false) (by kernel_rfl) (by kernel_rfl) (by kernel_rfl) (by rw [b_lss, decide_eq_false hcm2])) ?_
                  try simp only [pA, pB, p1, p2, p3]
                  refine WL.nil ?_
                  try simp only [pA, pB, p1, p2, p3]
                  go_upto_region 44 with fail
                  refine WL.start ?_
                  refine tK (.bool true) ?_
                  try simp only [pA, pB, p1, p2, p3]
                  refine WL.nil ?_
                  try simp only [pA, pB, p1, p2, p3]
                  go_wp2
                  rw [HC.out]
                  exact ⟨rfl, HF.out.kept⟩

end Go.Proofs.Ytgnfeegnhdbnkaa
