import Derived.Test.YtgnfeegnhdbnkaaQa
namespace Go.Proofs.Ytgnfeegnhdbnkaa
open Go.RowKit Go.Lib
set_option linter.unusedVariables false
set_option linter.unusedSimpArgs false

theorem not_lohi {c : UInt8} (hlo : ¬ bi c < 32) (hhi : ¬ 126 < bi c) : ¬ (c < 32 ∨ 126 < c) := by
  unfold bi at hlo hhi
  intro h
  rcases h with h | h
  · have h := UInt8.lt_iff_toNat_lt.1 h
    have h : c.toNat < 32 := h
    omega
  · have h := UInt8.lt_iff_toNat_lt.1 h
    have h : 126 < c.toNat := h
    omega
theorem nums_at {w : World} {a : Option Addr} {l : List UInt8} (h : Nums .u8 w a (l.map bi)) {i : Nat} {c : UInt8} (hc : l[i]? = some c) : ∃ g o, a = some ⟨g, o, none⟩ ∧ w.cell? ⟨g, o + i * 1, none⟩ = some (.int .u8 (bi c)) := by
  obtain ⟨hi, hc⟩ := List.getElem?_eq_some_iff.1 hc
  obtain ⟨g, o, e, hx⟩ := h i (by simpa using hi)
  refine ⟨g, o, e, ?_⟩
  rw [Nat.mul_one, hx]
  simp [hi, hc]
set_option maxRecDepth 100000 in
set_option maxHeartbeats 4000000 in
theorem quote_any (a : Option Addr) (l : List UInt8) (cap : Nat) (w : World) (hl : l.length ≤ 100000000000) (hN : Nums .u8 w a (l.map bi)) : Calls Try.prog 10 #[.slice a l.length cap] w (fun e w' => e = .returned (.string (bs (quoteL l))) ∧ Kept No w w') := by
  obtain ⟨C, hC⟩ : ∃ C : Ending → World → Prop, C = (fun e w' => e = .returned (.string (bs (quoteL l))) ∧ Kept No w w') := ⟨_, rfl⟩
  have HC : Hid (C = (fun e w' => e = .returned (.string (bs (quoteL l))) ∧ Kept No w w')) := hC
  rw [← hC]
  clear hC
  have HIn : Hid (Nums .u8 w a (l.map bi)) := hN
  have HLl : Hid (l.length ≤ 100000000000) := hl
  have HK : Hid (Kept No w w) := Kept.refl _ _
  obtain ⟨n0, hn0⟩ : ∃ n, n = w.heap.size := ⟨_, rfl⟩
  have HN0 : Hid (n0 = w.heap.size) := hn0
  have HL : Hid (n0 ≤ w.heap.size) := show n0 ≤ w.heap.size by omega
  clear hl hN hn0
  go_enter Try.func10, Try.ntmps10
  go_upto_region 0 with fail
  refine WL.start ?_
  refine tK (.string ⟨#[]⟩) ?_
  try simp only [pA, pB, p1, p2, p3]
  refine WL.nil ?_
  try simp only [pA, pB, p1, p2, p3]
  go_upto_region 1 with fail
  refine WL.start ?_
  have HG : Hid (n0 ≤ w.heap.size) := Nat.le_trans HL.out HK.out.size
  have HK : Hid (Kept No w (w.alloc (.cells [.int .u8 34].toArray 5))) := HK.out.alloc _
  have HX : Hid (Box (w.alloc (.cells [.int .u8 34].toArray 5)) w.heap.size 5 [.int .u8 34].toArray) := Box.new _ _ _
  refine wp_runW (.slice (some ⟨w.heap.size, 0, none⟩) 1 1) (w.alloc (.cells [.int .u8 34].toArray 5)) (exec_built (by kernel_rfl)) (by kernel_rfl) ?_
  try simp only [pA, pB, p1, p2, p3]
  generalize w.alloc (.cells [.int .u8 34].toArray 5) = wk1 at HK HX ⊢
  generalize w.heap.size = gk2 at HX HG ⊢
  refine tK (.slice (some ⟨gk2, 0, none⟩) 1 1) ?_
  try simp only [pA, pB, p1, p2, p3]
  refine WL.nil ?_
  try simp only [pA, pB, p1, p2, p3]
  skip
  go_wp2
  have HY : Hid (Own 5 1 wk1 n0 (some ⟨gk2, 0, none⟩) 1 1 [u8V 34]) := Own.of_box HX.out HG.out (by decide)
  go_loopw [3, 9] (fun v3 v9 wr => ∃ (i : Nat) (a3 : Option Addr) (c3 : Nat) (m : List UInt8), v3 = .slice a3 m.length c3 ∧ v9 = .int .i64 ((i : Nat) : Int) ∧ i ≤ l.length ∧ Hid (m = quoteH (l.take i)) ∧ Hid (Own 5 1 wr n0 a3 c3 m.length (m.map u8V)) ∧ Hid (Kept No w wr)) (fun _ v9 _ => l.length - (intOf v9).toNat)
  case atStart => exact ⟨0, _, _, [34], rfl, by go_num, by omega, rfl, HY, HK⟩
  case round =>
    clear HY HK HX HG
    obtain ⟨i, a3, c3, m, rfl, rfl, hi, HM, HY, HK⟩ := hrel
    have HMl : Hid (m.length ≤ 400000000001) := by
      show m.length ≤ _
      rw [HM.out]
      have h1 := flat_len (l.take i)
      have h2 := HLl.out
      simp only [quoteH, List.length_cons]
      rw [List.length_take] at h1
      omega
    have HI : Hid (i ≤ l.length ∧ l.length ≤ 100000000000) := ⟨hi, HLl.out⟩
    by_cases hp : i < l.length
    · have hcm : ((i : Nat) : Int) < ((l.length : Nat) : Int) := by omega
      have HPp : Hid (i < l.length) := hp
      obtain ⟨c, hcc⟩ : ∃ c, l[i]? = some c := ⟨_, List.getElem?_eq_getElem hp⟩
      have HCc : Hid (l[i]? = some c) := hcc
      obtain ⟨gb, ob, ha, hld⟩ := nums_at (HIn.out.no HK.out) hcc
      subst ha
      have HLd : Hid (wr.cell? ⟨gb, ob + i * 1, none⟩ = some (.int .u8 (bi c))) := hld
      clear hcc hld hi
      by_cases a34 : bi c = 34
      · have hc34 : c = 34 := bi_inj a34
        have e34 : (bi c == 34) = true := by simp [a34]
        have HQ : Hid (qB c = [92, c]) := by show _ = _; unfold qB; rw [if_pos (Or.inl hc34)]
        clear a34 hc34
        go_upto_region 3 with fail
        refine WL.start ?_
        refine tW (.bool true) (exec_bin .lss 3 _ _ _ rfl (.int .i64 ((i : Nat) : Int)) (.int .i64 ((l.length : Nat) : Int)) (.bool true) (by kernel_rfl) (by kernel_rfl) (by kernel_rfl) (by rw [b_lss, decide_eq_true hcm])) ?_
        try simp only [pA, pB, p1, p2, p3]
        refine WL.nil ?_
        try simp only [pA, pB, p1, p2, p3]
        go_upto_region 4 with fail
        refine WL.start ?_
        refine tW (.pointer (some ⟨gb, ob + i * 1, none⟩)) (exec_ixA 30 1 E30 F30 _ _ rfl gb ob l.length cap i (by kernel_rfl) (by kernel_rfl) (by omega)) ?_
        try simp only [pA, pB, p1, p2, p3]
        refine tW (.int .u8 (bi c)) (exec_load 5 _ rfl ⟨gb, ob + i * 1, none⟩ (by kernel_rfl) (.int .u8 (bi c)) (load_one HLd.out U5 rfl)) ?_
        try simp only [pA, pB, p1, p2, p3]
        refine tK (.int .u8 (bi c)) ?_
        try simp only [pA, pB, p1, p2, p3]
        refine WL.nil ?_
        try simp only [pA, pB, p1, p2, p3]
        go_upto_region 6 with fail
        refine WL.start ?_
        refine tK (.int .u8 (bi c)) ?_
        try simp only [pA, pB, p1, p2, p3]
        refine tW (.bool true) (exec_bin .eql 5 _ _ _ rfl (.int .u8 (bi c)) (.int .u8 34) (.bool true) (by kernel_rfl) (by kernel_rfl) (by kernel_rfl) (by rw [b_eq5, e34])) ?_
        try simp only [pA, pB, p1, p2, p3]
        refine tK (.bool true) ?_
        try simp only [pA, pB, p1, p2, p3]
        refine sK ?_
        try simp only [pA, pB, p1, p2, p3]
        refine sK ?_
        try simp only [pA, pB, p1, p2, p3]
        refine tK (.bool true) ?_
        try simp only [pA, pB, p1, p2, p3]
        refine tK (.bool true) ?_
        try simp only [pA, pB, p1, p2, p3]
        refine WL.nil ?_
        try simp only [pA, pB, p1, p2, p3]
        go_upto_region 7 with fail
        refine WL.start ?_
        refine tK (.slice a3 m.length c3) ?_
        try simp only [pA, pB, p1, p2, p3]
        refine tK (.int .u8 (bi c)) ?_
        try simp only [pA, pB, p1, p2, p3]
        have HY : Hid (Own 5 1 (wr.alloc (.cells [.int .u8 92, .int .u8 (bi c)].toArray 5)) n0 a3 c3 m.length (m.map u8V)) := HY.out.no ((Kept.refl No _).alloc _)
        have HK : Hid (Kept No w (wr.alloc (.cells [.int .u8 92, .int .u8 (bi c)].toArray 5))) := HK.out.alloc _
        have HX : Hid (Box (wr.alloc (.cells [.int .u8 92, .int .u8 (bi c)].toArray 5)) wr.heap.size 5 [.int .u8 92, .int .u8 (bi c)].toArray) := Box.new _ _ _
        refine wp_runW (.slice (some ⟨wr.heap.size, 0, none⟩) 2 2) (wr.alloc (.cells [.int .u8 92, .int .u8 (bi c)].toArray 5)) (exec_built (by kernel_rfl)) (by kernel_rfl) ?_
        try simp only [pA, pB, p1, p2, p3]
        generalize wr.alloc (.cells [.int .u8 92, .int .u8 (bi c)].toArray 5) = wk3 at HY HK HX ⊢
        generalize wr.heap.size = gk4 at HX ⊢
        obtain ⟨a_4, c_4, w_4, hrun, ho, hc⟩ := run_app 30 5 1 _ U30 I5 rfl HY.out 30 ⟨gk4, 0, none⟩ 2 2 [.int .u8 92, .int .u8 (bi c)] rfl (box_news HX.out) (by simp [Value.oneCell', strV, u8V]) (by have h1 := HI.out; have h2 := HMl.out; omega) (by have h1 := HI.out; have h2 := HMl.out; omega) (Nat.le_trans HL.out HK.out.size)
        clear HX
        have HK : Hid (Kept No w w_4) := HK.out.trans hc (fun _ e => e) (fun j hj e => absurd (HY.out.base e) (by have := HN0.out; omega))
        have HY : Hid (Own 5 1 w_4 n0 a_4 c_4 (m.length + 2) (m.map u8V ++ [.int .u8 92, .int .u8 (bi c)])) := ho
        refine wp_runW (.slice a_4 (m.length + 2) c_4) (w_4) (exec_app _ _ 30 30 rfl _ _ _ (by kernel_rfl) (by kernel_rfl) hrun) (by kernel_rfl) ?_
        try simp only [pA, pB, p1, p2, p3]
        clear hrun ho hc
        refine tK (.slice a_4 (m.length + 2) c_4) ?_
        try simp only [pA, pB, p1, p2, p3]
        refine WL.nil ?_
        try simp only [pA, pB, p1, p2, p3]
        go_upto_region 14 with fail
        refine WL.start ?_
        refine tW (.int .i64 ((i + 1 : Nat) : Int)) (exec_bin .add 3 _ _ _ rfl (.int .i64 ((i : Nat) : Int)) (.int .i64 1) (.int .i64 ((i + 1 : Nat) : Int)) (by kernel_rfl) (by kernel_rfl) (by kernel_rfl) (b_add1 i (by have := HI.out; omega) _)) ?_
        try simp only [pA, pB, p1, p2, p3]
        refine tK (.int .i64 ((i + 1 : Nat) : Int)) ?_
        try simp only [pA, pB, p1, p2, p3]
        refine WL.nil ?_
        try simp only [pA, pB, p1, p2, p3]
        go_wp2
        go_roundw
        case rel => exact ⟨i + 1, a_4, c_4, m ++ qB c, by rw [HQ.out]; simp, by go_num, by have := HPp.out; omega, by show _ = _; rw [quoteH_step HCc.out, HM.out], by have h := HY.out; rw [HQ.out]; show Own _ _ _ _ _ _ _ _; simpa [u8V, bi] using h, HK⟩
        case measure => have := HPp.out; simp [intOf]; omega
      · have hn34 : c ≠ 34 := fun e => a34 (by rw [e]; rfl)
        by_cases a92 : bi c = 92
        · have hc92 : c = 92 := bi_inj a92
          have e34 : (bi c == 34) = false := by simp [a34]
          have e92 : (bi c == 92) = true := by simp [a92]
          have HQ : Hid (qB c = [92, c]) := by show _ = _; unfold qB; rw [if_pos (Or.inr hc92)]
          clear a34 a92 hc92 hn34
          go_upto_region 3 with fail
          refine WL.start ?_
          refine tW (.bool true) (exec_bin .lss 3 _ _ _ rfl (.int .i64 ((i : Nat) : Int)) (.int .i64 ((l.length : Nat) : Int)) (.bool true) (by kernel_rfl) (by kernel_rfl) (by kernel_rfl) (by rw [b_lss, decide_eq_true hcm])) ?_
          try simp only [pA, pB, p1, p2, p3]
          refine WL.nil ?_
          try simp only [pA, pB, p1, p2, p3]
          go_upto_region 4 with fail
          refine WL.start ?_
          refine tW (.pointer (some ⟨gb, ob + i * 1, none⟩)) (exec_ixA 30 1 E30 F30 _ _ rfl gb ob l.length cap i (by kernel_rfl) (by kernel_rfl) (by omega)) ?_
          try simp only [pA, pB, p1, p2, p3]
          refine tW (.int .u8 (bi c)) (exec_load 5 _ rfl ⟨gb, ob + i * 1, none⟩ (by kernel_rfl) (.int .u8 (bi c)) (load_one HLd.out U5 rfl)) ?_
          try simp only [pA, pB, p1, p2, p3]
          refine tK (.int .u8 (bi c)) ?_
          try simp only [pA, pB, p1, p2, p3]
          refine WL.nil ?_
          try simp only [pA, pB, p1, p2, p3]
          go_upto_region 6 with fail
          refine WL.start ?_
          refine tK (.int .u8 (bi c)) ?_
          try simp only [pA, pB, p1, p2, p3]
          refine tW (.bool false) (exec_bin .eql 5 _ _ _ rfl (.int .u8 (bi c)) (.int .u8 34) (.bool false) (by kernel_rfl) (by kernel_rfl) (by kernel_rfl) (by rw [b_eq5, e34])) ?_
          try simp only [pA, pB, p1, p2, p3]
          refine tK (.bool false) ?_
          try simp only [pA, pB, p1, p2, p3]
          refine tK (.int .u8 (bi c)) ?_
          try simp only [pA, pB, p1, p2, p3]
          refine tW (.bool true) (exec_bin .eql 5 _ _ _ rfl (.int .u8 (bi c)) (.int .u8 92) (.bool true) (by kernel_rfl) (by kernel_rfl) (by kernel_rfl) (by rw [b_eq5, e92])) ?_
          try simp only [pA, pB, p1, p2, p3]
          refine tK (.bool true) ?_
          try simp only [pA, pB, p1, p2, p3]
          refine tK (.bool true) ?_
          try simp only [pA, pB, p1, p2, p3]
          refine WL.nil ?_
          try simp only [pA, pB, p1, p2, p3]
          go_upto_region 7 with fail
          refine WL.start ?_
          refine tK (.slice a3 m.length c3) ?_
          try simp only [pA, pB, p1, p2, p3]
          refine tK (.int .u8 (bi c)) ?_
          try simp only [pA, pB, p1, p2, p3]
          have HY : Hid (Own 5 1 (wr.alloc (.cells [.int .u8 92, .int .u8 (bi c)].toArray 5)) n0 a3 c3 m.length (m.map u8V)) := HY.out.no ((Kept.refl No _).alloc _)
          have HK : Hid (Kept No w (wr.alloc (.cells [.int .u8 92, .int .u8 (bi c)].toArray 5))) := HK.out.alloc _
          have HX : Hid (Box (wr.alloc (.cells [.int .u8 92, .int .u8 (bi c)].toArray 5)) wr.heap.size 5 [.int .u8 92, .int .u8 (bi c)].toArray) := Box.new _ _ _
          refine wp_runW (.slice (some ⟨wr.heap.size, 0, none⟩) 2 2) (wr.alloc (.cells [.int .u8 92, .int .u8 (bi c)].toArray 5)) (exec_built (by kernel_rfl)) (by kernel_rfl) ?_
          try simp only [pA, pB, p1, p2, p3]
          generalize wr.alloc (.cells [.int .u8 92, .int .u8 (bi c)].toArray 5) = wk6 at HY HK HX ⊢
          generalize wr.heap.size = gk7 at HX ⊢
          obtain ⟨a_7, c_7, w_7, hrun, ho, hc⟩ := run_app 30 5 1 _ U30 I5 rfl HY.out 30 ⟨gk7, 0, none⟩ 2 2 [.int .u8 92, .int .u8 (bi c)] rfl (box_news HX.out) (by simp [Value.oneCell', strV, u8V]) (by have h1 := HI.out; have h2 := HMl.out; omega) (by have h1 := HI.out; have h2 := HMl.out; omega) (Nat.le_trans HL.out HK.out.size)
          clear HX
          have HK : Hid (Kept No w w_7) := HK.out.trans hc (fun _ e => e) (fun j hj e => absurd (HY.out.base e) (by have := HN0.out; omega))
          have HY : Hid (Own 5 1 w_7 n0 a_7 c_7 (m.length + 2) (m.map u8V ++ [.int .u8 92, .int .u8 (bi c)])) := ho
          refine wp_runW (.slice a_7 (m.length + 2) c_7) (w_7) (exec_app _ _ 30 30 rfl _ _ _ (by kernel_rfl) (by kernel_rfl) hrun) (by kernel_rfl) ?_
          try simp only [pA, pB, p1, p2, p3]
          clear hrun ho hc
          refine tK (.slice a_7 (m.length + 2) c_7) ?_
          try simp only [pA, pB, p1, p2, p3]
          refine WL.nil ?_
          try simp only [pA, pB, p1, p2, p3]
          go_upto_region 14 with fail
          refine WL.start ?_
          refine tW (.int .i64 ((i + 1 : Nat) : Int)) (exec_bin .add 3 _ _ _ rfl (.int .i64 ((i : Nat) : Int)) (.int .i64 1) (.int .i64 ((i + 1 : Nat) : Int)) (by kernel_rfl) (by kernel_rfl) (by kernel_rfl) (b_add1 i (by have := HI.out; omega) _)) ?_
          try simp only [pA, pB, p1, p2, p3]
          refine tK (.int .i64 ((i + 1 : Nat) : Int)) ?_
          try simp only [pA, pB, p1, p2, p3]
          refine WL.nil ?_
          try simp only [pA, pB, p1, p2, p3]
          go_wp2
          go_roundw
          case rel => exact ⟨i + 1, a_7, c_7, m ++ qB c, by rw [HQ.out]; simp, by go_num, by have := HPp.out; omega, by show _ = _; rw [quoteH_step HCc.out, HM.out], by have h := HY.out; rw [HQ.out]; show Own _ _ _ _ _ _ _ _; simpa [u8V, bi] using h, HK⟩
          case measure => have := HPp.out; simp [intOf]; omega
        · have hn92 : c ≠ 92 := fun e => a92 (by rw [e]; rfl)
          have hcq : ¬ (c = 34 ∨ c = 92) := fun e => e.elim hn34 hn92
          by_cases a10 : bi c = 10
          · have hc10 : c = 10 := bi_inj a10
            have e34 : (bi c == 34) = false := by simp [a34]
            have e92 : (bi c == 92) = false := by simp [a92]
            have e10 : (bi c == 10) = true := by simp [a10]
            have HQ : Hid (qB c = [92, 110]) := by show _ = _; unfold qB; rw [if_neg hcq, if_pos hc10]
            clear a34 a92 a10 hc10 hn34 hn92 hcq
            go_upto_region 3 with fail
            refine WL.start ?_
            refine tW (.bool true) (exec_bin .lss 3 _ _ _ rfl (.int .i64 ((i : Nat) : Int)) (.int .i64 ((l.length : Nat) : Int)) (.bool true) (by kernel_rfl) (by kernel_rfl) (by kernel_rfl) (by rw [b_lss, decide_eq_true hcm])) ?_
            try simp only [pA, pB, p1, p2, p3]
            refine WL.nil ?_
            try simp only [pA, pB, p1, p2, p3]
            go_upto_region 4 with fail
            refine WL.start ?_
            refine tW (.pointer (some ⟨gb, ob + i * 1, none⟩)) (exec_ixA 30 1 E30 F30 _ _ rfl gb ob l.length cap i (by kernel_rfl) (by kernel_rfl) (by omega)) ?_
            try simp only [pA, pB, p1, p2, p3]
            refine tW (.int .u8 (bi c)) (exec_load 5 _ rfl ⟨gb, ob + i * 1, none⟩ (by kernel_rfl) (.int .u8 (bi c)) (load_one HLd.out U5 rfl)) ?_
            try simp only [pA, pB, p1, p2, p3]
            refine tK (.int .u8 (bi c)) ?_
            try simp only [pA, pB, p1, p2, p3]
            refine WL.nil ?_
            try simp only [pA, pB, p1, p2, p3]
            go_upto_region 6 with fail
            refine WL.start ?_
            refine tK (.int .u8 (bi c)) ?_
            try simp only [pA, pB, p1, p2, p3]
            refine tW (.bool false) (exec_bin .eql 5 _ _ _ rfl (.int .u8 (bi c)) (.int .u8 34) (.bool false) (by kernel_rfl) (by kernel_rfl) (by kernel_rfl) (by rw [b_eq5, e34])) ?_
            try simp only [pA, pB, p1, p2, p3]
            refine tK (.bool false) ?_
            try simp only [pA, pB, p1, p2, p3]
            refine tK (.int .u8 (bi c)) ?_
            try simp only [pA, pB, p1, p2, p3]
            refine tW (.bool false) (exec_bin .eql 5 _ _ _ rfl (.int .u8 (bi c)) (.int .u8 92) (.bool false) (by kernel_rfl) (by kernel_rfl) (by kernel_rfl) (by rw [b_eq5, e92])) ?_
            try simp only [pA, pB, p1, p2, p3]
            refine tK (.bool false) ?_
            try simp only [pA, pB, p1, p2, p3]
            refine tK (.bool false) ?_
            try simp only [pA, pB, p1, p2, p3]
            refine WL.nil ?_
            try simp only [pA, pB, p1, p2, p3]
            go_upto_region 8 with fail
            refine WL.start ?_
            refine tK (.int .u8 (bi c)) ?_
            try simp only [pA, pB, p1, p2, p3]
            refine tW (.bool true) (exec_bin .eql 5 _ _ _ rfl (.int .u8 (bi c)) (.int .u8 10) (.bool true) (by kernel_rfl) (by kernel_rfl) (by kernel_rfl) (by rw [b_eq5, e10])) ?_
            try simp only [pA, pB, p1, p2, p3]
            refine tK (.bool true) ?_
            try simp only [pA, pB, p1, p2, p3]
            refine WL.nil ?_
            try simp only [pA, pB, p1, p2, p3]
            go_upto_region 9 with fail
            refine WL.start ?_
            refine tK (.slice a3 m.length c3) ?_
            try simp only [pA, pB, p1, p2, p3]
            have HY : Hid (Own 5 1 (wr.alloc (.cells [.int .u8 92, .int .u8 110].toArray 5)) n0 a3 c3 m.length (m.map u8V)) := HY.out.no ((Kept.refl No _).alloc _)
            have HK : Hid (Kept No w (wr.alloc (.cells [.int .u8 92, .int .u8 110].toArray 5))) := HK.out.alloc _
            have HX : Hid (Box (wr.alloc (.cells [.int .u8 92, .int .u8 110].toArray 5)) wr.heap.size 5 [.int .u8 92, .int .u8 110].toArray) := Box.new _ _ _
            refine wp_runW (.slice (some ⟨wr.heap.size, 0, none⟩) 2 2) (wr.alloc (.cells [.int .u8 92, .int .u8 110].toArray 5)) (exec_built (by kernel_rfl)) (by kernel_rfl) ?_
            try simp only [pA, pB, p1, p2, p3]
            generalize wr.alloc (.cells [.int .u8 92, .int .u8 110].toArray 5) = wk9 at HY HK HX ⊢
            generalize wr.heap.size = gk10 at HX ⊢
            obtain ⟨a_10, c_10, w_10, hrun, ho, hc⟩ := run_app 30 5 1 _ U30 I5 rfl HY.out 30 ⟨gk10, 0, none⟩ 2 2 [.int .u8 92, .int .u8 110] rfl (box_news HX.out) (by simp [Value.oneCell', strV, u8V]) (by have h1 := HI.out; have h2 := HMl.out; omega) (by have h1 := HI.out; have h2 := HMl.out; omega) (Nat.le_trans HL.out HK.out.size)
            clear HX
            have HK : Hid (Kept No w w_10) := HK.out.trans hc (fun _ e => e) (fun j hj e => absurd (HY.out.base e) (by have := HN0.out; omega))
            have HY : Hid (Own 5 1 w_10 n0 a_10 c_10 (m.length + 2) (m.map u8V ++ [.int .u8 92, .int .u8 110])) := ho
            refine wp_runW (.slice a_10 (m.length + 2) c_10) (w_10) (exec_app _ _ 30 30 rfl _ _ _ (by kernel_rfl) (by kernel_rfl) hrun) (by kernel_rfl) ?_
            try simp only [pA, pB, p1, p2, p3]
            clear hrun ho hc
            refine tK (.slice a_10 (m.length + 2) c_10) ?_
            try simp only [pA, pB, p1, p2, p3]
            refine WL.nil ?_
            try simp only [pA, pB, p1, p2, p3]
            go_upto_region 14 with fail
            refine WL.start ?_
            refine tW (.int .i64 ((i + 1 : Nat) : Int)) (exec_bin .add 3 _ _ _ rfl (.int .i64 ((i : Nat) : Int)) (.int .i64 1) (.int .i64 ((i + 1 : Nat) : Int)) (by kernel_rfl) (by kernel_rfl) (by kernel_rfl) (b_add1 i (by have := HI.out; omega) _)) ?_
            try simp only [pA, pB, p1, p2, p3]
            refine tK (.int .i64 ((i + 1 : Nat) : Int)) ?_
            try simp only [pA, pB, p1, p2, p3]
            refine WL.nil ?_
            try simp only [pA, pB, p1, p2, p3]
            go_wp2
            go_roundw
            case rel => exact ⟨i + 1, a_10, c_10, m ++ qB c, by rw [HQ.out]; simp, by go_num, by have := HPp.out; omega, by show _ = _; rw [quoteH_step HCc.out, HM.out], by have h := HY.out; rw [HQ.out]; show Own _ _ _ _ _ _ _ _; simpa [u8V, bi] using h, HK⟩
            case measure => have := HPp.out; simp [intOf]; omega
          · have hc10 : c ≠ 10 := fun e => a10 (by rw [e]; rfl)
            by_cases a9 : bi c = 9
            · have hc9 : c = 9 := bi_inj a9
              have e34 : (bi c == 34) = false := by simp [a34]
              have e92 : (bi c == 92) = false := by simp [a92]
              have e10 : (bi c == 10) = false := by simp [a10]
              have e9 : (bi c == 9) = true := by simp [a9]
              have HQ : Hid (qB c = [92, 116]) := by show _ = _; unfold qB; rw [if_neg hcq, if_neg hc10, if_pos hc9]
              clear a34 a92 a10 a9 hc9 hc10 hcq hn34 hn92
              go_upto_region 3 with fail
              refine WL.start ?_
              refine tW (.bool true) (exec_bin .lss 3 _ _ _ rfl (.int .i64 ((i : Nat) : Int)) (.int .i64 ((l.length : Nat) : Int)) (.bool true) (by kernel_rfl) (by kernel_rfl) (by kernel_rfl) (by rw [b_lss, decide_eq_true hcm])) ?_
              try simp only [pA, pB, p1, p2, p3]
              refine WL.nil ?_
              try simp only [pA, pB, p1, p2, p3]
              go_upto_region 4 with fail
              refine WL.start ?_
              refine tW (.pointer (some ⟨gb, ob + i * 1, none⟩)) (exec_ixA 30 1 E30 F30 _ _ rfl gb ob l.length cap i (by kernel_rfl) (by kernel_rfl) (by omega)) ?_
              try simp only [pA, pB, p1, p2, p3]
              refine tW (.int .u8 (bi c)) (exec_load 5 _ rfl ⟨gb, ob + i * 1, none⟩ (by kernel_rfl) (.int .u8 (bi c)) (load_one HLd.out U5 rfl)) ?_
              try simp only [pA, pB, p1, p2, p3]
              refine tK (.int .u8 (bi c)) ?_
              try simp only [pA, pB, p1, p2, p3]
              refine WL.nil ?_
              try simp only [pA, pB, p1, p2, p3]
              go_upto_region 6 with fail
              refine WL.start ?_
              refine tK (.int .u8 (bi c)) ?_
              try simp only [pA, pB, p1, p2, p3]
              refine tW (.bool false) (exec_bin .eql 5 _ _ _ rfl (.int .u8 (bi c)) (.int .u8 34) (.bool false) (by kernel_rfl) (by kernel_rfl) (by kernel_rfl) (by rw [b_eq5, e34])) ?_
              try simp only [pA, pB, p1, p2, p3]
              refine tK (.bool false) ?_
              try simp only [pA, pB, p1, p2, p3]
              refine tK (.int .u8 (bi c)) ?_
              try simp only [pA, pB, p1, p2, p3]
              refine tW (.bool false) (exec_bin .eql 5 _ _ _ rfl (.int .u8 (bi c)) (.int .u8 92) (.bool false) (by kernel_rfl) (by kernel_rfl) (by kernel_rfl) (by rw [b_eq5, e92])) ?_
              try simp only [pA, pB, p1, p2, p3]
              refine tK (.bool false) ?_
              try simp only [pA, pB, p1, p2, p3]
              refine tK (.bool false) ?_
              try simp only [pA, pB, p1, p2, p3]
              refine WL.nil ?_
              try simp only [pA, pB, p1, p2, p3]
              go_upto_region 8 with fail
              refine WL.start ?_
              refine tK (.int .u8 (bi c)) ?_
              try simp only [pA, pB, p1, p2, p3]
              refine tW (.bool false) (exec_bin .eql 5 _ _ _ rfl (.int .u8 (bi c)) (.int .u8 10) (.bool false) (by kernel_rfl) (by kernel_rfl) (by kernel_rfl) (by rw [b_eq5, e10])) ?_
              try simp only [pA, pB, p1, p2, p3]
              refine tK (.bool false) ?_
              try simp only [pA, pB, p1, p2, p3]
              refine WL.nil ?_
              try simp only [pA, pB, p1, p2, p3]
              go_upto_region 10 with fail
              refine WL.start ?_
              refine tK (.int .u8 (bi c)) ?_
              try simp only [pA, pB, p1, p2, p3]
              refine tW (.bool true) (exec_bin .eql 5 _ _ _ rfl (.int .u8 (bi c)) (.int .u8 9) (.bool true) (by kernel_rfl) (by kernel_rfl) (by kernel_rfl) (by rw [b_eq5, e9])) ?_
              try simp only [pA, pB, p1, p2, p3]
              refine tK (.bool true) ?_
              try simp only [pA, pB, p1, p2, p3]
              refine WL.nil ?_
              try simp only [pA, pB, p1, p2, p3]
              go_upto_region 11 with fail
              refine WL.start ?_
              refine tK (.slice a3 m.length c3) ?_
              try simp only [pA, pB, p1, p2, p3]
              have HY : Hid (Own 5 1 (wr.alloc (.cells [.int .u8 92, .int .u8 116].toArray 5)) n0 a3 c3 m.length (m.map u8V)) := HY.out.no ((Kept.refl No _).alloc _)
              have HK : Hid (Kept No w (wr.alloc (.cells [.int .u8 92, .int .u8 116].toArray 5))) := HK.out.alloc _
              have HX : Hid (Box (wr.alloc (.cells [.int .u8 92, .int .u8 116].toArray 5)) wr.heap.size 5 [.int .u8 92, .int .u8 116].toArray) := Box.new _ _ _
              refine wp_runW (.slice (some ⟨wr.heap.size, 0, none⟩) 2 2) (wr.alloc (.cells [.int .u8 92, .int .u8 116].toArray 5)) (exec_built (by kernel_rfl)) (by kernel_rfl) ?_
              try simp only [pA, pB, p1, p2, p3]
              generalize wr.alloc (.cells [.int .u8 92, .int .u8 116].toArray 5) = wk12 at HY HK HX ⊢
              generalize wr.heap.size = gk13 at HX ⊢
              obtain ⟨a_13, c_13, w_13, hrun, ho, hc⟩ := run_app 30 5 1 _ U30 I5 rfl HY.out 30 ⟨gk13, 0, none⟩ 2 2 [.int .u8 92, .int .u8 116] rfl (box_news HX.out) (by simp [Value.oneCell', strV, u8V]) (by have h1 := HI.out; have h2 := HMl.out; omega) (by have h1 := HI.out; have h2 := HMl.out; omega) (Nat.le_trans HL.out HK.out.size)
              clear HX
              have HK : Hid (Kept No w w_13) := HK.out.trans hc (fun _ e => e) (fun j hj e => absurd (HY.out.base e) (by have := HN0.out; omega))
              have HY : Hid (Own 5 1 w_13 n0 a_13 c_13 (m.length + 2) (m.map u8V ++ [.int .u8 92, .int .u8 116])) := ho
              refine wp_runW (.slice a_13 (m.length + 2) c_13) (w_13) (exec_app _ _ 30 30 rfl _ _ _ (by kernel_rfl) (by kernel_rfl) hrun) (by kernel_rfl) ?_
              try simp only [pA, pB, p1, p2, p3]
              clear hrun ho hc
              refine tK (.slice a_13 (m.length + 2) c_13) ?_
              try simp only [pA, pB, p1, p2, p3]
              refine WL.nil ?_
              try simp only [pA, pB, p1, p2, p3]
              go_upto_region 14 with fail
              refine WL.start ?_
              refine tW (.int .i64 ((i + 1 : Nat) : Int)) (exec_bin .add 3 _ _ _ rfl (.int .i64 ((i : Nat) : Int)) (.int .i64 1) (.int .i64 ((i + 1 : Nat) : Int)) (by kernel_rfl) (by kernel_rfl) (by kernel_rfl) (b_add1 i (by have := HI.out; omega) _)) ?_
              try simp only [pA, pB, p1, p2, p3]
              refine tK (.int .i64 ((i + 1 : Nat) : Int)) ?_
              try simp only [pA, pB, p1, p2, p3]
              refine WL.nil ?_
              try simp only [pA, pB, p1, p2, p3]
              go_wp2
              go_roundw
              case rel => exact ⟨i + 1, a_13, c_13, m ++ qB c, by rw [HQ.out]; simp, by go_num, by have := HPp.out; omega, by show _ = _; rw [quoteH_step HCc.out, HM.out], by have h := HY.out; rw [HQ.out]; show Own _ _ _ _ _ _ _ _; simpa [u8V, bi] using h, HK⟩
              case measure => have := HPp.out; simp [intOf]; omega
            · have hc9 : c ≠ 9 := fun e => a9 (by rw [e]; rfl)
              by_cases hlo : bi c < 32
              · skip
                have e34 : (bi c == 34) = false := by simp [a34]
                have e92 : (bi c == 92) = false := by simp [a92]
                have e10 : (bi c == 10) = false := by simp [a10]
                have e9 : (bi c == 9) = false := by simp [a9]
                have HQ : Hid (qB c = [92, 120, hx (c.toNat / 16), hx (c.toNat % 16)]) := by show _ = _; unfold qB; rw [if_neg hcq, if_neg hc10, if_neg hc9, if_pos (Or.inl (UInt8.lt_iff_toNat_lt.2 (by have h : bi c < 32 := hlo; unfold bi at h; show c.toNat < 32; omega)))]
                clear a34 a92 a10 a9 hc9 hc10 hcq hn34 hn92
                go_upto_region 3 with fail
                refine WL.start ?_
                refine tW (.bool true) (exec_bin .lss 3 _ _ _ rfl (.int .i64 ((i : Nat) : Int)) (.int .i64 ((l.length : Nat) : Int)) (.bool true) (by kernel_rfl) (by kernel_rfl) (by kernel_rfl) (by rw [b_lss, decide_eq_true hcm])) ?_
                try simp only [pA, pB, p1, p2, p3]
                refine WL.nil ?_
                try simp only [pA, pB, p1, p2, p3]
                go_upto_region 4 with fail
                refine WL.start ?_
                refine tW (.pointer (some ⟨gb, ob + i * 1, none⟩)) (exec_ixA 30 1 E30 F30 _ _ rfl gb ob l.length cap i (by kernel_rfl) (by kernel_rfl) (by omega)) ?_
                try simp only [pA, pB, p1, p2, p3]
                refine tW (.int .u8 (bi c)) (exec_load 5 _ rfl ⟨gb, ob + i * 1, none⟩ (by kernel_rfl) (.int .u8 (bi c)) (load_one HLd.out U5 rfl)) ?_
                try simp only [pA, pB, p1, p2, p3]
                refine tK (.int .u8 (bi c)) ?_
                try simp only [pA, pB, p1, p2, p3]
                refine WL.nil ?_
                try simp only [pA, pB, p1, p2, p3]
                go_upto_region 6 with fail
                refine WL.start ?_
                refine tK (.int .u8 (bi c)) ?_
                try simp only [pA, pB, p1, p2, p3]
                refine tW (.bool false) (exec_bin .eql 5 _ _ _ rfl (.int .u8 (bi c)) (.int .u8 34) (.bool false) (by kernel_rfl) (by kernel_rfl) (by kernel_rfl) (by rw [b_eq5, e34])) ?_
                try simp only [pA, pB, p1, p2, p3]
                refine tK (.bool false) ?_
                try simp only [pA, pB, p1, p2, p3]
                refine tK (.int .u8 (bi c)) ?_
                try simp only [pA, pB, p1, p2, p3]
                refine tW (.bool false) (exec_bin .eql 5 _ _ _ rfl (.int .u8 (bi c)) (.int .u8 92) (.bool false) (by kernel_rfl) (by kernel_rfl) (by kernel_rfl) (by rw [b_eq5, e92])) ?_
                try simp only [pA, pB, p1, p2, p3]
                refine tK (.bool false) ?_
                try simp only [pA, pB, p1, p2, p3]
                refine tK (.bool false) ?_
                try simp only [pA, pB, p1, p2, p3]
                refine WL.nil ?_
                try simp only [pA, pB, p1, p2, p3]
                go_upto_region 8 with fail
                refine WL.start ?_
                refine tK (.int .u8 (bi c)) ?_
                try simp only [pA, pB, p1, p2, p3]
                refine tW (.bool false) (exec_bin .eql 5 _ _ _ rfl (.int .u8 (bi c)) (.int .u8 10) (.bool false) (by kernel_rfl) (by kernel_rfl) (by kernel_rfl) (by rw [b_eq5, e10])) ?_
                try simp only [pA, pB, p1, p2, p3]
                refine tK (.bool false) ?_
                try simp only [pA, pB, p1, p2, p3]
                refine WL.nil ?_
                try simp only [pA, pB, p1, p2, p3]
                go_upto_region 10 with fail
                refine WL.start ?_
                refine tK (.int .u8 (bi c)) ?_
                try simp only [pA, pB, p1, p2, p3]
                refine tW (.bool false) (exec_bin .eql 5 _ _ _ rfl (.int .u8 (bi c)) (.int .u8 9) (.bool false) (by kernel_rfl) (by kernel_rfl) (by kernel_rfl) (by rw [b_eq5, e9])) ?_
                try simp only [pA, pB, p1, p2, p3]
                refine tK (.bool false) ?_
                try simp only [pA, pB, p1, p2, p3]
                refine WL.nil ?_
                try simp only [pA, pB, p1, p2, p3]
                go_upto_region 12 with fail
                refine WL.start ?_
                refine tK (.int .u8 (bi c)) ?_
                try simp only [pA, pB, p1, p2, p3]
                refine tW (.bool true) (exec_bin .lss 5 _ _ _ rfl (.int .u8 (bi c)) (.int .u8 32) (.bool true) (by kernel_rfl) (by kernel_rfl) (by kernel_rfl) (by rw [b_lss5, decide_eq_true hlo])) ?_
                try simp only [pA, pB, p1, p2, p3]
                refine tK (.bool true) ?_
                try simp only [pA, pB, p1, p2, p3]
                refine sK ?_
                try simp only [pA, pB, p1, p2, p3]
                refine sK ?_
                try simp only [pA, pB, p1, p2, p3]
                refine tK (.bool true) ?_
                try simp only [pA, pB, p1, p2, p3]
                refine tK (.bool true) ?_
                try simp only [pA, pB, p1, p2, p3]
                refine WL.nil ?_
                try simp only [pA, pB, p1, p2, p3]
                go_upto_region 13 with fail
                have HY : Hid (Own 5 1 wr.drew n0 a3 c3 m.length (m.map u8V)) := HY.out.no (Kept.refl No _).drew
                have HK : Hid (Kept No w wr.drew) := HK.out.drew
                refine wp_region_held_drew (S := fun w' => True) rfl trivial (fun hH => ?_)
                generalize wr.drew = wk15 at HY HK hH ⊢
                refine aT (i := 0) (oi := { dst := some 47, op := Op.move (Operand.tmp 3), type := 30, pos := "word.go:160", after := #[], guard := none }) (v := .slice a3 m.length c3) (fun _ _ => by kernel_rfl) hH ?_
                try simp only [pA, pB, p1, p2, p3]
                refine aT (i := 1) (oi := { dst := some 48, op := Op.move (Operand.tmp 5), type := 5, pos := "word.go:160", after := #[], guard := none }) (v := .int .u8 (bi c)) (fun _ _ => by kernel_rfl) hH ?_
                try simp only [pA, pB, p1, p2, p3]
                refine aT (i := 2) (oi := { dst := some 49, op := Op.binOp BinOp.shr 5 (Operand.tmp 48) (Operand.const (Value.int IntKind.u64 4)) 49, type := 5, pos := "word.go:160", after := #[{ on := 1, ground := Ground.data }], guard := none }) (v := .int .u8 ((c.toNat / 16 : Nat) : Int)) (fun w' hw => exec_bin .shr 5 _ _ _ rfl (.int .u8 (bi c)) (.int .u64 4) (.int .u8 ((c.toNat / 16 : Nat) : Int)) (by kernel_rfl) (by kernel_rfl) (by kernel_rfl) (b_shr4 c _)) hH ?_
                try simp only [pA, pB, p1, p2, p3]
                refine aT (i := 3) (oi := { dst := some 50, op := Op.index 9 (Operand.const (Value.string { data := #[48, 49, 50, 51, 52, 53, 54, 55, 56, 57, 97, 98, 99, 100, 101, 102] })) (Operand.tmp 49), type := 5, pos := "word.go:160", after := #[{ on := 2, ground := Ground.data }], guard := none }) (v := .int .u8 (bi (hx (c.toNat / 16)))) (fun w' hw => exec_hex _ _ rfl (c.toNat / 16) (by have := c.toNat_lt; omega) (by kernel_rfl) (by kernel_rfl)) hH ?_
                try simp only [pA, pB, p1, p2, p3]
                refine aT (i := 4) (oi := { dst := some 51, op := Op.move (Operand.tmp 5), type := 5, pos := "word.go:160", after := #[], guard := none }) (v := .int .u8 (bi c)) (fun _ _ => by kernel_rfl) hH ?_
                try simp only [pA, pB, p1, p2, p3]
                refine aT (i := 5) (oi := { dst := some 52, op := Op.binOp BinOp.and 5 (Operand.tmp 51) (Operand.const (Value.int IntKind.u8 15)) 5, type := 5, pos := "word.go:160", after := #[{ on := 4, ground := Ground.data }], guard := none }) (v := .int .u8 ((c.toNat % 16 : Nat) : Int)) (fun w' hw => exec_bin .and 5 _ _ _ rfl (.int .u8 (bi c)) (.int .u8 15) (.int .u8 ((c.toNat % 16 : Nat) : Int)) (by kernel_rfl) (by kernel_rfl) (by kernel_rfl) (b_and15 c _)) hH ?_
                try simp only [pA, pB, p1, p2, p3]
                refine aT (i := 6) (oi := { dst := some 53, op := Op.index 9 (Operand.const (Value.string { data := #[48, 49, 50, 51, 52, 53, 54, 55, 56, 57, 97, 98, 99, 100, 101, 102] })) (Operand.tmp 52), type := 5, pos := "word.go:160", after := #[{ on := 5, ground := Ground.data }], guard := none }) (v := .int .u8 (bi (hx (c.toNat % 16)))) (fun w' hw => exec_hex _ _ rfl (c.toNat % 16) (by have := c.toNat_lt; omega) (by kernel_rfl) (by kernel_rfl)) hH ?_
                try simp only [pA, pB, p1, p2, p3]
                have HY : Hid (Own 5 1 (wk15.alloc (.cells [.int .u8 92, .int .u8 120, .int .u8 (bi (hx (c.toNat / 16))), .int .u8 (bi (hx (c.toNat % 16)))].toArray 5)) n0 a3 c3 m.length (m.map u8V)) := HY.out.no ((Kept.refl No _).alloc _)
                have HK : Hid (Kept No w (wk15.alloc (.cells [.int .u8 92, .int .u8 120, .int .u8 (bi (hx (c.toNat / 16))), .int .u8 (bi (hx (c.toNat % 16)))].toArray 5))) := HK.out.alloc _
                have HX : Hid (Box (wk15.alloc (.cells [.int .u8 92, .int .u8 120, .int .u8 (bi (hx (c.toNat / 16))), .int .u8 (bi (hx (c.toNat % 16)))].toArray 5)) wk15.heap.size 5 [.int .u8 92, .int .u8 120, .int .u8 (bi (hx (c.toNat / 16))), .int .u8 (bi (hx (c.toNat % 16)))].toArray) := Box.new _ _ _
                refine any_step (i := 7) (o := { dst := some 54, op := Op.buildSlice 30 4 #[(0, Operand.const (Value.int IntKind.u8 92)), (1, Operand.const (Value.int IntKind.u8 120)), (2, Operand.tmp 50), (3, Operand.tmp 53)], type := 30, pos := "word.go:160", after := #[{ on := 3, ground := Ground.data }, { on := 6, ground := Ground.data }], guard := none }) (v := .slice (some ⟨wk15.heap.size, 0, none⟩) 4 4) (w' := wk15.alloc (.cells [.int .u8 92, .int .u8 120, .int .u8 (bi (hx (c.toNat / 16))), .int .u8 (bi (hx (c.toNat % 16)))].toArray 5)) rfl (by kernel_rfl) (by kernel_rfl) (exec_built (by kernel_rfl)) trivial (fun hH => ?_)
                try simp only [pA, pB, p1, p2, p3]
                generalize wk15.alloc (.cells [.int .u8 92, .int .u8 120, .int .u8 (bi (hx (c.toNat / 16))), .int .u8 (bi (hx (c.toNat % 16)))].toArray 5) = wk16 at HY HK HX hH ⊢
                generalize wk15.heap.size = gk17 at HX ⊢
                obtain ⟨a_17, c_17, w_17, hrun, ho, hc⟩ := run_app 30 5 1 _ U30 I5 rfl HY.out 30 ⟨gk17, 0, none⟩ 4 4 [.int .u8 92, .int .u8 120, .int .u8 (bi (hx (c.toNat / 16))), .int .u8 (bi (hx (c.toNat % 16)))] rfl (box_news HX.out) (by simp [Value.oneCell', strV, u8V]) (by have h1 := HI.out; have h2 := HMl.out; omega) (by have h1 := HI.out; have h2 := HMl.out; omega) (Nat.le_trans HL.out HK.out.size)
                clear HX
                have HK : Hid (Kept No w w_17) := HK.out.trans hc (fun _ e => e) (fun j hj e => absurd (HY.out.base e) (by have := HN0.out; omega))
                have HY : Hid (Own 5 1 w_17 n0 a_17 c_17 (m.length + 4) (m.map u8V ++ [.int .u8 92, .int .u8 120, .int .u8 (bi (hx (c.toNat / 16))), .int .u8 (bi (hx (c.toNat % 16)))])) := ho
                refine any_step (i := 8) (o := { dst := some 55, op := Op.call { callee := Callee.builtin Builtin.append, args := #[Operand.tmp 47, Operand.tmp 54], argTypes := #[30, 30] }, type := 30, pos := "word.go:160", after := #[{ on := 0, ground := Ground.data }, { on := 7, ground := Ground.data }], guard := none }) (v := .slice a_17 (m.length + 4) c_17) (w' := w_17) rfl (by kernel_rfl) (by kernel_rfl) (exec_app _ _ 30 30 rfl _ _ _ (by kernel_rfl) (by kernel_rfl) hrun) trivial (fun hH => ?_)
                try simp only [pA, pB, p1, p2, p3]
                clear hrun ho hc
                refine aT (i := 9) (oi := { dst := some 3, op := Op.assign (Operand.tmp 55), type := 30, pos := "word.go:160", after := #[{ on := 8, ground := Ground.data }, { on := 8, ground := Ground.chain }, { on := 0, ground := Ground.phase }, { on := 1, ground := Ground.phase }, { on := 2, ground := Ground.phase }, { on := 3, ground := Ground.phase }, { on := 4, ground := Ground.phase }, { on := 5, ground := Ground.phase }, { on := 6, ground := Ground.phase }, { on := 7, ground := Ground.phase }, { on := 8, ground := Ground.phase }], guard := none }) (v := .slice a_17 (m.length + 4) c_17) (fun _ _ => by kernel_rfl) hH ?_
                try simp only [pA, pB, p1, p2, p3]
                refine wpAnyH_done (by kernel_rfl) ?_ _
                try simp only [pA, pB, p1, p2, p3]
                clear hH
                go_upto_region 14 with fail
                refine WL.start ?_
                refine tW (.int .i64 ((i + 1 : Nat) : Int)) (exec_bin .add 3 _ _ _ rfl (.int .i64 ((i : Nat) : Int)) (.int .i64 1) (.int .i64 ((i + 1 : Nat) : Int)) (by kernel_rfl) (by kernel_rfl) (by kernel_rfl) (b_add1 i (by have := HI.out; omega) _)) ?_
                try simp only [pA, pB, p1, p2, p3]
                refine tK (.int .i64 ((i + 1 : Nat) : Int)) ?_
                try simp only [pA, pB, p1, p2, p3]
                refine WL.nil ?_
                try simp only [pA, pB, p1, p2, p3]
                go_wp2
                go_roundw
                case rel => exact ⟨i + 1, a_17, c_17, m ++ qB c, by rw [HQ.out]; simp, by go_num, by have := HPp.out; omega, by show _ = _; rw [quoteH_step HCc.out, HM.out], by have h := HY.out; rw [HQ.out]; show Own _ _ _ _ _ _ _ _; simpa [u8V, bi] using h, HK⟩
                case measure => have := HPp.out; simp [intOf]; omega
              · by_cases hhi : 126 < bi c
                · skip
                  have e34 : (bi c == 34) = false := by simp [a34]
                  have e92 : (bi c == 92) = false := by simp [a92]
                  have e10 : (bi c == 10) = false := by simp [a10]
                  have e9 : (bi c == 9) = false := by simp [a9]
                  have HQ : Hid (qB c = [92, 120, hx (c.toNat / 16), hx (c.toNat % 16)]) := by show _ = _; unfold qB; rw [if_neg hcq, if_neg hc10, if_neg hc9, if_pos (Or.inr (UInt8.lt_iff_toNat_lt.2 (by have h : 126 < bi c := hhi; unfold bi at h; show 126 < c.toNat; omega)))]
                  clear a34 a92 a10 a9 hc9 hc10 hcq hn34 hn92
                  go_upto_region 3 with fail
                  refine WL.start ?_
                  refine tW (.bool true) (exec_bin .lss 3 _ _ _ rfl (.int .i64 ((i : Nat) : Int)) (.int .i64 ((l.length : Nat) : Int)) (.bool true) (by kernel_rfl) (by kernel_rfl) (by kernel_rfl) (by rw [b_lss, decide_eq_true hcm])) ?_
                  try simp only [pA, pB, p1, p2, p3]
                  refine WL.nil ?_
                  try simp only [pA, pB, p1, p2, p3]
                  go_upto_region 4 with fail
                  refine WL.start ?_
                  refine tW (.pointer (some ⟨gb, ob + i * 1, none⟩)) (exec_ixA 30 1 E30 F30 _ _ rfl gb ob l.length cap i (by kernel_rfl) (by kernel_rfl) (by omega)) ?_
                  try simp only [pA, pB, p1, p2, p3]
                  refine tW (.int .u8 (bi c)) (exec_load 5 _ rfl ⟨gb, ob + i * 1, none⟩ (by kernel_rfl) (.int .u8 (bi c)) (load_one HLd.out U5 rfl)) ?_
                  try simp only [pA, pB, p1, p2, p3]
                  refine tK (.int .u8 (bi c)) ?_
                  try simp only [pA, pB, p1, p2, p3]
                  refine WL.nil ?_
                  try simp only [pA, pB, p1, p2, p3]
                  go_upto_region 6 with fail
                  refine WL.start ?_
                  refine tK (.int .u8 (bi c)) ?_
                  try simp only [pA, pB, p1, p2, p3]
                  refine tW (.bool false) (exec_bin .eql 5 _ _ _ rfl (.int .u8 (bi c)) (.int .u8 34) (.bool false) (by kernel_rfl) (by kernel_rfl) (by kernel_rfl) (by rw [b_eq5, e34])) ?_
                  try simp only [pA, pB, p1, p2, p3]
                  refine tK (.bool false) ?_
                  try simp only [pA, pB, p1, p2, p3]
                  refine tK (.int .u8 (bi c)) ?_
                  try simp only [pA, pB, p1, p2, p3]
                  refine tW (.bool false) (exec_bin .eql 5 _ _ _ rfl (.int .u8 (bi c)) (.int .u8 92) (.bool false) (by kernel_rfl) (by kernel_rfl) (by kernel_rfl) (by rw [b_eq5, e92])) ?_
                  try simp only [pA, pB, p1, p2, p3]
                  refine tK (.bool false) ?_
                  try simp only [pA, pB, p1, p2, p3]
                  refine tK (.bool false) ?_
                  try simp only [pA, pB, p1, p2, p3]
                  refine WL.nil ?_
                  try simp only [pA, pB, p1, p2, p3]
                  go_upto_region 8 with fail
                  refine WL.start ?_
                  refine tK (.int .u8 (bi c)) ?_
                  try simp only [pA, pB, p1, p2, p3]
                  refine tW (.bool false) (exec_bin .eql 5 _ _ _ rfl (.int .u8 (bi c)) (.int .u8 10) (.bool false) (by kernel_rfl) (by kernel_rfl) (by kernel_rfl) (by rw [b_eq5, e10])) ?_
                  try simp only [pA, pB, p1, p2, p3]
                  refine tK (.bool false) ?_
                  try simp only [pA, pB, p1, p2, p3]
                  refine WL.nil ?_
                  try simp only [pA, pB, p1, p2, p3]
                  go_upto_region 10 with fail
                  refine WL.start ?_
                  refine tK (.int .u8 (bi c)) ?_
                  try simp only [pA, pB, p1, p2, p3]
                  refine tW (.bool false) (exec_bin .eql 5 _ _ _ rfl (.int .u8 (bi c)) (.int .u8 9) (.bool false) (by kernel_rfl) (by kernel_rfl) (by kernel_rfl) (by rw [b_eq5, e9])) ?_
                  try simp only [pA, pB, p1, p2, p3]
                  refine tK (.bool false) ?_
                  try simp only [pA, pB, p1, p2, p3]
                  refine WL.nil ?_
                  try simp only [pA, pB, p1, p2, p3]
                  go_upto_region 12 with fail
                  refine WL.start ?_
                  refine tK (.int .u8 (bi c)) ?_
                  try simp only [pA, pB, p1, p2, p3]
                  refine tW (.bool false) (exec_bin .lss 5 _ _ _ rfl (.int .u8 (bi c)) (.int .u8 32) (.bool false) (by kernel_rfl) (by kernel_rfl) (by kernel_rfl) (by rw [b_lss5, decide_eq_false hlo])) ?_
                  try simp only [pA, pB, p1, p2, p3]
                  refine tK (.bool false) ?_
                  try simp only [pA, pB, p1, p2, p3]
                  refine tK (.int .u8 (bi c)) ?_
                  try simp only [pA, pB, p1, p2, p3]
                  refine tW (.bool true) (exec_bin .gtr 5 _ _ _ rfl (.int .u8 (bi c)) (.int .u8 126) (.bool true) (by kernel_rfl) (by kernel_rfl) (by kernel_rfl) (by rw [b_gtr5, decide_eq_true hhi])) ?_
                  try simp only [pA, pB, p1, p2, p3]
                  refine tK (.bool true) ?_
                  try simp only [pA, pB, p1, p2, p3]
                  refine tK (.bool true) ?_
                  try simp only [pA, pB, p1, p2, p3]
                  refine WL.nil ?_
                  try simp only [pA, pB, p1, p2, p3]
                  go_upto_region 13 with fail
                  have HY : Hid (Own 5 1 wr.drew n0 a3 c3 m.length (m.map u8V)) := HY.out.no (Kept.refl No _).drew
                  have HK : Hid (Kept No w wr.drew) := HK.out.drew
                  refine wp_region_held_drew (S := fun w' => True) rfl trivial (fun hH => ?_)
                  generalize wr.drew = wk19 at HY HK hH ⊢
                  refine aT (i := 0) (oi := { dst := some 47, op := Op.move (Operand.tmp 3), type := 30, pos := "word.go:160", after := #[], guard := none }) (v := .slice a3 m.length c3) (fun _ _ => by kernel_rfl) hH ?_
                  try simp only [pA, pB, p1, p2, p3]
                  refine aT (i := 1) (oi := { dst := some 48, op := Op.move (Operand.tmp 5), type := 5, pos := "word.go:160", after := #[], guard := none }) (v := .int .u8 (bi c)) (fun _ _ => by kernel_rfl) hH ?_
                  try simp only [pA, pB, p1, p2, p3]
                  refine aT (i := 2) (oi := { dst := some 49, op := Op.binOp BinOp.shr 5 (Operand.tmp 48) (Operand.const (Value.int IntKind.u64 4)) 49, type := 5, pos := "word.go:160", after := #[{ on := 1, ground := Ground.data }], guard := none }) (v := .int .u8 ((c.toNat / 16 : Nat) : Int)) (fun w' hw => exec_bin .shr 5 _ _ _ rfl (.int .u8 (bi c)) (.int .u64 4) (.int .u8 ((c.toNat / 16 : Nat) : Int)) (by kernel_rfl) (by kernel_rfl) (by kernel_rfl) (b_shr4 c _)) hH ?_
                  try simp only [pA, pB, p1, p2, p3]
                  refine aT (i := 3) (oi := { dst := some 50, op := Op.index 9 (Operand.const (Value.string { data := #[48, 49, 50, 51, 52, 53, 54, 55, 56, 57, 97, 98, 99, 100, 101, 102] })) (Operand.tmp 49), type := 5, pos := "word.go:160", after := #[{ on := 2, ground := Ground.data }], guard := none }) (v := .int .u8 (bi (hx (c.toNat / 16)))) (fun w' hw => exec_hex _ _ rfl (c.toNat / 16) (by have := c.toNat_lt; omega) (by kernel_rfl) (by kernel_rfl)) hH ?_
                  try simp only [pA, pB, p1, p2, p3]
                  refine aT (i := 4) (oi := { dst := some 51, op := Op.move (Operand.tmp 5), type := 5, pos := "word.go:160", after := #[], guard := none }) (v := .int .u8 (bi c)) (fun _ _ => by kernel_rfl) hH ?_
                  try simp only [pA, pB, p1, p2, p3]
                  refine aT (i := 5) (oi := { dst := some 52, op := Op.binOp BinOp.and 5 (Operand.tmp 51) (Operand.const (Value.int IntKind.u8 15)) 5, type := 5, pos := "word.go:160", after := #[{ on := 4, ground := Ground.data }], guard := none }) (v := .int .u8 ((c.toNat % 16 : Nat) : Int)) (fun w' hw => exec_bin .and 5 _ _ _ rfl (.int .u8 (bi c)) (.int .u8 15) (.int .u8 ((c.toNat % 16 : Nat) : Int)) (by kernel_rfl) (by kernel_rfl) (by kernel_rfl) (b_and15 c _)) hH ?_
                  try simp only [pA, pB, p1, p2, p3]
                  refine aT (i := 6) (oi := { dst := some 53, op := Op.index 9 (Operand.const (Value.string { data := #[48, 49, 50, 51, 52, 53, 54, 55, 56, 57, 97, 98, 99, 100, 101, 102] })) (Operand.tmp 52), type := 5, pos := "word.go:160", after := #[{ on := 5, ground := Ground.data }], guard := none }) (v := .int .u8 (bi (hx (c.toNat % 16)))) (fun w' hw => exec_hex _ _ rfl (c.toNat % 16) (by have := c.toNat_lt; omega) (by kernel_rfl) (by kernel_rfl)) hH ?_
                  try simp only [pA, pB, p1, p2, p3]
                  have HY : Hid (Own 5 1 (wk19.alloc (.cells [.int .u8 92, .int .u8 120, .int .u8 (bi (hx (c.toNat / 16))), .int .u8 (bi (hx (c.toNat % 16)))].toArray 5)) n0 a3 c3 m.length (m.map u8V)) := HY.out.no ((Kept.refl No _).alloc _)
                  have HK : Hid (Kept No w (wk19.alloc (.cells [.int .u8 92, .int .u8 120, .int .u8 (bi (hx (c.toNat / 16))), .int .u8 (bi (hx (c.toNat % 16)))].toArray 5))) := HK.out.alloc _
                  have HX : Hid (Box (wk19.alloc (.cells [.int .u8 92, .int .u8 120, .int .u8 (bi (hx (c.toNat / 16))), .int .u8 (bi (hx (c.toNat % 16)))].toArray 5)) wk19.heap.size 5 [.int .u8 92, .int .u8 120, .int .u8 (bi (hx (c.toNat / 16))), .int .u8 (bi (hx (c.toNat % 16)))].toArray) := Box.new _ _ _
                  refine any_step (i := 7) (o := { dst := some 54, op := Op.buildSlice 30 4 #[(0, Operand.const (Value.int IntKind.u8 92)), (1, Operand.const (Value.int IntKind.u8 120)), (2, Operand.tmp 50), (3, Operand.tmp 53)], type := 30, pos := "word.go:160", after := #[{ on := 3, ground := Ground.data }, { on := 6, ground := Ground.data }], guard := none }) (v := .slice (some ⟨wk19.heap.size, 0, none⟩) 4 4) (w' := wk19.alloc (.cells [.int .u8 92, .int .u8 120, .int .u8 (bi (hx (c.toNat / 16))), .int .u8 (bi (hx (c.toNat % 16)))].toArray 5)) rfl (by kernel_rfl) (by kernel_rfl) (exec_built (by kernel_rfl)) trivial (fun hH => ?_)
                  try simp only [pA, pB, p1, p2, p3]
                  generalize wk19.alloc (.cells [.int .u8 92, .int .u8 120, .int .u8 (bi (hx (c.toNat / 16))), .int .u8 (bi (hx (c.toNat % 16)))].toArray 5) = wk20 at HY HK HX hH ⊢
                  generalize wk19.heap.size = gk21 at HX ⊢
                  obtain ⟨a_21, c_21, w_21, hrun, ho, hc⟩ := run_app 30 5 1 _ U30 I5 rfl HY.out 30 ⟨gk21, 0, none⟩ 4 4 [.int .u8 92, .int .u8 120, .int .u8 (bi (hx (c.toNat / 16))), .int .u8 (bi (hx (c.toNat % 16)))] rfl (box_news HX.out) (by simp [Value.oneCell', strV, u8V]) (by have h1 := HI.out; have h2 := HMl.out; omega) (by have h1 := HI.out; have h2 := HMl.out; omega) (Nat.le_trans HL.out HK.out.size)
                  clear HX
                  have HK : Hid (Kept No w w_21) := HK.out.trans hc (fun _ e => e) (fun j hj e => absurd (HY.out.base e) (by have := HN0.out; omega))
                  have HY : Hid (Own 5 1 w_21 n0 a_21 c_21 (m.length + 4) (m.map u8V ++ [.int .u8 92, .int .u8 120, .int .u8 (bi (hx (c.toNat / 16))), .int .u8 (bi (hx (c.toNat % 16)))])) := ho
                  refine any_step (i := 8) (o := { dst := some 55, op := Op.call { callee := Callee.builtin Builtin.append, args := #[Operand.tmp 47, Operand.tmp 54], argTypes := #[30, 30] }, type := 30, pos := "word.go:160", after := #[{ on := 0, ground := Ground.data }, { on := 7, ground := Ground.data }], guard := none }) (v := .slice a_21 (m.length + 4) c_21) (w' := w_21) rfl (by kernel_rfl) (by kernel_rfl) (exec_app _ _ 30 30 rfl _ _ _ (by kernel_rfl) (by kernel_rfl) hrun) trivial (fun hH => ?_)
                  try simp only [pA, pB, p1, p2, p3]
                  clear hrun ho hc
                  refine aT (i := 9) (oi := { dst := some 3, op := Op.assign (Operand.tmp 55), type := 30, pos := "word.go:160", after := #[{ on := 8, ground := Ground.data }, { on := 8, ground := Ground.chain }, { on := 0, ground := Ground.phase }, { on := 1, ground := Ground.phase }, { on := 2, ground := Ground.phase }, { on := 3, ground := Ground.phase }, { on := 4, ground := Ground.phase }, { on := 5, ground := Ground.phase }, { on := 6, ground := Ground.phase }, { on := 7, ground := Ground.phase }, { on := 8, ground := Ground.phase }], guard := none }) (v := .slice a_21 (m.length + 4) c_21) (fun _ _ => by kernel_rfl) hH ?_
                  try simp only [pA, pB, p1, p2, p3]
                  refine wpAnyH_done (by kernel_rfl) ?_ _
                  try simp only [pA, pB, p1, p2, p3]
                  clear hH
                  go_upto_region 14 with fail
                  refine WL.start ?_
                  refine tW (.int .i64 ((i + 1 : Nat) : Int)) (exec_bin .add 3 _ _ _ rfl (.int .i64 ((i : Nat) : Int)) (.int .i64 1) (.int .i64 ((i + 1 : Nat) : Int)) (by kernel_rfl) (by kernel_rfl) (by kernel_rfl) (b_add1 i (by have := HI.out; omega) _)) ?_
                  try simp only [pA, pB, p1, p2, p3]
                  refine tK (.int .i64 ((i + 1 : Nat) : Int)) ?_
                  try simp only [pA, pB, p1, p2, p3]
                  refine WL.nil ?_
                  try simp only [pA, pB, p1, p2, p3]
                  go_wp2
                  go_roundw
                  case rel => exact ⟨i + 1, a_21, c_21, m ++ qB c, by rw [HQ.out]; simp, by go_num, by have := HPp.out; omega, by show _ = _; rw [quoteH_step HCc.out, HM.out], by have h := HY.out; rw [HQ.out]; show Own _ _ _ _ _ _ _ _; simpa [u8V, bi] using h, HK⟩
                  case measure => have := HPp.out; simp [intOf]; omega
                · skip
                  have e34 : (bi c == 34) = false := by simp [a34]
                  have e92 : (bi c == 92) = false := by simp [a92]
                  have e10 : (bi c == 10) = false := by simp [a10]
                  have e9 : (bi c == 9) = false := by simp [a9]
                  have HQ : Hid (qB c = [c]) := by show _ = _; unfold qB; rw [if_neg hcq, if_neg hc10, if_neg hc9, if_neg (not_lohi hlo hhi)]
                  clear a34 a92 a10 a9 hc9 hc10 hcq hn34 hn92
                  go_upto_region 3 with fail
                  refine WL.start ?_
                  refine tW (.bool true) (exec_bin .lss 3 _ _ _ rfl (.int .i64 ((i : Nat) : Int)) (.int .i64 ((l.length : Nat) : Int)) (.bool true) (by kernel_rfl) (by kernel_rfl) (by kernel_rfl) (by rw [b_lss, decide_eq_true hcm])) ?_
                  try simp only [pA, pB, p1, p2, p3]
                  refine WL.nil ?_
                  try simp only [pA, pB, p1, p2, p3]
                  go_upto_region 4 with fail
                  refine WL.start ?_
                  refine tW (.pointer (some ⟨gb, ob + i * 1, none⟩)) (exec_ixA 30 1 E30 F30 _ _ rfl gb ob l.length cap i (by kernel_rfl) (by kernel_rfl) (by omega)) ?_
                  try simp only [pA, pB, p1, p2, p3]
                  refine tW (.int .u8 (bi c)) (exec_load 5 _ rfl ⟨gb, ob + i * 1, none⟩ (by kernel_rfl) (.int .u8 (bi c)) (load_one HLd.out U5 rfl)) ?_
                  try simp only [pA, pB, p1, p2, p3]
                  refine tK (.int .u8 (bi c)) ?_
                  try simp only [pA, pB, p1, p2, p3]
                  refine WL.nil ?_
                  try simp only [pA, pB, p1, p2, p3]
                  go_upto_region 6 with fail
                  refine WL.start ?_
                  refine tK (.int .u8 (bi c)) ?_
                  try simp only [pA, pB, p1, p2, p3]
                  refine tW (.bool false) (exec_bin .eql 5 _ _ _ rfl (.int .u8 (bi c)) (.int .u8 34) (.bool false) (by kernel_rfl) (by kernel_rfl) (by kernel_rfl) (by rw [b_eq5, e34])) ?_
                  try simp only [pA, pB, p1, p2, p3]
                  refine tK (.bool false) ?_
                  try simp only [pA, pB, p1, p2, p3]
                  refine tK (.int .u8 (bi c)) ?_
                  try simp only [pA, pB, p1, p2, p3]
                  refine tW (.bool false) (exec_bin .eql 5 _ _ _ rfl (.int .u8 (bi c)) (.int .u8 92) (.bool false) (by kernel_rfl) (by kernel_rfl) (by kernel_rfl) (by rw [b_eq5, e92])) ?_
                  try simp only [pA, pB, p1, p2, p3]
                  refine tK (.bool false) ?_
                  try simp only [pA, pB, p1, p2, p3]
                  refine tK (.bool false) ?_
                  try simp only [pA, pB, p1, p2, p3]
                  refine WL.nil ?_
                  try simp only [pA, pB, p1, p2, p3]
                  go_upto_region 8 with fail
                  refine WL.start ?_
                  refine tK (.int .u8 (bi c)) ?_
                  try simp only [pA, pB, p1, p2, p3]
                  refine tW (.bool false) (exec_bin .eql 5 _ _ _ rfl (.int .u8 (bi c)) (.int .u8 10) (.bool false) (by kernel_rfl) (by kernel_rfl) (by kernel_rfl) (by rw [b_eq5, e10])) ?_
                  try simp only [pA, pB, p1, p2, p3]
                  refine tK (.bool false) ?_
                  try simp only [pA, pB, p1, p2, p3]
                  refine WL.nil ?_
                  try simp only [pA, pB, p1, p2, p3]
                  go_upto_region 10 with fail
                  refine WL.start ?_
                  refine tK (.int .u8 (bi c)) ?_
                  try simp only [pA, pB, p1, p2, p3]
                  refine tW (.bool false) (exec_bin .eql 5 _ _ _ rfl (.int .u8 (bi c)) (.int .u8 9) (.bool false) (by kernel_rfl) (by kernel_rfl) (by kernel_rfl) (by rw [b_eq5, e9])) ?_
                  try simp only [pA, pB, p1, p2, p3]
                  refine tK (.bool false) ?_
                  try simp only [pA, pB, p1, p2, p3]
                  refine WL.nil ?_
                  try simp only [pA, pB, p1, p2, p3]
                  go_upto_region 12 with fail
                  refine WL.start ?_
                  refine tK (.int .u8 (bi c)) ?_
                  try simp only [pA, pB, p1, p2, p3]
                  refine tW (.bool false) (exec_bin .lss 5 _ _ _ rfl (.int .u8 (bi c)) (.int .u8 32) (.bool false) (by kernel_rfl) (by kernel_rfl) (by kernel_rfl) (by rw [b_lss5, decide_eq_false hlo])) ?_
                  try simp only [pA, pB, p1, p2, p3]
                  refine tK (.bool false) ?_
                  try simp only [pA, pB, p1, p2, p3]
                  refine tK (.int .u8 (bi c)) ?_
                  try simp only [pA, pB, p1, p2, p3]
                  refine tW (.bool false) (exec_bin .gtr 5 _ _ _ rfl (.int .u8 (bi c)) (.int .u8 126) (.bool false) (by kernel_rfl) (by kernel_rfl) (by kernel_rfl) (by rw [b_gtr5, decide_eq_false hhi])) ?_
                  try simp only [pA, pB, p1, p2, p3]
                  refine tK (.bool false) ?_
                  try simp only [pA, pB, p1, p2, p3]
                  refine tK (.bool false) ?_
                  try simp only [pA, pB, p1, p2, p3]
                  refine WL.nil ?_
                  try simp only [pA, pB, p1, p2, p3]
                  go_upto_region 5 with fail
                  refine WL.start ?_
                  refine tK (.slice a3 m.length c3) ?_
                  try simp only [pA, pB, p1, p2, p3]
                  refine tK (.int .u8 (bi c)) ?_
                  try simp only [pA, pB, p1, p2, p3]
                  have HY : Hid (Own 5 1 (wr.alloc (.cells [.int .u8 (bi c)].toArray 5)) n0 a3 c3 m.length (m.map u8V)) := HY.out.no ((Kept.refl No _).alloc _)
                  have HK : Hid (Kept No w (wr.alloc (.cells [.int .u8 (bi c)].toArray 5))) := HK.out.alloc _
                  have HX : Hid (Box (wr.alloc (.cells [.int .u8 (bi c)].toArray 5)) wr.heap.size 5 [.int .u8 (bi c)].toArray) := Box.new _ _ _
                  refine wp_runW (.slice (some ⟨wr.heap.size, 0, none⟩) 1 1) (wr.alloc (.cells [.int .u8 (bi c)].toArray 5)) (exec_built (by kernel_rfl)) (by kernel_rfl) ?_
                  try simp only [pA, pB, p1, p2, p3]
                  generalize wr.alloc (.cells [.int .u8 (bi c)].toArray 5) = wk23 at HY HK HX ⊢
                  generalize wr.heap.size = gk24 at HX ⊢
                  obtain ⟨a_24, c_24, w_24, hrun, ho, hc⟩ := run_app 30 5 1 _ U30 I5 rfl HY.out 30 ⟨gk24, 0, none⟩ 1 1 [.int .u8 (bi c)] rfl (box_news HX.out) (by simp [Value.oneCell', strV, u8V]) (by have h1 := HI.out; have h2 := HMl.out; omega) (by have h1 := HI.out; have h2 := HMl.out; omega) (Nat.le_trans HL.out HK.out.size)
                  clear HX
                  have HK : Hid (Kept No w w_24) := HK.out.trans hc (fun _ e => e) (fun j hj e => absurd (HY.out.base e) (by have := HN0.out; omega))
                  have HY : Hid (Own 5 1 w_24 n0 a_24 c_24 (m.length + 1) (m.map u8V ++ [.int .u8 (bi c)])) := ho
                  refine wp_runW (.slice a_24 (m.length + 1) c_24) (w_24) (exec_app _ _ 30 30 rfl _ _ _ (by kernel_rfl) (by kernel_rfl) hrun) (by kernel_rfl) ?_
                  try simp only [pA, pB, p1, p2, p3]
                  clear hrun ho hc
                  refine tK (.slice a_24 (m.length + 1) c_24) ?_
                  try simp only [pA, pB, p1, p2, p3]
                  refine WL.nil ?_
                  try simp only [pA, pB, p1, p2, p3]
                  go_upto_region 14 with fail
                  refine WL.start ?_
                  refine tW (.int .i64 ((i + 1 : Nat) : Int)) (exec_bin .add 3 _ _ _ rfl (.int .i64 ((i : Nat) : Int)) (.int .i64 1) (.int .i64 ((i + 1 : Nat) : Int)) (by kernel_rfl) (by kernel_rfl) (by kernel_rfl) (b_add1 i (by have := HI.out; omega) _)) ?_
                  try simp only [pA, pB, p1, p2, p3]
                  refine tK (.int .i64 ((i + 1 : Nat) : Int)) ?_
                  try simp only [pA, pB, p1, p2, p3]
                  refine WL.nil ?_
                  try simp only [pA, pB, p1, p2, p3]
                  go_wp2
                  go_roundw
                  case rel => exact ⟨i + 1, a_24, c_24, m ++ qB c, by rw [HQ.out]; simp, by go_num, by have := HPp.out; omega, by show _ = _; rw [quoteH_step HCc.out, HM.out], by have h := HY.out; rw [HQ.out]; show Own _ _ _ _ _ _ _ _; simpa [u8V, bi] using h, HK⟩
                  case measure => have := HPp.out; simp [intOf]; omega
    · have hcm : ¬ ((i : Nat) : Int) < ((l.length : Nat) : Int) := by omega
      have hil : l.take i = l := List.take_of_length_le (by omega)
      rw [hil] at HM
      clear hil hp hi
      go_upto_region 3 with fail
      refine WL.start ?_
      refine tW (.bool false) (exec_bin .lss 3 _ _ _ rfl (.int .i64 ((i : Nat) : Int)) (.int .i64 ((l.length : Nat) : Int)) (.bool false) (by kernel_rfl) (by kernel_rfl) (by kernel_rfl) (by rw [b_lss, decide_eq_false hcm])) ?_
      try simp only [pA, pB, p1, p2, p3]
      refine WL.nil ?_
      try simp only [pA, pB, p1, p2, p3]
      go_upto_region 15 with fail
      refine WL.start ?_
      refine tK (.slice a3 m.length c3) ?_
      try simp only [pA, pB, p1, p2, p3]
      have HY : Hid (Own 5 1 (wr.alloc (.cells [.int .u8 34].toArray 5)) n0 a3 c3 m.length (m.map u8V)) := HY.out.no ((Kept.refl No _).alloc _)
      have HK : Hid (Kept No w (wr.alloc (.cells [.int .u8 34].toArray 5))) := HK.out.alloc _
      have HX : Hid (Box (wr.alloc (.cells [.int .u8 34].toArray 5)) wr.heap.size 5 [.int .u8 34].toArray) := Box.new _ _ _
      refine wp_runW (.slice (some ⟨wr.heap.size, 0, none⟩) 1 1) (wr.alloc (.cells [.int .u8 34].toArray 5)) (exec_built (by kernel_rfl)) (by kernel_rfl) ?_
      try simp only [pA, pB, p1, p2, p3]
      generalize wr.alloc (.cells [.int .u8 34].toArray 5) = wk26 at HY HK HX ⊢
      generalize wr.heap.size = gk27 at HX ⊢
      obtain ⟨a_27, c_27, w_27, hrun, ho, hc⟩ := run_app 30 5 1 _ U30 I5 rfl HY.out 30 ⟨gk27, 0, none⟩ 1 1 [.int .u8 34] rfl (box_news HX.out) (by simp [Value.oneCell', strV, u8V]) (by have h1 := HI.out; have h2 := HMl.out; omega) (by have h1 := HI.out; have h2 := HMl.out; omega) (Nat.le_trans HL.out HK.out.size)
      clear HX
      have HK : Hid (Kept No w w_27) := HK.out.trans hc (fun _ e => e) (fun j hj e => absurd (HY.out.base e) (by have := HN0.out; omega))
      have HY : Hid (Own 5 1 w_27 n0 a_27 c_27 (m.length + 1) (m.map u8V ++ [.int .u8 34])) := ho
      refine wp_runW (.slice a_27 (m.length + 1) c_27) (w_27) (exec_app _ _ 30 30 rfl _ _ _ (by kernel_rfl) (by kernel_rfl) hrun) (by kernel_rfl) ?_
      try simp only [pA, pB, p1, p2, p3]
      clear hrun ho hc
      refine tW (.string (bs (m ++ [34]))) (exec_conv _ 30 9 rfl _ _ (by kernel_rfl) (run_conv (l := m ++ [34]) (by have h := HY.out; simpa [u8V, bi] using h) (by simp))) ?_
      try simp only [pA, pB, p1, p2, p3]
      refine tK (.string (bs (m ++ [34]))) ?_
      try simp only [pA, pB, p1, p2, p3]
      refine WL.nil ?_
      try simp only [pA, pB, p1, p2, p3]
      go_wp2
      rw [HC.out]
      exact ⟨by rw [show quoteL l = m ++ [34] from by rw [HM.out]; rfl], HK.out⟩
set_option maxRecDepth 100000 in
set_option maxHeartbeats 4000000 in
theorem refQuote_any (a : Option Addr) (l : List UInt8) (cap : Nat) (w : World) (hl : l.length ≤ 100000000000) (hN : Nums .u8 w a (l.map bi)) : Calls Try.prog 11 #[.slice a l.length cap] w (fun e w' => e = .returned (.string (bs (quoteL l))) ∧ Kept No w w') := by
  obtain ⟨C, hC⟩ : ∃ C : Ending → World → Prop, C = (fun e w' => e = .returned (.string (bs (quoteL l))) ∧ Kept No w w') := ⟨_, rfl⟩
  have HC : Hid (C = (fun e w' => e = .returned (.string (bs (quoteL l))) ∧ Kept No w w')) := hC
  rw [← hC]
  clear hC
  have HIn : Hid (Nums .u8 w a (l.map bi)) := hN
  have HLl : Hid (l.length ≤ 100000000000) := hl
  have HK : Hid (Kept No w w) := Kept.refl _ _
  obtain ⟨n0, hn0⟩ : ∃ n, n = w.heap.size := ⟨_, rfl⟩
  have HN0 : Hid (n0 = w.heap.size) := hn0
  have HL : Hid (n0 ≤ w.heap.size) := show n0 ≤ w.heap.size by omega
  clear hl hN hn0
  go_enter Try.func11, Try.ntmps11
  go_upto_region 0 with fail
  refine WL.start ?_
  refine tK (.string ⟨#[]⟩) ?_
  try simp only [pA, pB, p1, p2, p3]
  refine WL.nil ?_
  try simp only [pA, pB, p1, p2, p3]
  go_upto_region 1 with fail
  refine WL.start ?_
  have HG : Hid (n0 ≤ w.heap.size) := Nat.le_trans HL.out HK.out.size
  have HK : Hid (Kept No w (w.alloc (.cells [.int .u8 34].toArray 5))) := HK.out.alloc _
  have HX : Hid (Box (w.alloc (.cells [.int .u8 34].toArray 5)) w.heap.size 5 [.int .u8 34].toArray) := Box.new _ _ _
  refine wp_runW (.slice (some ⟨w.heap.size, 0, none⟩) 1 1) (w.alloc (.cells [.int .u8 34].toArray 5)) (exec_built (by kernel_rfl)) (by kernel_rfl) ?_
  try simp only [pA, pB, p1, p2, p3]
  generalize w.alloc (.cells [.int .u8 34].toArray 5) = wk1 at HK HX ⊢
  generalize w.heap.size = gk2 at HX HG ⊢
  refine tK (.slice (some ⟨gk2, 0, none⟩) 1 1) ?_
  try simp only [pA, pB, p1, p2, p3]
  refine WL.nil ?_
  try simp only [pA, pB, p1, p2, p3]
  skip
  go_wp2
  have HY : Hid (Own 5 1 wk1 n0 (some ⟨gk2, 0, none⟩) 1 1 [u8V 34]) := Own.of_box HX.out HG.out (by decide)
  go_loopw [3, 4] (fun v3 v9 wr => ∃ (i : Nat) (a3 : Option Addr) (c3 : Nat) (m : List UInt8), v3 = .slice a3 m.length c3 ∧ v9 = .int .i64 ((i : Nat) : Int) ∧ i ≤ l.length ∧ Hid (m = quoteH (l.take i)) ∧ Hid (Own 5 1 wr n0 a3 c3 m.length (m.map u8V)) ∧ Hid (Kept No w wr)) (fun _ v9 _ => l.length - (intOf v9).toNat)
  case atStart => exact ⟨0, _, _, [34], rfl, by go_num, by omega, rfl, HY, HK⟩
  case round =>
    clear HY HK HX HG
    obtain ⟨i, a3, c3, m, rfl, rfl, hi, HM, HY, HK⟩ := hrel
    have HMl : Hid (m.length ≤ 400000000001) := by
      show m.length ≤ _
      rw [HM.out]
      have h1 := flat_len (l.take i)
      have h2 := HLl.out
      simp only [quoteH, List.length_cons]
      rw [List.length_take] at h1
      omega
    have HI : Hid (i ≤ l.length ∧ l.length ≤ 100000000000) := ⟨hi, HLl.out⟩
    by_cases hp : i < l.length
    · have hcm : ((i : Nat) : Int) < ((l.length : Nat) : Int) := by omega
      have HPp : Hid (i < l.length) := hp
      obtain ⟨c, hcc⟩ : ∃ c, l[i]? = some c := ⟨_, List.getElem?_eq_getElem hp⟩
      have HCc : Hid (l[i]? = some c) := hcc
      obtain ⟨gb, ob, ha, hld⟩ := nums_at (HIn.out.no HK.out) hcc
      subst ha
      have HLd : Hid (wr.cell? ⟨gb, ob + i * 1, none⟩ = some (.int .u8 (bi c))) := hld
      clear hcc hld hi
      by_cases a34 : bi c = 34
      · have hc34 : c = 34 := bi_inj a34
        have e34 : (bi c == 34) = true := by simp [a34]
        have HQ : Hid (qB c = [92, c]) := by show _ = _; unfold qB; rw [if_pos (Or.inl hc34)]
        clear a34 hc34
        go_upto_region 3 with fail
        refine WL.start ?_
        refine tK (.int .i64 ((i : Nat) : Int)) ?_
        try simp only [pA, pB, p1, p2, p3]
        refine tK (.slice (some ⟨gb, ob, none⟩) l.length cap) ?_
        try simp only [pA, pB, p1, p2, p3]
        refine tK (.int .i64 ((l.length : Nat) : Int)) ?_
        try simp only [pA, pB, p1, p2, p3]
        refine tW (.bool true) (exec_bin .lss 3 _ _ _ rfl (.int .i64 ((i : Nat) : Int)) (.int .i64 ((l.length : Nat) : Int)) (.bool true) (by kernel_rfl) (by kernel_rfl) (by kernel_rfl) (by rw [b_lss, decide_eq_true hcm])) ?_
        try simp only [pA, pB, p1, p2, p3]
        refine WL.nil ?_
        try simp only [pA, pB, p1, p2, p3]
        go_upto_region 5 with fail
        refine WL.start ?_
        refine tK (.slice (some ⟨gb, ob, none⟩) l.length cap) ?_
        try simp only [pA, pB, p1, p2, p3]
        refine tK (.int .i64 ((i : Nat) : Int)) ?_
        try simp only [pA, pB, p1, p2, p3]
        refine tW (.pointer (some ⟨gb, ob + i * 1, none⟩)) (exec_ixA 30 1 E30 F30 _ _ rfl gb ob l.length cap i (by kernel_rfl) (by kernel_rfl) (by omega)) ?_
        try simp only [pA, pB, p1, p2, p3]
        refine tW (.int .u8 (bi c)) (exec_load 5 _ rfl ⟨gb, ob + i * 1, none⟩ (by kernel_rfl) (.int .u8 (bi c)) (load_one HLd.out U5 rfl)) ?_
        try simp only [pA, pB, p1, p2, p3]
        refine tK (.int .u8 (bi c)) ?_
        try simp only [pA, pB, p1, p2, p3]
        refine WL.nil ?_
        try simp only [pA, pB, p1, p2, p3]
        go_upto_region 7 with fail
        refine WL.start ?_
        refine tK (.int .u8 (bi c)) ?_
        try simp only [pA, pB, p1, p2, p3]
        refine tW (.bool true) (exec_bin .eql 5 _ _ _ rfl (.int .u8 (bi c)) (.int .u8 34) (.bool true) (by kernel_rfl) (by kernel_rfl) (by kernel_rfl) (by rw [b_eq5, e34])) ?_
        try simp only [pA, pB, p1, p2, p3]
        refine tK (.bool true) ?_
        try simp only [pA, pB, p1, p2, p3]
        refine sK ?_
        try simp only [pA, pB, p1, p2, p3]
        refine sK ?_
        try simp only [pA, pB, p1, p2, p3]
        refine tK (.bool true) ?_
        try simp only [pA, pB, p1, p2, p3]
        refine tK (.bool true) ?_
        try simp only [pA, pB, p1, p2, p3]
        refine WL.nil ?_
        try simp only [pA, pB, p1, p2, p3]
        go_upto_region 8 with fail
        refine WL.start ?_
        refine tK (.slice a3 m.length c3) ?_
        try simp only [pA, pB, p1, p2, p3]
        refine tK (.int .u8 (bi c)) ?_
        try simp only [pA, pB, p1, p2, p3]
        have HY : Hid (Own 5 1 (wr.alloc (.cells [.int .u8 92, .int .u8 (bi c)].toArray 5)) n0 a3 c3 m.length (m.map u8V)) := HY.out.no ((Kept.refl No _).alloc _)
        have HK : Hid (Kept No w (wr.alloc (.cells [.int .u8 92, .int .u8 (bi c)].toArray 5))) := HK.out.alloc _
        have HX : Hid (Box (wr.alloc (.cells [.int .u8 92, .int .u8 (bi c)].toArray 5)) wr.heap.size 5 [.int .u8 92, .int .u8 (bi c)].toArray) := Box.new _ _ _
        refine wp_runW (.slice (some ⟨wr.heap.size, 0, none⟩) 2 2) (wr.alloc (.cells [.int .u8 92, .int .u8 (bi c)].toArray 5)) (exec_built (by kernel_rfl)) (by kernel_rfl) ?_
        try simp only [pA, pB, p1, p2, p3]
        generalize wr.alloc (.cells [.int .u8 92, .int .u8 (bi c)].toArray 5) = wk3 at HY HK HX ⊢
        generalize wr.heap.size = gk4 at HX ⊢
        obtain ⟨a_4, c_4, w_4, hrun, ho, hc⟩ := run_app 30 5 1 _ U30 I5 rfl HY.out 30 ⟨gk4, 0, none⟩ 2 2 [.int .u8 92, .int .u8 (bi c)] rfl (box_news HX.out) (by simp [Value.oneCell', strV, u8V]) (by have h1 := HI.out; have h2 := HMl.out; omega) (by have h1 := HI.out; have h2 := HMl.out; omega) (Nat.le_trans HL.out HK.out.size)
        clear HX
        have HK : Hid (Kept No w w_4) := HK.out.trans hc (fun _ e => e) (fun j hj e => absurd (HY.out.base e) (by have := HN0.out; omega))
        have HY : Hid (Own 5 1 w_4 n0 a_4 c_4 (m.length + 2) (m.map u8V ++ [.int .u8 92, .int .u8 (bi c)])) := ho
        refine wp_runW (.slice a_4 (m.length + 2) c_4) (w_4) (exec_app _ _ 30 30 rfl _ _ _ (by kernel_rfl) (by kernel_rfl) hrun) (by kernel_rfl) ?_
        try simp only [pA, pB, p1, p2, p3]
        clear hrun ho hc
        refine tK (.slice a_4 (m.length + 2) c_4) ?_
        try simp only [pA, pB, p1, p2, p3]
        refine WL.nil ?_
        try simp only [pA, pB, p1, p2, p3]
        go_upto_region 4 with fail
        refine WL.start ?_
        refine tK (.int .i64 ((i : Nat) : Int)) ?_
        try simp only [pA, pB, p1, p2, p3]
        refine tW (.int .i64 ((i + 1 : Nat) : Int)) (exec_bin .add 3 _ _ _ rfl (.int .i64 ((i : Nat) : Int)) (.int .i64 1) (.int .i64 ((i + 1 : Nat) : Int)) (by kernel_rfl) (by kernel_rfl) (by kernel_rfl) (b_add1 i (by have := HI.out; omega) _)) ?_
        try simp only [pA, pB, p1, p2, p3]
        refine tK (.int .i64 ((i + 1 : Nat) : Int)) ?_
        try simp only [pA, pB, p1, p2, p3]
        refine WL.nil ?_
        try simp only [pA, pB, p1, p2, p3]
        go_wp2
        go_roundw
        case rel => exact ⟨i + 1, a_4, c_4, m ++ qB c, by rw [HQ.out]; simp, by go_num, by have := HPp.out; omega, by show _ = _; rw [quoteH_step HCc.out, HM.out], by have h := HY.out; rw [HQ.out]; show Own _ _ _ _ _ _ _ _; simpa [u8V, bi] using h, HK⟩
        case measure => have := HPp.out; simp [intOf]; omega
      · have hn34 : c ≠ 34 := fun e => a34 (by rw [e]; rfl)
        by_cases a92 : bi c = 92
        · have hc92 : c = 92 := bi_inj a92
          have e34 : (bi c == 34) = false := by simp [a34]
          have e92 : (bi c == 92) = true := by simp [a92]
          have HQ : Hid (qB c = [92, c]) := by show _ = _; unfold qB; rw [if_pos (Or.inr hc92)]
          clear a34 a92 hc92 hn34
          go_upto_region 3 with fail
          refine WL.start ?_
          refine tK (.int .i64 ((i : Nat) : Int)) ?_
          try simp only [pA, pB, p1, p2, p3]
          refine tK (.slice (some ⟨gb, ob, none⟩) l.length cap) ?_
          try simp only [pA, pB, p1, p2, p3]
          refine tK (.int .i64 ((l.length : Nat) : Int)) ?_
          try simp only [pA, pB, p1, p2, p3]
          refine tW (.bool true) (exec_bin .lss 3 _ _ _ rfl (.int .i64 ((i : Nat) : Int)) (.int .i64 ((l.length : Nat) : Int)) (.bool true) (by kernel_rfl) (by kernel_rfl) (by kernel_rfl) (by rw [b_lss, decide_eq_true hcm])) ?_
          try simp only [pA, pB, p1, p2, p3]
          refine WL.nil ?_
          try simp only [pA, pB, p1, p2, p3]
          go_upto_region 5 with fail
          refine WL.start ?_
          refine tK (.slice (some ⟨gb, ob, none⟩) l.length cap) ?_
          try simp only [pA, pB, p1, p2, p3]
          refine tK (.int .i64 ((i : Nat) : Int)) ?_
          try simp only [pA, pB, p1, p2, p3]
          refine tW (.pointer (some ⟨gb, ob + i * 1, none⟩)) (exec_ixA 30 1 E30 F30 _ _ rfl gb ob l.length cap i (by kernel_rfl) (by kernel_rfl) (by omega)) ?_
          try simp only [pA, pB, p1, p2, p3]
          refine tW (.int .u8 (bi c)) (exec_load 5 _ rfl ⟨gb, ob + i * 1, none⟩ (by kernel_rfl) (.int .u8 (bi c)) (load_one HLd.out U5 rfl)) ?_
          try simp only [pA, pB, p1, p2, p3]
          refine tK (.int .u8 (bi c)) ?_
          try simp only [pA, pB, p1, p2, p3]
          refine WL.nil ?_
          try simp only [pA, pB, p1, p2, p3]
          go_upto_region 7 with fail
          refine WL.start ?_
          refine tK (.int .u8 (bi c)) ?_
          try simp only [pA, pB, p1, p2, p3]
          refine tW (.bool false) (exec_bin .eql 5 _ _ _ rfl (.int .u8 (bi c)) (.int .u8 34) (.bool false) (by kernel_rfl) (by kernel_rfl) (by kernel_rfl) (by rw [b_eq5, e34])) ?_
          try simp only [pA, pB, p1, p2, p3]
          refine tK (.bool false) ?_
          try simp only [pA, pB, p1, p2, p3]
          refine tK (.int .u8 (bi c)) ?_
          try simp only [pA, pB, p1, p2, p3]
          refine tW (.bool true) (exec_bin .eql 5 _ _ _ rfl (.int .u8 (bi c)) (.int .u8 92) (.bool true) (by kernel_rfl) (by kernel_rfl) (by kernel_rfl) (by rw [b_eq5, e92])) ?_
          try simp only [pA, pB, p1, p2, p3]
          refine tK (.bool true) ?_
          try simp only [pA, pB, p1, p2, p3]
          refine tK (.bool true) ?_
          try simp only [pA, pB, p1, p2, p3]
          refine WL.nil ?_
          try simp only [pA, pB, p1, p2, p3]
          go_upto_region 8 with fail
          refine WL.start ?_
          refine tK (.slice a3 m.length c3) ?_
          try simp only [pA, pB, p1, p2, p3]
          refine tK (.int .u8 (bi c)) ?_
          try simp only [pA, pB, p1, p2, p3]
          have HY : Hid (Own 5 1 (wr.alloc (.cells [.int .u8 92, .int .u8 (bi c)].toArray 5)) n0 a3 c3 m.length (m.map u8V)) := HY.out.no ((Kept.refl No _).alloc _)
          have HK : Hid (Kept No w (wr.alloc (.cells [.int .u8 92, .int .u8 (bi c)].toArray 5))) := HK.out.alloc _
          have HX : Hid (Box (wr.alloc (.cells [.int .u8 92, .int .u8 (bi c)].toArray 5)) wr.heap.size 5 [.int .u8 92, .int .u8 (bi c)].toArray) := Box.new _ _ _
          refine wp_runW (.slice (some ⟨wr.heap.size, 0, none⟩) 2 2) (wr.alloc (.cells [.int .u8 92, .int .u8 (bi c)].toArray 5)) (exec_built (by kernel_rfl)) (by kernel_rfl) ?_
          try simp only [pA, pB, p1, p2, p3]
          generalize wr.alloc (.cells [.int .u8 92, .int .u8 (bi c)].toArray 5) = wk6 at HY HK HX ⊢
          generalize wr.heap.size = gk7 at HX ⊢
          obtain ⟨a_7, c_7, w_7, hrun, ho, hc⟩ := run_app 30 5 1 _ U30 I5 rfl HY.out 30 ⟨gk7, 0, none⟩ 2 2 [.int .u8 92, .int .u8 (bi c)] rfl (box_news HX.out) (by simp [Value.oneCell', strV, u8V]) (by have h1 := HI.out; have h2 := HMl.out; omega) (by have h1 := HI.out; have h2 := HMl.out; omega) (Nat.le_trans HL.out HK.out.size)
          clear HX
          have HK : Hid (Kept No w w_7) := HK.out.trans hc (fun _ e => e) (fun j hj e => absurd (HY.out.base e) (by have := HN0.out; omega))
          have HY : Hid (Own 5 1 w_7 n0 a_7 c_7 (m.length + 2) (m.map u8V ++ [.int .u8 92, .int .u8 (bi c)])) := ho
          refine wp_runW (.slice a_7 (m.length + 2) c_7) (w_7) (exec_app _ _ 30 30 rfl _ _ _ (by kernel_rfl) (by kernel_rfl) hrun) (by kernel_rfl) ?_
          try simp only [pA, pB, p1, p2, p3]
          clear hrun ho hc
          refine tK (.slice a_7 (m.length + 2) c_7) ?_
          try simp only [pA, pB, p1, p2, p3]
          refine WL.nil ?_
          try simp only [pA, pB, p1, p2, p3]
          go_upto_region 4 with fail
          refine WL.start ?_
          refine tK (.int .i64 ((i : Nat) : Int)) ?_
          try simp only [pA, pB, p1, p2, p3]
          refine tW (.int .i64 ((i + 1 : Nat) : Int)) (exec_bin .add 3 _ _ _ rfl (.int .i64 ((i : Nat) : Int)) (.int .i64 1) (.int .i64 ((i + 1 : Nat) : Int)) (by kernel_rfl) (by kernel_rfl) (by kernel_rfl) (b_add1 i (by have := HI.out; omega) _)) ?_
          try simp only [pA, pB, p1, p2, p3]
          refine tK (.int .i64 ((i + 1 : Nat) : Int)) ?_
          try simp only [pA, pB, p1, p2, p3]
          refine WL.nil ?_
          try simp only [pA, pB, p1, p2, p3]
          go_wp2
          go_roundw
          case rel => exact ⟨i + 1, a_7, c_7, m ++ qB c, by rw [HQ.out]; simp, by go_num, by have := HPp.out; omega, by show _ = _; rw [quoteH_step HCc.out, HM.out], by have h := HY.out; rw [HQ.out]; show Own _ _ _ _ _ _ _ _; simpa [u8V, bi] using h, HK⟩
          case measure => have := HPp.out; simp [intOf]; omega
        · have hn92 : c ≠ 92 := fun e => a92 (by rw [e]; rfl)
          have hcq : ¬ (c = 34 ∨ c = 92) := fun e => e.elim hn34 hn92
          by_cases a10 : bi c = 10
          · have hc10 : c = 10 := bi_inj a10
            have e34 : (bi c == 34) = false := by simp [a34]
            have e92 : (bi c == 92) = false := by simp [a92]
            have e10 : (bi c == 10) = true := by simp [a10]
            have HQ : Hid (qB c = [92, 110]) := by show _ = _; unfold qB; rw [if_neg hcq, if_pos hc10]
            clear a34 a92 a10 hc10 hn34 hn92 hcq
            go_upto_region 3 with fail
            refine WL.start ?_
            refine tK (.int .i64 ((i : Nat) : Int)) ?_
            try simp only [pA, pB, p1, p2, p3]
            refine tK (.slice (some ⟨gb, ob, none⟩) l.length cap) ?_
            try simp only [pA, pB, p1, p2, p3]
            refine tK (.int .i64 ((l.length : Nat) : Int)) ?_
            try simp only [pA, pB, p1, p2, p3]
            refine tW (.bool true) (exec_bin .lss 3 _ _ _ rfl (.int .i64 ((i : Nat) : Int)) (.int .i64 ((l.length : Nat) : Int)) (.bool true) (by kernel_rfl) (by kernel_rfl) (by kernel_rfl) (by rw [b_lss, decide_eq_true hcm])) ?_
            try simp only [pA, pB, p1, p2, p3]
            refine WL.nil ?_
            try simp only [pA, pB, p1, p2, p3]
            go_upto_region 5 with fail
            refine WL.start ?_
            refine tK (.slice (some ⟨gb, ob, none⟩) l.length cap) ?_
            try simp only [pA, pB, p1, p2, p3]
            refine tK (.int .i64 ((i : Nat) : Int)) ?_
            try simp only [pA, pB, p1, p2, p3]
            refine tW (.pointer (some ⟨gb, ob + i * 1, none⟩)) (exec_ixA 30 1 E30 F30 _ _ rfl gb ob l.length cap i (by kernel_rfl) (by kernel_rfl) (by omega)) ?_
            try simp only [pA, pB, p1, p2, p3]
            refine tW (.int .u8 (bi c)) (exec_load 5 _ rfl ⟨gb, ob + i * 1, none⟩ (by kernel_rfl) (.int .u8 (bi c)) (load_one HLd.out U5 rfl)) ?_
            try simp only [pA, pB, p1, p2, p3]
            refine tK (.int .u8 (bi c)) ?_
            try simp only [pA, pB, p1, p2, p3]
            refine WL.nil ?_
            try simp only [pA, pB, p1, p2, p3]
            go_upto_region 7 with fail
            refine WL.start ?_
            refine tK (.int .u8 (bi c)) ?_
            try simp only [pA, pB, p1, p2, p3]
            refine tW (.bool false) (exec_bin .eql 5 _ _ _ rfl (.int .u8 (bi c)) (.int .u8 34) (.bool false) (by kernel_rfl) (by kernel_rfl) (by kernel_rfl) (by rw [b_eq5, e34])) ?_
            try simp only [pA, pB, p1, p2, p3]
            refine tK (.bool false) ?_
            try simp only [pA, pB, p1, p2, p3]
            refine tK (.int .u8 (bi c)) ?_
            try simp only [pA, pB, p1, p2, p3]
            refine tW (.bool false) (exec_bin .eql 5 _ _ _ rfl (.int .u8 (bi c)) (.int .u8 92) (.bool false) (by kernel_rfl) (by kernel_rfl) (by kernel_rfl) (by rw [b_eq5, e92])) ?_
            try simp only [pA, pB, p1, p2, p3]
            refine tK (.bool false) ?_
            try simp only [pA, pB, p1, p2, p3]
            refine tK (.bool false) ?_
            try simp only [pA, pB, p1, p2, p3]
            refine WL.nil ?_
            try simp only [pA, pB, p1, p2, p3]
            go_upto_region 9 with fail
            refine WL.start ?_
            refine tK (.int .u8 (bi c)) ?_
            try simp only [pA, pB, p1, p2, p3]
            refine tW (.bool true) (exec_bin .eql 5 _ _ _ rfl (.int .u8 (bi c)) (.int .u8 10) (.bool true) (by kernel_rfl) (by kernel_rfl) (by kernel_rfl) (by rw [b_eq5, e10])) ?_
            try simp only [pA, pB, p1, p2, p3]
            refine tK (.bool true) ?_
            try simp only [pA, pB, p1, p2, p3]
            refine WL.nil ?_
            try simp only [pA, pB, p1, p2, p3]
            go_upto_region 10 with fail
            refine WL.start ?_
            refine tK (.slice a3 m.length c3) ?_
            try simp only [pA, pB, p1, p2, p3]
            have HY : Hid (Own 5 1 (wr.alloc (.cells [.int .u8 92, .int .u8 110].toArray 5)) n0 a3 c3 m.length (m.map u8V)) := HY.out.no ((Kept.refl No _).alloc _)
            have HK : Hid (Kept No w (wr.alloc (.cells [.int .u8 92, .int .u8 110].toArray 5))) := HK.out.alloc _
            have HX : Hid (Box (wr.alloc (.cells [.int .u8 92, .int .u8 110].toArray 5)) wr.heap.size 5 [.int .u8 92, .int .u8 110].toArray) := Box.new _ _ _
            refine wp_runW (.slice (some ⟨wr.heap.size, 0, none⟩) 2 2) (wr.alloc (.cells [.int .u8 92, .int .u8 110].toArray 5)) (exec_built (by kernel_rfl)) (by kernel_rfl) ?_
            try simp only [pA, pB, p1, p2, p3]
            generalize wr.alloc (.cells [.int .u8 92, .int .u8 110].toArray 5) = wk9 at HY HK HX ⊢
            generalize wr.heap.size = gk10 at HX ⊢
            obtain ⟨a_10, c_10, w_10, hrun, ho, hc⟩ := run_app 30 5 1 _ U30 I5 rfl HY.out 30 ⟨gk10, 0, none⟩ 2 2 [.int .u8 92, .int .u8 110] rfl (box_news HX.out) (by simp [Value.oneCell', strV, u8V]) (by have h1 := HI.out; have h2 := HMl.out; omega) (by have h1 := HI.out; have h2 := HMl.out; omega) (Nat.le_trans HL.out HK.out.size)
            clear HX
            have HK : Hid (Kept No w w_10) := HK.out.trans hc (fun _ e => e) (fun j hj e => absurd (HY.out.base e) (by have := HN0.out; omega))
            have HY : Hid (Own 5 1 w_10 n0 a_10 c_10 (m.length + 2) (m.map u8V ++ [.int .u8 92, .int .u8 110])) := ho
            refine wp_runW (.slice a_10 (m.length + 2) c_10) (w_10) (exec_app _ _ 30 30 rfl _ _ _ (by kernel_rfl) (by kernel_rfl) hrun) (by kernel_rfl) ?_
            try simp only [pA, pB, p1, p2, p3]
            clear hrun ho hc
            refine tK (.slice a_10 (m.length + 2) c_10) ?_
            try simp only [pA, pB, p1, p2, p3]
            refine WL.nil ?_
            try simp only [pA, pB, p1, p2, p3]
            go_upto_region 4 with fail
            refine WL.start ?_
            refine tK (.int .i64 ((i : Nat) : Int)) ?_
            try simp only [pA, pB, p1, p2, p3]
            refine tW (.int .i64 ((i + 1 : Nat) : Int)) (exec_bin .add 3 _ _ _ rfl (.int .i64 ((i : Nat) : Int)) (.int .i64 1) (.int .i64 ((i + 1 : Nat) : Int)) (by kernel_rfl) (by kernel_rfl) (by kernel_rfl) (b_add1 i (by have := HI.out; omega) _)) ?_
            try simp only [pA, pB, p1, p2, p3]
            refine tK (.int .i64 ((i + 1 : Nat) : Int)) ?_
            try simp only [pA, pB, p1, p2, p3]
            refine WL.nil ?_
            try simp only [pA, pB, p1, p2, p3]
            go_wp2
            go_roundw
            case rel => exact ⟨i + 1, a_10, c_10, m ++ qB c, by rw [HQ.out]; simp, by go_num, by have := HPp.out; omega, by show _ = _; rw [quoteH_step HCc.out, HM.out], by have h := HY.out; rw [HQ.out]; show Own _ _ _ _ _ _ _ _; simpa [u8V, bi] using h, HK⟩
            case measure => have := HPp.out; simp [intOf]; omega
          · have hc10 : c ≠ 10 := fun e => a10 (by rw [e]; rfl)
            by_cases a9 : bi c = 9
            · have hc9 : c = 9 := bi_inj a9
              have e34 : (bi c == 34) = false := by simp [a34]
              have e92 : (bi c == 92) = false := by simp [a92]
              have e10 : (bi c == 10) = false := by simp [a10]
              have e9 : (bi c == 9) = true := by simp [a9]
              have HQ : Hid (qB c = [92, 116]) := by show _ = _; unfold qB; rw [if_neg hcq, if_neg hc10, if_pos hc9]
              clear a34 a92 a10 a9 hc9 hc10 hcq hn34 hn92
              go_upto_region 3 with fail
              refine WL.start ?_
              refine tK (.int .i64 ((i : Nat) : Int)) ?_
              try simp only [pA, pB, p1, p2, p3]
              refine tK (.slice (some ⟨gb, ob, none⟩) l.length cap) ?_
              try simp only [pA, pB, p1, p2, p3]
              refine tK (.int .i64 ((l.length : Nat) : Int)) ?_
              try simp only [pA, pB, p1, p2, p3]
              refine tW (.bool true) (exec_bin .lss 3 _ _ _ rfl (.int .i64 ((i : Nat) : Int)) (.int .i64 ((l.length : Nat) : Int)) (.bool true) (by kernel_rfl) (by kernel_rfl) (by kernel_rfl) (by rw [b_lss, decide_eq_true hcm])) ?_
              try simp only [pA, pB, p1, p2, p3]
              refine WL.nil ?_
              try simp only [pA, pB, p1, p2, p3]
              go_upto_region 5 with fail
              refine WL.start ?_
              refine tK (.slice (some ⟨gb, ob, none⟩) l.length cap) ?_
              try simp only [pA, pB, p1, p2, p3]
              refine tK (.int .i64 ((i : Nat) : Int)) ?_
              try simp only [pA, pB, p1, p2, p3]
              refine tW (.pointer (some ⟨gb, ob + i * 1, none⟩)) (exec_ixA 30 1 E30 F30 _ _ rfl gb ob l.length cap i (by kernel_rfl) (by kernel_rfl) (by omega)) ?_
              try simp only [pA, pB, p1, p2, p3]
              refine tW (.int .u8 (bi c)) (exec_load 5 _ rfl ⟨gb, ob + i * 1, none⟩ (by kernel_rfl) (.int .u8 (bi c)) (load_one HLd.out U5 rfl)) ?_
              try simp only [pA, pB, p1, p2, p3]
              refine tK (.int .u8 (bi c)) ?_
              try simp only [pA, pB, p1, p2, p3]
              refine WL.nil ?_
              try simp only [pA, pB, p1, p2, p3]
              go_upto_region 7 with fail
              refine WL.start ?_
              refine tK (.int .u8 (bi c)) ?_
              try simp only [pA, pB, p1, p2, p3]
              refine tW (.bool false) (exec_bin .eql 5 _ _ _ rfl (.int .u8 (bi c)) (.int .u8 34) (.bool false) (by kernel_rfl) (by kernel_rfl) (by kernel_rfl) (by rw [b_eq5, e34])) ?_
              try simp only [pA, pB, p1, p2, p3]
              refine tK (.bool false) ?_
              try simp only [pA, pB, p1, p2, p3]
              refine tK (.int .u8 (bi c)) ?_
              try simp only [pA, pB, p1, p2, p3]
              refine tW (.bool false) (exec_bin .eql 5 _ _ _ rfl (.int .u8 (bi c)) (.int .u8 92) (.bool false) (by kernel_rfl) (by kernel_rfl) (by kernel_rfl) (by rw [b_eq5, e92])) ?_
              try simp only [pA, pB, p1, p2, p3]
              refine tK (.bool false) ?_
              try simp only [pA, pB, p1, p2, p3]
              refine tK (.bool false) ?_
              try simp only [pA, pB, p1, p2, p3]
              refine WL.nil ?_
              try simp only [pA, pB, p1, p2, p3]
              go_upto_region 9 with fail
              refine WL.start ?_
              refine tK (.int .u8 (bi c)) ?_
              try simp only [pA, pB, p1, p2, p3]
              refine tW (.bool false) (exec_bin .eql 5 _ _ _ rfl (.int .u8 (bi c)) (.int .u8 10) (.bool false) (by kernel_rfl) (by kernel_rfl) (by kernel_rfl) (by rw [b_eq5, e10])) ?_
              try simp only [pA, pB, p1, p2, p3]
              refine tK (.bool false) ?_
              try simp only [pA, pB, p1, p2, p3]
              refine WL.nil ?_
              try simp only [pA, pB, p1, p2, p3]
              go_upto_region 11 with fail
              refine WL.start ?_
              refine tK (.int .u8 (bi c)) ?_
              try simp only [pA, pB, p1, p2, p3]
              refine tW (.bool true) (exec_bin .eql 5 _ _ _ rfl (.int .u8 (bi c)) (.int .u8 9) (.bool true) (by kernel_rfl) (by kernel_rfl) (by kernel_rfl) (by rw [b_eq5, e9])) ?_
              try simp only [pA, pB, p1, p2, p3]
              refine tK (.bool true) ?_
              try simp only [pA, pB, p1, p2, p3]
              refine WL.nil ?_
              try simp only [pA, pB, p1, p2, p3]
              go_upto_region 12 with fail
              refine WL.start ?_
              refine tK (.slice a3 m.length c3) ?_
              try simp only [pA, pB, p1, p2, p3]
              have HY : Hid (Own 5 1 (wr.alloc (.cells [.int .u8 92, .int .u8 116].toArray 5)) n0 a3 c3 m.length (m.map u8V)) := HY.out.no ((Kept.refl No _).alloc _)
              have HK : Hid (Kept No w (wr.alloc (.cells [.int .u8 92, .int .u8 116].toArray 5))) := HK.out.alloc _
              have HX : Hid (Box (wr.alloc (.cells [.int .u8 92, .int .u8 116].toArray 5)) wr.heap.size 5 [.int .u8 92, .int .u8 116].toArray) := Box.new _ _ _
              refine wp_runW (.slice (some ⟨wr.heap.size, 0, none⟩) 2 2) (wr.alloc (.cells [.int .u8 92, .int .u8 116].toArray 5)) (exec_built (by kernel_rfl)) (by kernel_rfl) ?_
              try simp only [pA, pB, p1, p2, p3]
              generalize wr.alloc (.cells [.int .u8 92, .int .u8 116].toArray 5) = wk12 at HY HK HX ⊢
              generalize wr.heap.size = gk13 at HX ⊢
              obtain ⟨a_13, c_13, w_13, hrun, ho, hc⟩ := run_app 30 5 1 _ U30 I5 rfl HY.out 30 ⟨gk13, 0, none⟩ 2 2 [.int .u8 92, .int .u8 116] rfl (box_news HX.out) (by simp [Value.oneCell', strV, u8V]) (by have h1 := HI.out; have h2 := HMl.out; omega) (by have h1 := HI.out; have h2 := HMl.out; omega) (Nat.le_trans HL.out HK.out.size)
              clear HX
              have HK : Hid (Kept No w w_13) := HK.out.trans hc (fun _ e => e) (fun j hj e => absurd (HY.out.base e) (by have := HN0.out; omega))
              have HY : Hid (Own 5 1 w_13 n0 a_13 c_13 (m.length + 2) (m.map u8V ++ [.int .u8 92, .int .u8 116])) := ho
              refine wp_runW (.slice a_13 (m.length + 2) c_13) (w_13) (exec_app _ _ 30 30 rfl _ _ _ (by kernel_rfl) (by kernel_rfl) hrun) (by kernel_rfl) ?_
              try simp only [pA, pB, p1, p2, p3]
              clear hrun ho hc
              refine tK (.slice a_13 (m.length + 2) c_13) ?_
              try simp only [pA, pB, p1, p2, p3]
              refine WL.nil ?_
              try simp only [pA, pB, p1, p2, p3]
              go_upto_region 4 with fail
              refine WL.start ?_
              refine tK (.int .i64 ((i : Nat) : Int)) ?_
              try simp only [pA, pB, p1, p2, p3]
              refine tW (.int .i64 ((i + 1 : Nat) : Int)) (exec_bin .add 3 _ _ _ rfl (.int .i64 ((i : Nat) : Int)) (.int .i64 1) (.int .i64 ((i + 1 : Nat) : Int)) (by kernel_rfl) (by kernel_rfl) (by kernel_rfl) (b_add1 i (by have := HI.out; omega) _)) ?_
              try simp only [pA, pB, p1, p2, p3]
              refine tK (.int .i64 ((i + 1 : Nat) : Int)) ?_
              try simp only [pA, pB, p1, p2, p3]
              refine WL.nil ?_
              try simp only [pA, pB, p1, p2, p3]
              go_wp2
              go_roundw
              case rel => exact ⟨i + 1, a_13, c_13, m ++ qB c, by rw [HQ.out]; simp, by go_num, by have := HPp.out; omega, by show _ = _; rw [quoteH_step HCc.out, HM.out], by have h := HY.out; rw [HQ.out]; show Own _ _ _ _ _ _ _ _; simpa [u8V, bi] using h, HK⟩
              case measure => have := HPp.out; simp [intOf]; omega
            · have hc9 : c ≠ 9 := fun e => a9 (by rw [e]; rfl)
              by_cases hlo : bi c < 32
              · skip
                have e34 : (bi c == 34) = false := by simp [a34]
                have e92 : (bi c == 92) = false := by simp [a92]
                have e10 : (bi c == 10) = false := by simp [a10]
                have e9 : (bi c == 9) = false := by simp [a9]
                have HQ : Hid (qB c = [92, 120, hx (c.toNat / 16), hx (c.toNat % 16)]) := by show _ = _; unfold qB; rw [if_neg hcq, if_neg hc10, if_neg hc9, if_pos (Or.inl (UInt8.lt_iff_toNat_lt.2 (by have h : bi c < 32 := hlo; unfold bi at h; show c.toNat < 32; omega)))]
                clear a34 a92 a10 a9 hc9 hc10 hcq hn34 hn92
                go_upto_region 3 with fail
                refine WL.start ?_
                refine tK (.int .i64 ((i : Nat) : Int)) ?_
                try simp only [pA, pB, p1, p2, p3]
                refine tK (.slice (some ⟨gb, ob, none⟩) l.length cap) ?_
                try simp only [pA, pB, p1, p2, p3]
                refine tK (.int .i64 ((l.length : Nat) : Int)) ?_
                try simp only [pA, pB, p1, p2, p3]
                refine tW (.bool true) (exec_bin .lss 3 _ _ _ rfl (.int .i64 ((i : Nat) : Int)) (.int .i64 ((l.length : Nat) : Int)) (.bool true) (by kernel_rfl) (by kernel_rfl) (by kernel_rfl) (by rw [b_lss, decide_eq_true hcm])) ?_
                try simp only [pA, pB, p1, p2, p3]
                refine WL.nil ?_
                try simp only [pA, pB, p1, p2, p3]
                go_upto_region 5 with fail
                refine WL.start ?_
                refine tK (.slice (some ⟨gb, ob, none⟩) l.length cap) ?_
                try simp only [pA, pB, p1, p2, p3]
                refine tK (.int .i64 ((i : Nat) : Int)) ?_
                try simp only [pA, pB, p1, p2, p3]
                refine tW (.pointer (some ⟨gb, ob + i * 1, none⟩)) (exec_ixA 30 1 E30 F30 _ _ rfl gb ob l.length cap i (by kernel_rfl) (by kernel_rfl) (by omega)) ?_
                try simp only [pA, pB, p1, p2, p3]
                refine tW (.int .u8 (bi c)) (exec_load 5 _ rfl ⟨gb, ob + i * 1, none⟩ (by kernel_rfl) (.int .u8 (bi c)) (load_one HLd.out U5 rfl)) ?_
                try simp only [pA, pB, p1, p2, p3]
                refine tK (.int .u8 (bi c)) ?_
                try simp only [pA, pB, p1, p2, p3]
                refine WL.nil ?_
                try simp only [pA, pB, p1, p2, p3]
                go_upto_region 7 with fail
                refine WL.start ?_
                refine tK (.int .u8 (bi c)) ?_
                try simp only [pA, pB, p1, p2, p3]
                refine tW (.bool false) (exec_bin .eql 5 _ _ _ rfl (.int .u8 (bi c)) (.int .u8 34) (.bool false) (by kernel_rfl) (by kernel_rfl) (by kernel_rfl) (by rw [b_eq5, e34])) ?_
                try simp only [pA, pB, p1, p2, p3]
                refine tK (.bool false) ?_
                try simp only [pA, pB, p1, p2, p3]
                refine tK (.int .u8 (bi c)) ?_
                try simp only [pA, pB, p1, p2, p3]
                refine tW (.bool false) (exec_bin .eql 5 _ _ _ rfl (.int .u8 (bi c)) (.int .u8 92) (.bool false) (by kernel_rfl) (by kernel_rfl) (by kernel_rfl) (by rw [b_eq5, e92])) ?_
                try simp only [pA, pB, p1, p2, p3]
                refine tK (.bool false) ?_
                try simp only [pA, pB, p1, p2, p3]
                refine tK (.bool false) ?_
                try simp only [pA, pB, p1, p2, p3]
                refine WL.nil ?_
                try simp only [pA, pB, p1, p2, p3]
                go_upto_region 9 with fail
                refine WL.start ?_
                refine tK (.int .u8 (bi c)) ?_
                try simp only [pA, pB, p1, p2, p3]
                refine tW (.bool false) (exec_bin .eql 5 _ _ _ rfl (.int .u8 (bi c)) (.int .u8 10) (.bool false) (by kernel_rfl) (by kernel_rfl) (by kernel_rfl) (by rw [b_eq5, e10])) ?_
                try simp only [pA, pB, p1, p2, p3]
                refine tK (.bool false) ?_
                try simp only [pA, pB, p1, p2, p3]
                refine WL.nil ?_
                try simp only [pA, pB, p1, p2, p3]
                go_upto_region 11 with fail
                refine WL.start ?_
                refine tK (.int .u8 (bi c)) ?_
                try simp only [pA, pB, p1, p2, p3]
                refine tW (.bool false) (exec_bin .eql 5 _ _ _ rfl (.int .u8 (bi c)) (.int .u8 9) (.bool false) (by kernel_rfl) (by kernel_rfl) (by kernel_rfl) (by rw [b_eq5, e9])) ?_
                try simp only [pA, pB, p1, p2, p3]
                refine tK (.bool false) ?_
                try simp only [pA, pB, p1, p2, p3]
                refine WL.nil ?_
                try simp only [pA, pB, p1, p2, p3]
                go_upto_region 13 with fail
                refine WL.start ?_
                refine tK (.int .u8 (bi c)) ?_
                try simp only [pA, pB, p1, p2, p3]
                refine tW (.bool true) (exec_bin .lss 5 _ _ _ rfl (.int .u8 (bi c)) (.int .u8 32) (.bool true) (by kernel_rfl) (by kernel_rfl) (by kernel_rfl) (by rw [b_lss5, decide_eq_true hlo])) ?_
                try simp only [pA, pB, p1, p2, p3]
                refine tK (.bool true) ?_
                try simp only [pA, pB, p1, p2, p3]
                refine sK ?_
                try simp only [pA, pB, p1, p2, p3]
                refine sK ?_
                try simp only [pA, pB, p1, p2, p3]
                refine tK (.bool true) ?_
                try simp only [pA, pB, p1, p2, p3]
                refine tK (.bool true) ?_
                try simp only [pA, pB, p1, p2, p3]
                refine WL.nil ?_
                try simp only [pA, pB, p1, p2, p3]
                go_upto_region 14 with fail
                have HY : Hid (Own 5 1 wr.drew n0 a3 c3 m.length (m.map u8V)) := HY.out.no (Kept.refl No _).drew
                have HK : Hid (Kept No w wr.drew) := HK.out.drew
                refine wp_region_held_drew (S := fun w' => True) rfl trivial (fun hH => ?_)
                generalize wr.drew = wk15 at HY HK hH ⊢
                refine aT (i := 0) (oi := { dst := some 51, op := Op.move (Operand.tmp 3), type := 30, pos := "words.go:151", after := #[], guard := none }) (v := .slice a3 m.length c3) (fun _ _ => by kernel_rfl) hH ?_
                try simp only [pA, pB, p1, p2, p3]
                refine aT (i := 1) (oi := { dst := some 52, op := Op.move (Operand.tmp 5), type := 5, pos := "words.go:151", after := #[], guard := none }) (v := .int .u8 (bi c)) (fun _ _ => by kernel_rfl) hH ?_
                try simp only [pA, pB, p1, p2, p3]
                refine aT (i := 2) (oi := { dst := some 53, op := Op.binOp BinOp.quo 5 (Operand.tmp 52) (Operand.const (Value.int IntKind.u8 16)) 5, type := 5, pos := "words.go:151", after := #[{ on := 1, ground := Ground.data }], guard := none }) (v := .int .u8 ((c.toNat / 16 : Nat) : Int)) (fun w' hw => exec_bin .quo 5 _ _ _ rfl (.int .u8 (bi c)) (.int .u8 16) (.int .u8 ((c.toNat / 16 : Nat) : Int)) (by kernel_rfl) (by kernel_rfl) (by kernel_rfl) (b_quo16 c _)) hH ?_
                try simp only [pA, pB, p1, p2, p3]
                refine aT (i := 3) (oi := { dst := some 54, op := Op.index 9 (Operand.const (Value.string { data := #[48, 49, 50, 51, 52, 53, 54, 55, 56, 57, 97, 98, 99, 100, 101, 102] })) (Operand.tmp 53), type := 5, pos := "words.go:151", after := #[{ on := 2, ground := Ground.data }], guard := none }) (v := .int .u8 (bi (hx (c.toNat / 16)))) (fun w' hw => exec_hex _ _ rfl (c.toNat / 16) (by have := c.toNat_lt; omega) (by kernel_rfl) (by kernel_rfl)) hH ?_
                try simp only [pA, pB, p1, p2, p3]
                refine aT (i := 4) (oi := { dst := some 55, op := Op.move (Operand.tmp 5), type := 5, pos := "words.go:151", after := #[], guard := none }) (v := .int .u8 (bi c)) (fun _ _ => by kernel_rfl) hH ?_
                try simp only [pA, pB, p1, p2, p3]
                refine aT (i := 5) (oi := { dst := some 56, op := Op.binOp BinOp.rem 5 (Operand.tmp 55) (Operand.const (Value.int IntKind.u8 16)) 5, type := 5, pos := "words.go:151", after := #[{ on := 4, ground := Ground.data }], guard := none }) (v := .int .u8 ((c.toNat % 16 : Nat) : Int)) (fun w' hw => exec_bin .rem 5 _ _ _ rfl (.int .u8 (bi c)) (.int .u8 16) (.int .u8 ((c.toNat % 16 : Nat) : Int)) (by kernel_rfl) (by kernel_rfl) (by kernel_rfl) (b_rem16 c _)) hH ?_
                try simp only [pA, pB, p1, p2, p3]
                refine aT (i := 6) (oi := { dst := some 57, op := Op.index 9 (Operand.const (Value.string { data := #[48, 49, 50, 51, 52, 53, 54, 55, 56, 57, 97, 98, 99, 100, 101, 102] })) (Operand.tmp 56), type := 5, pos := "words.go:151", after := #[{ on := 5, ground := Ground.data }], guard := none }) (v := .int .u8 (bi (hx (c.toNat % 16)))) (fun w' hw => exec_hex _ _ rfl (c.toNat % 16) (by have := c.toNat_lt; omega) (by kernel_rfl) (by kernel_rfl)) hH ?_
                try simp only [pA, pB, p1, p2, p3]
                have HY : Hid (Own 5 1 (wk15.alloc (.cells [.int .u8 92, .int .u8 120, .int .u8 (bi (hx (c.toNat / 16))), .int .u8 (bi (hx (c.toNat % 16)))].toArray 5)) n0 a3 c3 m.length (m.map u8V)) := HY.out.no ((Kept.refl No _).alloc _)
                have HK : Hid (Kept No w (wk15.alloc (.cells [.int .u8 92, .int .u8 120, .int .u8 (bi (hx (c.toNat / 16))), .int .u8 (bi (hx (c.toNat % 16)))].toArray 5))) := HK.out.alloc _
                have HX : Hid (Box (wk15.alloc (.cells [.int .u8 92, .int .u8 120, .int .u8 (bi (hx (c.toNat / 16))), .int .u8 (bi (hx (c.toNat % 16)))].toArray 5)) wk15.heap.size 5 [.int .u8 92, .int .u8 120, .int .u8 (bi (hx (c.toNat / 16))), .int .u8 (bi (hx (c.toNat % 16)))].toArray) := Box.new _ _ _
                refine any_step (i := 7) (o := { dst := some 58, op := Op.buildSlice 30 4 #[(0, Operand.const (Value.int IntKind.u8 92)), (1, Operand.const (Value.int IntKind.u8 120)), (2, Operand.tmp 54), (3, Operand.tmp 57)], type := 30, pos := "words.go:151", after := #[{ on := 3, ground := Ground.data }, { on := 6, ground := Ground.data }], guard := none }) (v := .slice (some ⟨wk15.heap.size, 0, none⟩) 4 4) (w' := wk15.alloc (.cells [.int .u8 92, .int .u8 120, .int .u8 (bi (hx (c.toNat / 16))), .int .u8 (bi (hx (c.toNat % 16)))].toArray 5)) rfl (by kernel_rfl) (by kernel_rfl) (exec_built (by kernel_rfl)) trivial (fun hH => ?_)
                try simp only [pA, pB, p1, p2, p3]
                generalize wk15.alloc (.cells [.int .u8 92, .int .u8 120, .int .u8 (bi (hx (c.toNat / 16))), .int .u8 (bi (hx (c.toNat % 16)))].toArray 5) = wk16 at HY HK HX hH ⊢
                generalize wk15.heap.size = gk17 at HX ⊢
                obtain ⟨a_17, c_17, w_17, hrun, ho, hc⟩ := run_app 30 5 1 _ U30 I5 rfl HY.out 30 ⟨gk17, 0, none⟩ 4 4 [.int .u8 92, .int .u8 120, .int .u8 (bi (hx (c.toNat / 16))), .int .u8 (bi (hx (c.toNat % 16)))] rfl (box_news HX.out) (by simp [Value.oneCell', strV, u8V]) (by have h1 := HI.out; have h2 := HMl.out; omega) (by have h1 := HI.out; have h2 := HMl.out; omega) (Nat.le_trans HL.out HK.out.size)
                clear HX
                have HK : Hid (Kept No w w_17) := HK.out.trans hc (fun _ e => e) (fun j hj e => absurd (HY.out.base e) (by have := HN0.out; omega))
                have HY : Hid (Own 5 1 w_17 n0 a_17 c_17 (m.length + 4) (m.map u8V ++ [.int .u8 92, .int .u8 120, .int .u8 (bi (hx (c.toNat / 16))), .int .u8 (bi (hx (c.toNat % 16)))])) := ho
                refine any_step (i := 8) (o := { dst := some 59, op := Op.call { callee := Callee.builtin Builtin.append, args := #[Operand.tmp 51, Operand.tmp 58], argTypes := #[30, 30] }, type := 30, pos := "words.go:151", after := #[{ on := 0, ground := Ground.data }, { on := 7, ground := Ground.data }], guard := none }) (v := .slice a_17 (m.length + 4) c_17) (w' := w_17) rfl (by kernel_rfl) (by kernel_rfl) (exec_app _ _ 30 30 rfl _ _ _ (by kernel_rfl) (by kernel_rfl) hrun) trivial (fun hH => ?_)
                try simp only [pA, pB, p1, p2, p3]
                clear hrun ho hc
                refine aT (i := 9) (oi := { dst := some 3, op := Op.assign (Operand.tmp 59), type := 30, pos := "words.go:151", after := #[{ on := 8, ground := Ground.data }, { on := 8, ground := Ground.chain }, { on := 0, ground := Ground.phase }, { on := 1, ground := Ground.phase }, { on := 2, ground := Ground.phase }, { on := 3, ground := Ground.phase }, { on := 4, ground := Ground.phase }, { on := 5, ground := Ground.phase }, { on := 6, ground := Ground.phase }, { on := 7, ground := Ground.phase }, { on := 8, ground := Ground.phase }], guard := none }) (v := .slice a_17 (m.length + 4) c_17) (fun _ _ => by kernel_rfl) hH ?_
                try simp only [pA, pB, p1, p2, p3]
                refine wpAnyH_done (by kernel_rfl) ?_ _
                try simp only [pA, pB, p1, p2, p3]
                clear hH
                go_upto_region 4 with fail
                refine WL.start ?_
                refine tK (.int .i64 ((i : Nat) : Int)) ?_
                try simp only [pA, pB, p1, p2, p3]
                refine tW (.int .i64 ((i + 1 : Nat) : Int)) (exec_bin .add 3 _ _ _ rfl (.int .i64 ((i : Nat) : Int)) (.int .i64 1) (.int .i64 ((i + 1 : Nat) : Int)) (by kernel_rfl) (by kernel_rfl) (by kernel_rfl) (b_add1 i (by have := HI.out; omega) _)) ?_
                try simp only [pA, pB, p1, p2, p3]
                refine tK (.int .i64 ((i + 1 : Nat) : Int)) ?_
                try simp only [pA, pB, p1, p2, p3]
                refine WL.nil ?_
                try simp only [pA, pB, p1, p2, p3]
                go_wp2
                go_roundw
                case rel => exact ⟨i + 1, a_17, c_17, m ++ qB c, by rw [HQ.out]; simp, by go_num, by have := HPp.out; omega, by show _ = _; rw [quoteH_step HCc.out, HM.out], by have h := HY.out; rw [HQ.out]; show Own _ _ _ _ _ _ _ _; simpa [u8V, bi] using h, HK⟩
                case measure => have := HPp.out; simp [intOf]; omega
              · by_cases hhi : 126 < bi c
                · skip
                  have e34 : (bi c == 34) = false := by simp [a34]
                  have e92 : (bi c == 92) = false := by simp [a92]
                  have e10 : (bi c == 10) = false := by simp [a10]
                  have e9 : (bi c == 9) = false := by simp [a9]
                  have HQ : Hid (qB c = [92, 120, hx (c.toNat / 16), hx (c.toNat % 16)]) := by show _ = _; unfold qB; rw [if_neg hcq, if_neg hc10, if_neg hc9, if_pos (Or.inr (UInt8.lt_iff_toNat_lt.2 (by have h : 126 < bi c := hhi; unfold bi at h; show 126 < c.toNat; omega)))]
                  clear a34 a92 a10 a9 hc9 hc10 hcq hn34 hn92
                  go_upto_region 3 with fail
                  refine WL.start ?_
                  refine tK (.int .i64 ((i : Nat) : Int)) ?_
                  try simp only [pA, pB, p1, p2, p3]
                  refine tK (.slice (some ⟨gb, ob, none⟩) l.length cap) ?_
                  try simp only [pA, pB, p1, p2, p3]
                  refine tK (.int .i64 ((l.length : Nat) : Int)) ?_
                  try simp only [pA, pB, p1, p2, p3]
                  refine tW (.bool true) (exec_bin .lss 3 _ _ _ rfl (.int .i64 ((i : Nat) : Int)) (.int .i64 ((l.length : Nat) : Int)) (.bool true) (by kernel_rfl) (by kernel_rfl) (by kernel_rfl) (by rw [b_lss, decide_eq_true hcm])) ?_
                  try simp only [pA, pB, p1, p2, p3]
                  refine WL.nil ?_
                  try simp only [pA, pB, p1, p2, p3]
                  go_upto_region 5 with fail
                  refine WL.start ?_
                  refine tK (.slice (some ⟨gb, ob, none⟩) l.length cap) ?_
                  try simp only [pA, pB, p1, p2, p3]
                  refine tK (.int .i64 ((i : Nat) : Int)) ?_
                  try simp only [pA, pB, p1, p2, p3]
                  refine tW (.pointer (some ⟨gb, ob + i * 1, none⟩)) (exec_ixA 30 1 E30 F30 _ _ rfl gb ob l.length cap i (by kernel_rfl) (by kernel_rfl) (by omega)) ?_
                  try simp only [pA, pB, p1, p2, p3]
                  refine tW (.int .u8 (bi c)) (exec_load 5 _ rfl ⟨gb, ob + i * 1, none⟩ (by kernel_rfl) (.int .u8 (bi c)) (load_one HLd.out U5 rfl)) ?_
                  try simp only [pA, pB, p1, p2, p3]
                  refine tK (.int .u8 (bi c)) ?_
                  try simp only [pA, pB, p1, p2, p3]
                  refine WL.nil ?_
                  try simp only [pA, pB, p1, p2, p3]
                  go_upto_region 7 with fail
                  refine WL.start ?_
                  refine tK (.int .u8 (bi c)) ?_
                  try simp only [pA, pB, p1, p2, p3]
                  refine tW (.bool false) (exec_bin .eql 5 _ _ _ rfl (.int .u8 (bi c)) (.int .u8 34) (.bool false) (by kernel_rfl) (by kernel_rfl) (by kernel_rfl) (by rw [b_eq5, e34])) ?_
                  try simp only [pA, pB, p1, p2, p3]
                  refine tK (.bool false) ?_
                  try simp only [pA, pB, p1, p2, p3]
                  refine tK (.int .u8 (bi c)) ?_
                  try simp only [pA, pB, p1, p2, p3]
                  refine tW (.bool false) (exec_bin .eql 5 _ _ _ rfl (.int .u8 (bi c)) (.int .u8 92) (.bool false) (by kernel_rfl) (by kernel_rfl) (by kernel_rfl) (by rw [b_eq5, e92])) ?_
                  try simp only [pA, pB, p1, p2, p3]
                  refine tK (.bool false) ?_
                  try simp only [pA, pB, p1, p2, p3]
                  refine tK (.bool false) ?_
                  try simp only [pA, pB, p1, p2, p3]
                  refine WL.nil ?_
                  try simp only [pA, pB, p1, p2, p3]
                  go_upto_region 9 with fail
                  refine WL.start ?_
                  refine tK (.int .u8 (bi c)) ?_
                  try simp only [pA, pB, p1, p2, p3]
                  refine tW (.bool false) (exec_bin .eql 5 _ _ _ rfl (.int .u8 (bi c)) (.int .u8 10) (.bool false) (by kernel_rfl) (by kernel_rfl) (by kernel_rfl) (by rw [b_eq5, e10])) ?_
                  try simp only [pA, pB, p1, p2, p3]
                  refine tK (.bool false) ?_
                  try simp only [pA, pB, p1, p2, p3]
                  refine WL.nil ?_
                  try simp only [pA, pB, p1, p2, p3]
                  go_upto_region 11 with fail
                  refine WL.start ?_
                  refine tK (.int .u8 (bi c)) ?_
                  try simp only [pA, pB, p1, p2, p3]
                  refine tW (.bool false) (exec_bin .eql 5 _ _ _ rfl (.int .u8 (bi c)) (.int .u8 9) (.bool false) (by kernel_rfl) (by kernel_rfl) (by kernel_rfl) (by rw [b_eq5, e9])) ?_
                  try simp only [pA, pB, p1, p2, p3]
                  refine tK (.bool false) ?_
                  try simp only [pA, pB, p1, p2, p3]
                  refine WL.nil ?_
                  try simp only [pA, pB, p1, p2, p3]
                  go_upto_region 13 with fail
                  refine WL.start ?_
                  refine tK (.int .u8 (bi c)) ?_
                  try simp only [pA, pB, p1, p2, p3]
                  refine tW (.bool false) (exec_bin .lss 5 _ _ _ rfl (.int .u8 (bi c)) (.int .u8 32) (.bool false) (by kernel_rfl) (by kernel_rfl) (by kernel_rfl) (by rw [b_lss5, decide_eq_false hlo])) ?_
                  try simp only [pA, pB, p1, p2, p3]
                  refine tK (.bool false) ?_
                  try simp only [pA, pB, p1, p2, p3]
                  refine tK (.int .u8 (bi c)) ?_
                  try simp only [pA, pB, p1, p2, p3]
                  refine tW (.bool true) (exec_bin .gtr 5 _ _ _ rfl (.int .u8 (bi c)) (.int .u8 126) (.bool true) (by kernel_rfl) (by kernel_rfl) (by kernel_rfl) (by rw [b_gtr5, decide_eq_true hhi])) ?_
                  try simp only [pA, pB, p1, p2, p3]
                  refine tK (.bool true) ?_
                  try simp only [pA, pB, p1, p2, p3]
                  refine tK (.bool true) ?_
                  try simp only [pA, pB, p1, p2, p3]
                  refine WL.nil ?_
                  try simp only [pA, pB, p1, p2, p3]
                  go_upto_region 14 with fail
                  have HY : Hid (Own 5 1 wr.drew n0 a3 c3 m.length (m.map u8V)) := HY.out.no (Kept.refl No _).drew
                  have HK : Hid (Kept No w wr.drew) := HK.out.drew
                  refine wp_region_held_drew (S := fun w' => True) rfl trivial (fun hH => ?_)
                  generalize wr.drew = wk19 at HY HK hH ⊢
                  refine aT (i := 0) (oi := { dst := some 51, op := Op.move (Operand.tmp 3), type := 30, pos := "words.go:151", after := #[], guard := none }) (v := .slice a3 m.length c3) (fun _ _ => by kernel_rfl) hH ?_
                  try simp only [pA, pB, p1, p2, p3]
                  refine aT (i := 1) (oi := { dst := some 52, op := Op.move (Operand.tmp 5), type := 5, pos := "words.go:151", after := #[], guard := none }) (v := .int .u8 (bi c)) (fun _ _ => by kernel_rfl) hH ?_
                  try simp only [pA, pB, p1, p2, p3]
                  refine aT (i := 2) (oi := { dst := some 53, op := Op.binOp BinOp.quo 5 (Operand.tmp 52) (Operand.const (Value.int IntKind.u8 16)) 5, type := 5, pos := "words.go:151", after := #[{ on := 1, ground := Ground.data }], guard := none }) (v := .int .u8 ((c.toNat / 16 : Nat) : Int)) (fun w' hw => exec_bin .quo 5 _ _ _ rfl (.int .u8 (bi c)) (.int .u8 16) (.int .u8 ((c.toNat / 16 : Nat) : Int)) (by kernel_rfl) (by kernel_rfl) (by kernel_rfl) (b_quo16 c _)) hH ?_
                  try simp only [pA, pB, p1, p2, p3]
                  refine aT (i := 3) (oi := { dst := some 54, op := Op.index 9 (Operand.const (Value.string { data := #[48, 49, 50, 51, 52, 53, 54, 55, 56, 57, 97, 98, 99, 100, 101, 102] })) (Operand.tmp 53), type := 5, pos := "words.go:151", after := #[{ on := 2, ground := Ground.data }], guard := none }) (v := .int .u8 (bi (hx (c.toNat / 16)))) (fun w' hw => exec_hex _ _ rfl (c.toNat / 16) (by have := c.toNat_lt; omega) (by kernel_rfl) (by kernel_rfl)) hH ?_
                  try simp only [pA, pB, p1, p2, p3]
                  refine aT (i := 4) (oi := { dst := some 55, op := Op.move (Operand.tmp 5), type := 5, pos := "words.go:151", after := #[], guard := none }) (v := .int .u8 (bi c)) (fun _ _ => by kernel_rfl) hH ?_
                  try simp only [pA, pB, p1, p2, p3]
                  refine aT (i := 5) (oi := { dst := some 56, op := Op.binOp BinOp.rem 5 (Operand.tmp 55) (Operand.const (Value.int IntKind.u8 16)) 5, type := 5, pos := "words.go:151", after := #[{ on := 4, ground := Ground.data }], guard := none }) (v := .int .u8 ((c.toNat % 16 : Nat) : Int)) (fun w' hw => exec_bin .rem 5 _ _ _ rfl (.int .u8 (bi c)) (.int .u8 16) (.int .u8 ((c.toNat % 16 : Nat) : Int)) (by kernel_rfl) (by kernel_rfl) (by kernel_rfl) (b_rem16 c _)) hH ?_
                  try simp only [pA, pB, p1, p2, p3]
                  refine aT (i := 6) (oi := { dst := some 57, op := Op.index 9 (Operand.const (Value.string { data := #[48, 49, 50, 51, 52, 53, 54, 55, 56, 57, 97, 98, 99, 100, 101, 102] })) (Operand.tmp 56), type := 5, pos := "words.go:151", after := #[{ on := 5, ground := Ground.data }], guard := none }) (v := .int .u8 (bi (hx (c.toNat % 16)))) (fun w' hw => exec_hex _ _ rfl (c.toNat % 16) (by have := c.toNat_lt; omega) (by kernel_rfl) (by kernel_rfl)) hH ?_
                  try simp only [pA, pB, p1, p2, p3]
                  have HY : Hid (Own 5 1 (wk19.alloc (.cells [.int .u8 92, .int .u8 120, .int .u8 (bi (hx (c.toNat / 16))), .int .u8 (bi (hx (c.toNat % 16)))].toArray 5)) n0 a3 c3 m.length (m.map u8V)) := HY.out.no ((Kept.refl No _).alloc _)
                  have HK : Hid (Kept No w (wk19.alloc (.cells [.int .u8 92, .int .u8 120, .int .u8 (bi (hx (c.toNat / 16))), .int .u8 (bi (hx (c.toNat % 16)))].toArray 5))) := HK.out.alloc _
                  have HX : Hid (Box (wk19.alloc (.cells [.int .u8 92, .int .u8 120, .int .u8 (bi (hx (c.toNat / 16))), .int .u8 (bi (hx (c.toNat % 16)))].toArray 5)) wk19.heap.size 5 [.int .u8 92, .int .u8 120, .int .u8 (bi (hx (c.toNat / 16))), .int .u8 (bi (hx (c.toNat % 16)))].toArray) := Box.new _ _ _
                  refine any_step (i := 7) (o := { dst := some 58, op := Op.buildSlice 30 4 #[(0, Operand.const (Value.int IntKind.u8 92)), (1, Operand.const (Value.int IntKind.u8 120)), (2, Operand.tmp 54), (3, Operand.tmp 57)], type := 30, pos := "words.go:151", after := #[{ on := 3, ground := Ground.data }, { on := 6, ground := Ground.data }], guard := none }) (v := .slice (some ⟨wk19.heap.size, 0, none⟩) 4 4) (w' := wk19.alloc (.cells [.int .u8 92, .int .u8 120, .int .u8 (bi (hx (c.toNat / 16))), .int .u8 (bi (hx (c.toNat % 16)))].toArray 5)) rfl (by kernel_rfl) (by kernel_rfl) (exec_built (by kernel_rfl)) trivial (fun hH => ?_)
                  try simp only [pA, pB, p1, p2, p3]
                  generalize wk19.alloc (.cells [.int .u8 92, .int .u8 120, .int .u8 (bi (hx (c.toNat / 16))), .int .u8 (bi (hx (c.toNat % 16)))].toArray 5) = wk20 at HY HK HX hH ⊢
                  generalize wk19.heap.size = gk21 at HX ⊢
                  obtain ⟨a_21, c_21, w_21, hrun, ho, hc⟩ := run_app 30 5 1 _ U30 I5 rfl HY.out 30 ⟨gk21, 0, none⟩ 4 4 [.int .u8 92, .int .u8 120, .int .u8 (bi (hx (c.toNat / 16))), .int .u8 (bi (hx (c.toNat % 16)))] rfl (box_news HX.out) (by simp [Value.oneCell', strV, u8V]) (by have h1 := HI.out; have h2 := HMl.out; omega) (by have h1 := HI.out; have h2 := HMl.out; omega) (Nat.le_trans HL.out HK.out.size)
                  clear HX
                  have HK : Hid (Kept No w w_21) := HK.out.trans hc (fun _ e => e) (fun j hj e => absurd (HY.out.base e) (by have := HN0.out; omega))
                  have HY : Hid (Own 5 1 w_21 n0 a_21 c_21 (m.length + 4) (m.map u8V ++ [.int .u8 92, .int .u8 120, .int .u8 (bi (hx (c.toNat / 16))), .int .u8 (bi (hx (c.toNat % 16)))])) := ho
                  refine any_step (i := 8) (o := { dst := some 59, op := Op.call { callee := Callee.builtin Builtin.append, args := #[Operand.tmp 51, Operand.tmp 58], argTypes := #[30, 30] }, type := 30, pos := "words.go:151", after := #[{ on := 0, ground := Ground.data }, { on := 7, ground := Ground.data }], guard := none }) (v := .slice a_21 (m.length + 4) c_21) (w' := w_21) rfl (by kernel_rfl) (by kernel_rfl) (exec_app _ _ 30 30 rfl _ _ _ (by kernel_rfl) (by kernel_rfl) hrun) trivial (fun hH => ?_)
                  try simp only [pA, pB, p1, p2, p3]
                  clear hrun ho hc
                  refine aT (i := 9) (oi := { dst := some 3, op := Op.assign (Operand.tmp 59), type := 30, pos := "words.go:151", after := #[{ on := 8, ground := Ground.data }, { on := 8, ground := Ground.chain }, { on := 0, ground := Ground.phase }, { on := 1, ground := Ground.phase }, { on := 2, ground := Ground.phase }, { on := 3, ground := Ground.phase }, { on := 4, ground := Ground.phase }, { on := 5, ground := Ground.phase }, { on := 6, ground := Ground.phase }, { on := 7, ground := Ground.phase }, { on := 8, ground := Ground.phase }], guard := none }) (v := .slice a_21 (m.length + 4) c_21) (fun _ _ => by kernel_rfl) hH ?_
                  try simp only [pA, pB, p1, p2, p3]
                  refine wpAnyH_done (by kernel_rfl) ?_ _
                  try simp only [pA, pB, p1, p2, p3]
                  clear hH
                  go_upto_region 4 with fail
                  refine WL.start ?_
                  refine tK (.int .i64 ((i : Nat) : Int)) ?_
                  try simp only [pA, pB, p1, p2, p3]
                  refine tW (.int .i64 ((i + 1 : Nat) : Int)) (exec_bin .add 3 _ _ _ rfl (.int .i64 ((i : Nat) : Int)) (.int .i64 1) (.int .i64 ((i + 1 : Nat) : Int)) (by kernel_rfl) (by kernel_rfl) (by kernel_rfl) (b_add1 i (by have := HI.out; omega) _)) ?_
                  try simp only [pA, pB, p1, p2, p3]
                  refine tK (.int .i64 ((i + 1 : Nat) : Int)) ?_
                  try simp only [pA, pB, p1, p2, p3]
                  refine WL.nil ?_
                  try simp only [pA, pB, p1, p2, p3]
                  go_wp2
                  go_roundw
                  case rel => exact ⟨i + 1, a_21, c_21, m ++ qB c, by rw [HQ.out]; simp, by go_num, by have := HPp.out; omega, by show _ = _; rw [quoteH_step HCc.out, HM.out], by have h := HY.out; rw [HQ.out]; show Own _ _ _ _ _ _ _ _; simpa [u8V, bi] using h, HK⟩
                  case measure => have := HPp.out; simp [intOf]; omega
                · skip
                  have e34 : (bi c == 34) = false := by simp [a34]
                  have e92 : (bi c == 92) = false := by simp [a92]
                  have e10 : (bi c == 10) = false := by simp [a10]
                  have e9 : (bi c == 9) = false := by simp [a9]
                  have HQ : Hid (qB c = [c]) := by show _ = _; unfold qB; rw [if_neg hcq, if_neg hc10, if_neg hc9, if_neg (not_lohi hlo hhi)]
                  clear a34 a92 a10 a9 hc9 hc10 hcq hn34 hn92
                  go_upto_region 3 with fail
                  refine WL.start ?_
                  refine tK (.int .i64 ((i : Nat) : Int)) ?_
                  try simp only [pA, pB, p1, p2, p3]
                  refine tK (.slice (some ⟨gb, ob, none⟩) l.length cap) ?_
                  try simp only [pA, pB, p1, p2, p3]
                  refine tK (.int .i64 ((l.length : Nat) : Int)) ?_
                  try simp only [pA, pB, p1, p2, p3]
                  refine tW (.bool true) (exec_bin .lss 3 _ _ _ rfl (.int .i64 ((i : Nat) : Int)) (.int .i64 ((l.length : Nat) : Int)) (.bool true) (by kernel_rfl) (by kernel_rfl) (by kernel_rfl) (by rw [b_lss, decide_eq_true hcm])) ?_
                  try simp only [pA, pB, p1, p2, p3]
                  refine WL.nil ?_
                  try simp only [pA, pB, p1, p2, p3]
                  go_upto_region 5 with fail
                  refine WL.start ?_
                  refine tK (.slice (some ⟨gb, ob, none⟩) l.length cap) ?_
                  try simp only [pA, pB, p1, p2, p3]
                  refine tK (.int .i64 ((i : Nat) : Int)) ?_
                  try simp only [pA, pB, p1, p2, p3]
                  refine tW (.pointer (some ⟨gb, ob + i * 1, none⟩)) (exec_ixA 30 1 E30 F30 _ _ rfl gb ob l.length cap i (by kernel_rfl) (by kernel_rfl) (by omega)) ?_
                  try simp only [pA, pB, p1, p2, p3]
                  refine tW (.int .u8 (bi c)) (exec_load 5 _ rfl ⟨gb, ob + i * 1, none⟩ (by kernel_rfl) (.int .u8 (bi c)) (load_one HLd.out U5 rfl)) ?_
                  try simp only [pA, pB, p1, p2, p3]
                  refine tK (.int .u8 (bi c)) ?_
                  try simp only [pA, pB, p1, p2, p3]
                  refine WL.nil ?_
                  try simp only [pA, pB, p1, p2, p3]
                  go_upto_region 7 with fail
                  refine WL.start ?_
                  refine tK (.int .u8 (bi c)) ?_
                  try simp only [pA, pB, p1, p2, p3]
                  refine tW (.bool false) (exec_bin .eql 5 _ _ _ rfl (.int .u8 (bi c)) (.int .u8 34) (.bool false) (by kernel_rfl) (by kernel_rfl) (by kernel_rfl) (by rw [b_eq5, e34])) ?_
                  try simp only [pA, pB, p1, p2, p3]
                  refine tK (.bool false) ?_
                  try simp only [pA, pB, p1, p2, p3]
                  refine tK (.int .u8 (bi c)) ?_
                  try simp only [pA, pB, p1, p2, p3]
                  refine tW (.bool false) (exec_bin .eql 5 _ _ _ rfl (.int .u8 (bi c)) (.int .u8 92) (.bool false) (by kernel_rfl) (by kernel_rfl) (by kernel_rfl) (by rw [b_eq5, e92])) ?_
                  try simp only [pA, pB, p1, p2, p3]
                  refine tK (.bool false) ?_
                  try simp only [pA, pB, p1, p2, p3]
                  refine tK (.bool false) ?_
                  try simp only [pA, pB, p1, p2, p3]
                  refine WL.nil ?_
                  try simp only [pA, pB, p1, p2, p3]
                  go_upto_region 9 with fail
                  refine WL.start ?_
                  refine tK (.int .u8 (bi c)) ?_
                  try simp only [pA, pB, p1, p2, p3]
                  refine tW (.bool false) (exec_bin .eql 5 _ _ _ rfl (.int .u8 (bi c)) (.int .u8 10) (.bool false) (by kernel_rfl) (by kernel_rfl) (by kernel_rfl) (by rw [b_eq5, e10])) ?_
                  try simp only [pA, pB, p1, p2, p3]
                  refine tK (.bool false) ?_
                  try simp only [pA, pB, p1, p2, p3]
                  refine WL.nil ?_
                  try simp only [pA, pB, p1, p2, p3]
                  go_upto_region 11 with fail
                  refine WL.start ?_
                  refine tK (.int .u8 (bi c)) ?_
                  try simp only [pA, pB, p1, p2, p3]
                  refine tW (.bool false) (exec_bin .eql 5 _ _ _ rfl (.int .u8 (bi c)) (.int .u8 9) (.bool false) (by kernel_rfl) (by kernel_rfl) (by kernel_rfl) (by rw [b_eq5, e9])) ?_
                  try simp only [pA, pB, p1, p2, p3]
                  refine tK (.bool false) ?_
                  try simp only [pA, pB, p1, p2, p3]
                  refine WL.nil ?_
                  try simp only [pA, pB, p1, p2, p3]
                  go_upto_region 13 with fail
                  refine WL.start ?_
                  refine tK (.int .u8 (bi c)) ?_
                  try simp only [pA, pB, p1, p2, p3]
                  refine tW (.bool false) (exec_bin .lss 5 _ _ _ rfl (.int .u8 (bi c)) (.int .u8 32) (.bool false) (by kernel_rfl) (by kernel_rfl) (by kernel_rfl) (by rw [b_lss5, decide_eq_false hlo])) ?_
                  try simp only [pA, pB, p1, p2, p3]
                  refine tK (.bool false) ?_
                  try simp only [pA, pB, p1, p2, p3]
                  refine tK (.int .u8 (bi c)) ?_
                  try simp only [pA, pB, p1, p2, p3]
                  refine tW (.bool false) (exec_bin .gtr 5 _ _ _ rfl (.int .u8 (bi c)) (.int .u8 126) (.bool false) (by kernel_rfl) (by kernel_rfl) (by kernel_rfl) (by rw [b_gtr5, decide_eq_false hhi])) ?_
                  try simp only [pA, pB, p1, p2, p3]
                  refine tK (.bool false) ?_
                  try simp only [pA, pB, p1, p2, p3]
                  refine tK (.bool false) ?_
                  try simp only [pA, pB, p1, p2, p3]
                  refine WL.nil ?_
                  try simp only [pA, pB, p1, p2, p3]
                  go_upto_region 6 with fail
                  refine WL.start ?_
                  refine tK (.slice a3 m.length c3) ?_
                  try simp only [pA, pB, p1, p2, p3]
                  refine tK (.int .u8 (bi c)) ?_
                  try simp only [pA, pB, p1, p2, p3]
                  have HY : Hid (Own 5 1 (wr.alloc (.cells [.int .u8 (bi c)].toArray 5)) n0 a3 c3 m.length (m.map u8V)) := HY.out.no ((Kept.refl No _).alloc _)
                  have HK : Hid (Kept No w (wr.alloc (.cells [.int .u8 (bi c)].toArray 5))) := HK.out.alloc _
                  have HX : Hid (Box (wr.alloc (.cells [.int .u8 (bi c)].toArray 5)) wr.heap.size 5 [.int .u8 (bi c)].toArray) := Box.new _ _ _
                  refine wp_runW (.slice (some ⟨wr.heap.size, 0, none⟩) 1 1) (wr.alloc (.cells [.int .u8 (bi c)].toArray 5)) (exec_built (by kernel_rfl)) (by kernel_rfl) ?_
                  try simp only [pA, pB, p1, p2, p3]
                  generalize wr.alloc (.cells [.int .u8 (bi c)].toArray 5) = wk23 at HY HK HX ⊢
                  generalize wr.heap.size = gk24 at HX ⊢
                  obtain ⟨a_24, c_24, w_24, hrun, ho, hc⟩ := run_app 30 5 1 _ U30 I5 rfl HY.out 30 ⟨gk24, 0, none⟩ 1 1 [.int .u8 (bi c)] rfl (box_news HX.out) (by simp [Value.oneCell', strV, u8V]) (by have h1 := HI.out; have h2 := HMl.out; omega) (by have h1 := HI.out; have h2 := HMl.out; omega) (Nat.le_trans HL.out HK.out.size)
                  clear HX
                  have HK : Hid (Kept No w w_24) := HK.out.trans hc (fun _ e => e) (fun j hj e => absurd (HY.out.base e) (by have := HN0.out; omega))
                  have HY : Hid (Own 5 1 w_24 n0 a_24 c_24 (m.length + 1) (m.map u8V ++ [.int .u8 (bi c)])) := ho
                  refine wp_runW (.slice a_24 (m.length + 1) c_24) (w_24) (exec_app _ _ 30 30 rfl _ _ _ (by kernel_rfl) (by kernel_rfl) hrun) (by kernel_rfl) ?_
                  try simp only [pA, pB, p1, p2, p3]
                  clear hrun ho hc
                  refine tK (.slice a_24 (m.length + 1) c_24) ?_
                  try simp only [pA, pB, p1, p2, p3]
                  refine WL.nil ?_
                  try simp only [pA, pB, p1, p2, p3]
                  go_upto_region 4 with fail
                  refine WL.start ?_
                  refine tK (.int .i64 ((i : Nat) : Int)) ?_
                  try simp only [pA, pB, p1, p2, p3]
                  refine tW (.int .i64 ((i + 1 : Nat) : Int)) (exec_bin .add 3 _ _ _ rfl (.int .i64 ((i : Nat) : Int)) (.int .i64 1) (.int .i64 ((i + 1 : Nat) : Int)) (by kernel_rfl) (by kernel_rfl) (by kernel_rfl) (b_add1 i (by have := HI.out; omega) _)) ?_
                  try simp only [pA, pB, p1, p2, p3]
                  refine tK (.int .i64 ((i + 1 : Nat) : Int)) ?_
                  try simp only [pA, pB, p1, p2, p3]
                  refine WL.nil ?_
                  try simp only [pA, pB, p1, p2, p3]
                  go_wp2
                  go_roundw
                  case rel => exact ⟨i + 1, a_24, c_24, m ++ qB c, by rw [HQ.out]; simp, by go_num, by have := HPp.out; omega, by show _ = _; rw [quoteH_step HCc.out, HM.out], by have h := HY.out; rw [HQ.out]; show Own _ _ _ _ _ _ _ _; simpa [u8V, bi] using h, HK⟩
                  case measure => have := HPp.out; simp [intOf]; omega
    · have hcm : ¬ ((i : Nat) : Int) < ((l.length : Nat) : Int) := by omega
      have hil : l.take i = l := List.take_of_length_le (by omega)
      rw [hil] at HM
      clear hil hp hi
      go_upto_region 3 with fail
      refine WL.start ?_
      refine tK (.int .i64 ((i : Nat) : Int)) ?_
      try simp only [pA, pB, p1, p2, p3]
      refine tK (.slice a l.length cap) ?_
      try simp only [pA, pB, p1, p2, p3]
      refine tK (.int .i64 ((l.length : Nat) : Int)) ?_
      try simp only [pA, pB, p1, p2, p3]
      refine tW (.bool false) (exec_bin .lss 3 _ _ _ rfl (.int .i64 ((i : Nat) : Int)) (.int .i64 ((l.length : Nat) : Int)) (.bool false) (by kernel_rfl) (by kernel_rfl) (by kernel_rfl) (by rw [b_lss, decide_eq_false hcm])) ?_
      try simp only [pA, pB, p1, p2, p3]
      refine WL.nil ?_
      try simp only [pA, pB, p1, p2, p3]
      go_upto_region 15 with fail
      refine WL.start ?_
      refine tK (.slice a3 m.length c3) ?_
      try simp only [pA, pB, p1, p2, p3]
      have HY : Hid (Own 5 1 (wr.alloc (.cells [.int .u8 34].toArray 5)) n0 a3 c3 m.length (m.map u8V)) := HY.out.no ((Kept.refl No _).alloc _)
      have HK : Hid (Kept No w (wr.alloc (.cells [.int .u8 34].toArray 5))) := HK.out.alloc _
      have HX : Hid (Box (wr.alloc (.cells [.int .u8 34].toArray 5)) wr.heap.size 5 [.int .u8 34].toArray) := Box.new _ _ _
      refine wp_runW (.slice (some ⟨wr.heap.size, 0, none⟩) 1 1) (wr.alloc (.cells [.int .u8 34].toArray 5)) (exec_built (by kernel_rfl)) (by kernel_rfl) ?_
      try simp only [pA, pB, p1, p2, p3]
      generalize wr.alloc (.cells [.int .u8 34].toArray 5) = wk26 at HY HK HX ⊢
      generalize wr.heap.size = gk27 at HX ⊢
      obtain ⟨a_27, c_27, w_27, hrun, ho, hc⟩ := run_app 30 5 1 _ U30 I5 rfl HY.out 30 ⟨gk27, 0, none⟩ 1 1 [.int .u8 34] rfl (box_news HX.out) (by simp [Value.oneCell', strV, u8V]) (by have h1 := HI.out; have h2 := HMl.out; omega) (by have h1 := HI.out; have h2 := HMl.out; omega) (Nat.le_trans HL.out HK.out.size)
      clear HX
      have HK : Hid (Kept No w w_27) := HK.out.trans hc (fun _ e => e) (fun j hj e => absurd (HY.out.base e) (by have := HN0.out; omega))
      have HY : Hid (Own 5 1 w_27 n0 a_27 c_27 (m.length + 1) (m.map u8V ++ [.int .u8 34])) := ho
      refine wp_runW (.slice a_27 (m.length + 1) c_27) (w_27) (exec_app _ _ 30 30 rfl _ _ _ (by kernel_rfl) (by kernel_rfl) hrun) (by kernel_rfl) ?_
      try simp only [pA, pB, p1, p2, p3]
      clear hrun ho hc
      refine tK (.slice a_27 (m.length + 1) c_27) ?_
      try simp only [pA, pB, p1, p2, p3]
      refine WL.nil ?_
      try simp only [pA, pB, p1, p2, p3]
      go_upto_region 16 with fail
      refine WL.start ?_
      refine tK (.slice a_27 (m.length + 1) c_27) ?_
      try simp only [pA, pB, p1, p2, p3]
      refine tW (.string (bs (m ++ [34]))) (exec_conv _ 30 9 rfl _ _ (by kernel_rfl) (run_conv (l := m ++ [34]) (by have h := HY.out; simpa [u8V, bi] using h) (by simp))) ?_
      try simp only [pA, pB, p1, p2, p3]
      refine tK (.string (bs (m ++ [34]))) ?_
      try simp only [pA, pB, p1, p2, p3]
      refine WL.nil ?_
      try simp only [pA, pB, p1, p2, p3]
      go_wp2
      rw [HC.out]
      exact ⟨by rw [show quoteL l = m ++ [34] from by rw [HM.out]; rfl], HK.out⟩

end Go.Proofs.Ytgnfeegnhdbnkaa
