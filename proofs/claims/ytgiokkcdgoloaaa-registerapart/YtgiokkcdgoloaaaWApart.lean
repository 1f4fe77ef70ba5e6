import Derived.Test.YtgiokkcdgoloaaaUf
namespace Go.Proofs.Ytgiokkcdgoloaaa.Md
open Go.RowKit
set_option linter.unusedVariables false
set_option linter.unusedSimpArgs false

theorem b_remN (x y : Nat) (h0 : 0 < y) (w : World) : (binOp .rem 3 (.int .i64 (x : Int)) (.int .i64 (y : Int))).run Try.prog w = .ok (.int .i64 ((x % y : Nat) : Int)) w := by
  rw [b_remI _ _ h0, Int.tmod_eq_emod_of_nonneg (by omega)]
  rfl
theorem b_rem2 (z : Int) (w : World) : (binOp .rem 3 (.int .i64 z) (.int .i64 2)).run Try.prog w = .ok (.int .i64 (z.tmod 2)) w := b_remI z 2 (by decide) w
theorem RdI.at {w : World} {s : Sl} {zs : List Int} (h : RdI w s zs) {i : Nat} (hi : i < s.l) : ∃ b off z, s.a = some ⟨b, off, none⟩ ∧ w.cell? ⟨b, off + i * 1, none⟩ = some (.int .i64 z) := by
  obtain ⟨b, off, e, hc⟩ := h.row i (by rw [h.len]; exact hi)
  exact ⟨b, off, _, e, by rw [Nat.mul_one]; exact hc⟩
set_option maxRecDepth 100000 in
set_option maxHeartbeats 4000000 in
theorem apartWalk (wr1 : Bool) (cl1 op1 : Int) (ky1 : Ky) (sa1 : Option Addr) (n1 sk1 : Nat) (rd1 sz1 : Int) (da1 : Option Addr) (dl1 dk1 : Nat) (gs1 zs1 : List Int) (wr2 : Bool) (cl2 op2 : Int) (ky2 : Ky) (sa2 : Option Addr) (n2 sk2 : Nat) (rd2 sz2 : Int) (da2 : Option Addr) (dl2 dk2 : Nat) (gs2 zs2 : List Int) (t u v : Sl) (xs ys : List Stp) (vs : List Int) (w : World) (hg1 : RdI w ⟨sa1, n1, sk1⟩ gs1) (hz1 : sa1 = none → sk1 = 0) (hb1 : RdB w ⟨da1, dl1, dk1⟩ zs1) (hl1 : dl1 ≤ 140737488351232) (hg2 : RdI w ⟨sa2, n2, sk2⟩ gs2) (hz2 : sa2 = none → sk2 = 0) (hb2 : RdB w ⟨da2, dl2, dk2⟩ zs2) (hl2 : dl2 ≤ 140737488351232) (hT : RdS w t xs) (hU : RdS w u ys) (htn : t.l ≤ 140737488351232) (hun : u.l ≤ 140737488351232) (hV : RdI w v vs) : Calls Try.prog 8 #[.agg (Aq.cells ⟨wr1, cl1, op1, ky1, ⟨sa1, n1, sk1⟩, rd1, sz1, ⟨da1, dl1, dk1⟩⟩), .agg (Aq.cells ⟨wr2, cl2, op2, ky2, ⟨sa2, n2, sk2⟩, rd2, sz2, ⟨da2, dl2, dk2⟩⟩), t.v, u.v, v.v] w (fun e w' => e = .returned (.bool true) ∧ Kept No w w') := by
  obtain ⟨C, hC⟩ : ∃ C : Ending → World → Prop, C = (fun e w' => e = .returned (.bool true) ∧ Kept No w w') := ⟨_, rfl⟩
  have HC : Hid (C = (fun e w' => e = .returned (.bool true) ∧ Kept No w w')) := hC
  rw [← hC]
  clear hC
  have HG1 : Hid (RdI w ⟨sa1, n1, sk1⟩ gs1) := hg1
  have HG2 : Hid (RdI w ⟨sa2, n2, sk2⟩ gs2) := hg2
  have HD1 : Hid (RdB w ⟨da1, dl1, dk1⟩ zs1) := hb1
  have HD2 : Hid (RdB w ⟨da2, dl2, dk2⟩ zs2) := hb2
  have HT : Hid (RdS w t xs) := hT
  have HU : Hid (RdS w u ys) := hU
  have HVs : Hid (RdI w v vs) := hV
  clear hg1 hg2 hb1 hb2 hT hU hV
  have HF : Hid (Fq No w w []) := Fq.start _ _
  go_enter Try.func8, Try.ntmps8
  go_upto_region 0 with fail
  refine WL.start ?_
  refine uR (.pointer (some ⟨w.heap.size, 0, none⟩)) (w.alloc (.cells (Aq.cells ⟨wr1, cl1, op1, ky1, ⟨sa1, n1, sk1⟩, rd1, sz1, ⟨da1, dl1, dk1⟩⟩) 27)) (exec_box 27 _ rfl (Aq.cells ⟨wr1, cl1, op1, ky1, ⟨sa1, n1, sk1⟩, rd1, sz1, ⟨da1, dl1, dk1⟩⟩) (by kernel_rfl)) ?_
  try simp only [pS]
  have HF : Hid (Fq No w (w.alloc (.cells (Aq.cells ⟨wr1, cl1, op1, ky1, ⟨sa1, n1, sk1⟩, rd1, sz1, ⟨da1, dl1, dk1⟩⟩) 27)) [(w.heap.size, 27, Aq.cells ⟨wr1, cl1, op1, ky1, ⟨sa1, n1, sk1⟩, rd1, sz1, ⟨da1, dl1, dk1⟩⟩)]) := HF.out.alloc _ _
  generalize w.alloc (.cells (Aq.cells ⟨wr1, cl1, op1, ky1, ⟨sa1, n1, sk1⟩, rd1, sz1, ⟨da1, dl1, dk1⟩⟩) 27) = wk2 at HF ⊢
  generalize hzgk1 : w.heap.size = gk1 at HF ⊢
  refine uR (.pointer (some ⟨wk2.heap.size, 0, none⟩)) (wk2.alloc (.cells (Aq.cells ⟨wr2, cl2, op2, ky2, ⟨sa2, n2, sk2⟩, rd2, sz2, ⟨da2, dl2, dk2⟩⟩) 27)) (exec_box 27 _ rfl (Aq.cells ⟨wr2, cl2, op2, ky2, ⟨sa2, n2, sk2⟩, rd2, sz2, ⟨da2, dl2, dk2⟩⟩) (by kernel_rfl)) ?_
  try simp only [pS]
  have HF : Hid (Fq No w (wk2.alloc (.cells (Aq.cells ⟨wr2, cl2, op2, ky2, ⟨sa2, n2, sk2⟩, rd2, sz2, ⟨da2, dl2, dk2⟩⟩) 27)) [(gk1, 27, Aq.cells ⟨wr1, cl1, op1, ky1, ⟨sa1, n1, sk1⟩, rd1, sz1, ⟨da1, dl1, dk1⟩⟩), (wk2.heap.size, 27, Aq.cells ⟨wr2, cl2, op2, ky2, ⟨sa2, n2, sk2⟩, rd2, sz2, ⟨da2, dl2, dk2⟩⟩)]) := HF.out.alloc _ _
  generalize wk2.alloc (.cells (Aq.cells ⟨wr2, cl2, op2, ky2, ⟨sa2, n2, sk2⟩, rd2, sz2, ⟨da2, dl2, dk2⟩⟩) 27) = wk4 at HF ⊢
  generalize hzgk3 : wk2.heap.size = gk3 at HF ⊢
  refine uK (.bool false) <| WL.nil <| ?_
  try simp only [pS]
  go_upto_region 1 with fail
  refine WL.start <| uK (.pointer (some ⟨gk1, 7, none⟩)) <| uL 24 ⟨gk1, 7, none⟩ (.slice sa1 n1 sk1) (load_one ((HF.out.box 0 _ _ _ rfl).cell 7 |>.trans (by kernel_rfl)) U24 rfl) <| uK (.int .i64 ((n1 : Nat) : Int)) <| ?_
  try simp only [pS]
  cases q1 : (decide (100 < ((n1 : Nat) : Int)))
  ·skip
   refine uB .gtr 3 (.int .i64 ((n1 : Nat) : Int)) (.int .i64 100) (.bool false) (by rw [b_gtr, q1]; try rfl) <| uK (.bool false) <| uK (.pointer (some ⟨gk3, 7, none⟩)) <| uL 24 ⟨gk3, 7, none⟩ (.slice sa2 n2 sk2) (load_one ((HF.out.box 1 _ _ _ rfl).cell 7 |>.trans (by kernel_rfl)) U24 rfl) <| uK (.int .i64 ((n2 : Nat) : Int)) <| ?_
   try simp only [pS]
   cases q2 : (decide (100 < ((n2 : Nat) : Int)))
   ·skip
    refine uB .gtr 3 (.int .i64 ((n2 : Nat) : Int)) (.int .i64 100) (.bool false) (by rw [b_gtr, q2]; try rfl) <| uK (.bool false) <| WL.nil <| ?_
    try simp only [pS]
    go_upto_region 3 with fail
    refine WL.start <| uL 27 ⟨gk1, 0, none⟩ (.agg (Aq.cells ⟨wr1, cl1, op1, ky1, ⟨sa1, n1, sk1⟩, rd1, sz1, ⟨da1, dl1, dk1⟩⟩)) (run_load_part (cs := Aq.cs ⟨wr1, cl1, op1, ky1, ⟨sa1, n1, sk1⟩, rd1, sz1, ⟨da1, dl1, dk1⟩⟩) (sub := Aq.cs ⟨wr1, cl1, op1, ky1, ⟨sa1, n1, sk1⟩, rd1, sz1, ⟨da1, dl1, dk1⟩⟩) (HF.out.box 0 _ _ _ rfl) (Part.all _) U27 rfl S27) <| ?_
    try simp only [pS]
    refine uC 10 #[.agg (Aq.cells ⟨wr1, cl1, op1, ky1, ⟨sa1, n1, sk1⟩, rd1, sz1, ⟨da1, dl1, dk1⟩⟩)] (Pr.made wr1 cl1 op1 ky1 sa1 n1 sk1 rd1 sz1 da1 dl1 dk1 gs1 zs1 w wk4 HF.out.kept HG1.out hz1 (by have := of_decide_eq_false q1; omega) HD1.out hl1) ?_
    rintro e wk5 ⟨ma, ra, ga, TA, rfl, hP, hT0, hk⟩
    have HA : Hid (Pr w wk5 TA ma ra ga) := hP
    have hlHA : ∀ y ∈ [(gk1, 27, Aq.cells ⟨wr1, cl1, op1, ky1, ⟨sa1, n1, sk1⟩, rd1, sz1, ⟨da1, dl1, dk1⟩⟩), (gk3, 27, Aq.cells ⟨wr2, cl2, op2, ky2, ⟨sa2, n2, sk2⟩, rd2, sz2, ⟨da2, dl2, dk2⟩⟩)], y.1 < wk4.heap.size := Fq.lt HF.out
    have hnHA : ∀ y ∈ [(gk1, 27, Aq.cells ⟨wr1, cl1, op1, ky1, ⟨sa1, n1, sk1⟩, rd1, sz1, ⟨da1, dl1, dk1⟩⟩), (gk3, 27, Aq.cells ⟨wr2, cl2, op2, ky2, ⟨sa2, n2, sk2⟩, rd2, sz2, ⟨da2, dl2, dk2⟩⟩)], ¬ TA y.1 := fun y hy e => by have := hlHA y hy; have := hT0 _ e; omega
    have HF : Hid (Fq No w (wk5) [(gk1, 27, Aq.cells ⟨wr1, cl1, op1, ky1, ⟨sa1, n1, sk1⟩, rd1, sz1, ⟨da1, dl1, dk1⟩⟩), (gk3, 27, Aq.cells ⟨wr2, cl2, op2, ky2, ⟨sa2, n2, sk2⟩, rd2, sz2, ⟨da2, dl2, dk2⟩⟩)]) := HF.out.no hk
    clear hP hT0 hk hlHA
    refine ⟨.tuple #[.agg #[.iface 115 (.pointer (some ⟨ma, 0, none⟩)), .pointer (some ⟨ra, 0, none⟩)], .bool true], rfl, ?_⟩
    try simp only [pS]
    refine uK (.tuple #[.agg #[.iface 115 (.pointer (some ⟨ma, 0, none⟩)), .pointer (some ⟨ra, 0, none⟩)], .bool true]) <| uK (.agg #[.iface 115 (.pointer (some ⟨ma, 0, none⟩)), .pointer (some ⟨ra, 0, none⟩)]) <| uK (.bool true) <| ?_
    try simp only [pS]
    have hinHA5 := HA.out.in
    refine uR (.pointer (some ⟨wk5.heap.size, 0, none⟩)) (wk5.alloc (.cells (#[.nilIface, .pointer none]) 34)) (exec_alloc 34 rfl (#[.nilIface, .pointer none]) Z34) ?_
    try simp only [pS]
    have HA : Hid (Pr w (wk5.alloc (.cells (#[.nilIface, .pointer none]) 34)) TA ma ra ga) := HA.out.no ((Kept.refl No _).alloc _)
    have HF : Hid (Fq No w (wk5.alloc (.cells (#[.nilIface, .pointer none]) 34)) [(gk1, 27, Aq.cells ⟨wr1, cl1, op1, ky1, ⟨sa1, n1, sk1⟩, rd1, sz1, ⟨da1, dl1, dk1⟩⟩), (gk3, 27, Aq.cells ⟨wr2, cl2, op2, ky2, ⟨sa2, n2, sk2⟩, rd2, sz2, ⟨da2, dl2, dk2⟩⟩), (wk5.heap.size, 34, #[.nilIface, .pointer none])]) := HF.out.alloc _ _
    generalize wk5.alloc (.cells (#[.nilIface, .pointer none]) 34) = wk7 at HF HA ⊢
    generalize hzgk6 : wk5.heap.size = gk6 at HF ⊢
    refine uT 34 ⟨gk6, 0, none⟩ (.agg #[.iface 115 (.pointer (some ⟨ma, 0, none⟩)), .pointer (some ⟨ra, 0, none⟩)]) (wk7.setRow gk6 (#[.iface 115 (.pointer (some ⟨ma, 0, none⟩)), .pointer (some ⟨ra, 0, none⟩)])) (rs ([.nilIface, .pointer none]) ([.iface 115 (.pointer (some ⟨ma, 0, none⟩)), .pointer (some ⟨ra, 0, none⟩)]) ([.iface 115 (.pointer (some ⟨ma, 0, none⟩)), .pointer (some ⟨ra, 0, none⟩)]) (HF.out.box 2 _ _ _ rfl) S34 (by simp [Value.oneCell'])) ?_
    try simp only [pS]
    have HA : Hid (Pr w (wk7.setRow gk6 (#[.iface 115 (.pointer (some ⟨ma, 0, none⟩)), .pointer (some ⟨ra, 0, none⟩)])) TA ma ra ga) := HA.out.off (Kept.setRow _ _ _) (fun k e => by
      obtain rfl : k = gk6 := e
      exact ⟨(HF.out.low 2 _ _ _ rfl).elim id (fun e => e.elim), fun f => by have := (hinHA5 _ f).2; omega⟩)
    have HF : Hid (Fq No w (wk7.setRow gk6 (#[.iface 115 (.pointer (some ⟨ma, 0, none⟩)), .pointer (some ⟨ra, 0, none⟩)])) [(gk1, 27, Aq.cells ⟨wr1, cl1, op1, ky1, ⟨sa1, n1, sk1⟩, rd1, sz1, ⟨da1, dl1, dk1⟩⟩), (gk3, 27, Aq.cells ⟨wr2, cl2, op2, ky2, ⟨sa2, n2, sk2⟩, rd2, sz2, ⟨da2, dl2, dk2⟩⟩), (gk6, 34, #[.iface 115 (.pointer (some ⟨ma, 0, none⟩)), .pointer (some ⟨ra, 0, none⟩)])]) := HF.out.set 2 rfl _
    generalize wk7.setRow gk6 (#[.iface 115 (.pointer (some ⟨ma, 0, none⟩)), .pointer (some ⟨ra, 0, none⟩)]) = wk8 at HF HA ⊢
    refine uK (.bool true) <| WL.nil <| ?_
    try simp only [pS]
    go_upto_region 4 with fail
    refine WL.start <| uL 27 ⟨gk3, 0, none⟩ (.agg (Aq.cells ⟨wr2, cl2, op2, ky2, ⟨sa2, n2, sk2⟩, rd2, sz2, ⟨da2, dl2, dk2⟩⟩)) (run_load_part (cs := Aq.cs ⟨wr2, cl2, op2, ky2, ⟨sa2, n2, sk2⟩, rd2, sz2, ⟨da2, dl2, dk2⟩⟩) (sub := Aq.cs ⟨wr2, cl2, op2, ky2, ⟨sa2, n2, sk2⟩, rd2, sz2, ⟨da2, dl2, dk2⟩⟩) (HF.out.box 1 _ _ _ rfl) (Part.all _) U27 rfl S27) <| ?_
    try simp only [pS]
    refine uC 10 #[.agg (Aq.cells ⟨wr2, cl2, op2, ky2, ⟨sa2, n2, sk2⟩, rd2, sz2, ⟨da2, dl2, dk2⟩⟩)] (Pr.made wr2 cl2 op2 ky2 sa2 n2 sk2 rd2 sz2 da2 dl2 dk2 gs2 zs2 w wk8 HF.out.kept HG2.out hz2 (by have := of_decide_eq_false q2; omega) HD2.out hl2) ?_
    rintro e wk9 ⟨mb, rb, gb, TB, rfl, hP, hT0, hk⟩
    have HDj : Hid (∀ k, TA k → ¬ TB k) := fun k e f => by have := (HA.out.in k e).2; have := hT0 k f; omega
    have HA : Hid (Pr w wk9 TA ma ra ga) := HA.out.no hk
    have HB : Hid (Pr w wk9 TB mb rb gb) := hP
    have hlHB : ∀ y ∈ [(gk1, 27, Aq.cells ⟨wr1, cl1, op1, ky1, ⟨sa1, n1, sk1⟩, rd1, sz1, ⟨da1, dl1, dk1⟩⟩), (gk3, 27, Aq.cells ⟨wr2, cl2, op2, ky2, ⟨sa2, n2, sk2⟩, rd2, sz2, ⟨da2, dl2, dk2⟩⟩), (gk6, 34, #[.iface 115 (.pointer (some ⟨ma, 0, none⟩)), .pointer (some ⟨ra, 0, none⟩)])], y.1 < wk8.heap.size := Fq.lt HF.out
    have hnHB : ∀ y ∈ [(gk1, 27, Aq.cells ⟨wr1, cl1, op1, ky1, ⟨sa1, n1, sk1⟩, rd1, sz1, ⟨da1, dl1, dk1⟩⟩), (gk3, 27, Aq.cells ⟨wr2, cl2, op2, ky2, ⟨sa2, n2, sk2⟩, rd2, sz2, ⟨da2, dl2, dk2⟩⟩), (gk6, 34, #[.iface 115 (.pointer (some ⟨ma, 0, none⟩)), .pointer (some ⟨ra, 0, none⟩)])], ¬ TB y.1 := fun y hy e => by have := hlHB y hy; have := hT0 _ e; omega
    have HF : Hid (Fq No w (wk9) [(gk1, 27, Aq.cells ⟨wr1, cl1, op1, ky1, ⟨sa1, n1, sk1⟩, rd1, sz1, ⟨da1, dl1, dk1⟩⟩), (gk3, 27, Aq.cells ⟨wr2, cl2, op2, ky2, ⟨sa2, n2, sk2⟩, rd2, sz2, ⟨da2, dl2, dk2⟩⟩), (gk6, 34, #[.iface 115 (.pointer (some ⟨ma, 0, none⟩)), .pointer (some ⟨ra, 0, none⟩)])]) := HF.out.no hk
    clear hP hT0 hk hlHB
    refine ⟨.tuple #[.agg #[.iface 115 (.pointer (some ⟨mb, 0, none⟩)), .pointer (some ⟨rb, 0, none⟩)], .bool true], rfl, ?_⟩
    try simp only [pS]
    refine uK (.tuple #[.agg #[.iface 115 (.pointer (some ⟨mb, 0, none⟩)), .pointer (some ⟨rb, 0, none⟩)], .bool true]) <| uK (.agg #[.iface 115 (.pointer (some ⟨mb, 0, none⟩)), .pointer (some ⟨rb, 0, none⟩)]) <| uK (.bool true) <| ?_
    try simp only [pS]
    have hinHA9 := HA.out.in
    have hinHB9 := HB.out.in
    refine uR (.pointer (some ⟨wk9.heap.size, 0, none⟩)) (wk9.alloc (.cells (#[.nilIface, .pointer none]) 34)) (exec_alloc 34 rfl (#[.nilIface, .pointer none]) Z34) ?_
    try simp only [pS]
    have HA : Hid (Pr w (wk9.alloc (.cells (#[.nilIface, .pointer none]) 34)) TA ma ra ga) := HA.out.no ((Kept.refl No _).alloc _)
    have HB : Hid (Pr w (wk9.alloc (.cells (#[.nilIface, .pointer none]) 34)) TB mb rb gb) := HB.out.no ((Kept.refl No _).alloc _)
    have HF : Hid (Fq No w (wk9.alloc (.cells (#[.nilIface, .pointer none]) 34)) [(gk1, 27, Aq.cells ⟨wr1, cl1, op1, ky1, ⟨sa1, n1, sk1⟩, rd1, sz1, ⟨da1, dl1, dk1⟩⟩), (gk3, 27, Aq.cells ⟨wr2, cl2, op2, ky2, ⟨sa2, n2, sk2⟩, rd2, sz2, ⟨da2, dl2, dk2⟩⟩), (gk6, 34, #[.iface 115 (.pointer (some ⟨ma, 0, none⟩)), .pointer (some ⟨ra, 0, none⟩)]), (wk9.heap.size, 34, #[.nilIface, .pointer none])]) := HF.out.alloc _ _
    generalize wk9.alloc (.cells (#[.nilIface, .pointer none]) 34) = wk11 at HF HA HB ⊢
    generalize hzgk10 : wk9.heap.size = gk10 at HF ⊢
    refine uT 34 ⟨gk10, 0, none⟩ (.agg #[.iface 115 (.pointer (some ⟨mb, 0, none⟩)), .pointer (some ⟨rb, 0, none⟩)]) (wk11.setRow gk10 (#[.iface 115 (.pointer (some ⟨mb, 0, none⟩)), .pointer (some ⟨rb, 0, none⟩)])) (rs ([.nilIface, .pointer none]) ([.iface 115 (.pointer (some ⟨mb, 0, none⟩)), .pointer (some ⟨rb, 0, none⟩)]) ([.iface 115 (.pointer (some ⟨mb, 0, none⟩)), .pointer (some ⟨rb, 0, none⟩)]) (HF.out.box 3 _ _ _ rfl) S34 (by simp [Value.oneCell'])) ?_
    try simp only [pS]
    have HA : Hid (Pr w (wk11.setRow gk10 (#[.iface 115 (.pointer (some ⟨mb, 0, none⟩)), .pointer (some ⟨rb, 0, none⟩)])) TA ma ra ga) := HA.out.off (Kept.setRow _ _ _) (fun k e => by
      obtain rfl : k = gk10 := e
      exact ⟨(HF.out.low 3 _ _ _ rfl).elim id (fun e => e.elim), fun f => by have := (hinHA9 _ f).2; omega⟩)
    have HB : Hid (Pr w (wk11.setRow gk10 (#[.iface 115 (.pointer (some ⟨mb, 0, none⟩)), .pointer (some ⟨rb, 0, none⟩)])) TB mb rb gb) := HB.out.off (Kept.setRow _ _ _) (fun k e => by
      obtain rfl : k = gk10 := e
      exact ⟨(HF.out.low 3 _ _ _ rfl).elim id (fun e => e.elim), fun f => by have := (hinHB9 _ f).2; omega⟩)
    have HF : Hid (Fq No w (wk11.setRow gk10 (#[.iface 115 (.pointer (some ⟨mb, 0, none⟩)), .pointer (some ⟨rb, 0, none⟩)])) [(gk1, 27, Aq.cells ⟨wr1, cl1, op1, ky1, ⟨sa1, n1, sk1⟩, rd1, sz1, ⟨da1, dl1, dk1⟩⟩), (gk3, 27, Aq.cells ⟨wr2, cl2, op2, ky2, ⟨sa2, n2, sk2⟩, rd2, sz2, ⟨da2, dl2, dk2⟩⟩), (gk6, 34, #[.iface 115 (.pointer (some ⟨ma, 0, none⟩)), .pointer (some ⟨ra, 0, none⟩)]), (gk10, 34, #[.iface 115 (.pointer (some ⟨mb, 0, none⟩)), .pointer (some ⟨rb, 0, none⟩)])]) := HF.out.set 3 rfl _
    generalize wk11.setRow gk10 (#[.iface 115 (.pointer (some ⟨mb, 0, none⟩)), .pointer (some ⟨rb, 0, none⟩)]) = wk12 at HF HA HB ⊢
    refine uK (.bool true) <| WL.nil <| ?_
    try simp only [pS]
    go_upto_region 5 with fail
    refine WL.start <| uK (.bool true) <| uK (.bool false) <| uK (.bool false) <| uK (.bool true) <| uK (.bool false) <| uK (.bool false) <| WL.nil <| ?_
    try simp only [pS]
    go_upto_region 7 with fail
    refine WL.start <| uK (.int .i64 0) <| uK (.int .i64 0) <| WL.nil <| ?_
    try simp only [pS]
    go_upto_region 8 with fail
    refine WL.start <| uK (.int .i64 0) <| WL.nil <| ?_
    try simp only [pS]
    have HNf : Hid ((¬ TA gk6 ∧ ¬ TA gk10) ∧ (¬ TB gk6 ∧ ¬ TB gk10)) := ⟨⟨fun e => by have := (hinHA5 _ e).2; omega, fun e => by have := (hinHA9 _ e).2; omega⟩, ⟨fun e => hnHB (gk6, 34, _) (List.mem_of_getElem? (i := 2) rfl) e, fun e => by have := (hinHB9 _ e).2; omega⟩⟩
    have HF' : Hid (Fq No w wk12 [(gk6, 34, #[.iface 115 (.pointer (some ⟨ma, 0, none⟩)), .pointer (some ⟨ra, 0, none⟩)]), (gk10, 34, #[.iface 115 (.pointer (some ⟨mb, 0, none⟩)), .pointer (some ⟨rb, 0, none⟩)])]) := Fq.sub HF.out (fun i => i + 2) (fun i x hx => hx) (fun i j _ _ e => by omega)
    clear HF hnHA hnHB
    have HF := HF'
    clear HF'
    go_wp2
    go_loopw [15, 16, 17] (fun v15 v16 v17 wr' => ∃ (i j c : Nat) (TA TB : Nat → Prop), v15 = .int .i64 ((i : Nat) : Int) ∧ v16 = .int .i64 ((j : Nat) : Int) ∧ v17 = .int .i64 ((c : Nat) : Int) ∧ i ≤ t.l ∧ j ≤ u.l ∧ c ≤ 200 ∧ Hid (Pr w wr' TA ma ra ga) ∧ Hid (Pr w wr' TB mb rb gb) ∧ Hid (∀ k, TA k → ¬ TB k) ∧ Hid ((¬ TA gk6 ∧ ¬ TA gk10) ∧ (¬ TB gk6 ∧ ¬ TB gk10)) ∧ Hid (Fq No w wr' [(gk6, 34, #[.iface 115 (.pointer (some ⟨ma, 0, none⟩)), .pointer (some ⟨ra, 0, none⟩)]), (gk10, 34, #[.iface 115 (.pointer (some ⟨mb, 0, none⟩)), .pointer (some ⟨rb, 0, none⟩)])])) (fun _ _ c _ => 200 - (intOf c).toNat)
    case atStart => exact ⟨0, 0, 0, TA, TB, by go_num, by go_num, by go_num, by omega, by omega, by omega, HA, HB, HDj, HNf, HF⟩
    case round =>
      rename World => wo
      clear HF HA HB HDj HNf
      obtain ⟨i, j, c, TA, TB, rfl, rfl, rfl, hi, hj, hc, HA, HB, HDj, HNf, HF⟩ := hrel
      by_cases hc2 : c < 200
      · skip
        by_cases hi2 : i < t.l
        · by_cases hj2 : j < u.l
          · skip
            by_cases hv0 : 0 < v.l
            · have hcl : c % v.l < v.l := Nat.mod_lt _ hv0
              obtain ⟨vb, vo, z, hva, hvc⟩ := HVs.out.at hcl
              have hvl : v.v = .slice (some ⟨vb, vo, none⟩) v.l v.k := by unfold Sl.v; rw [hva]
              have HV : Hid (w.cell? ⟨vb, vo + (c % v.l) * 1, none⟩ = some (.int .i64 z)) := hvc
              clear hva hvc
              go_upto_region 9 with fail
              refine WL.start <| uK (.int .i64 ((c : Nat) : Int)) <| uB .lss 3 (.int .i64 ((c : Nat) : Int)) (.int .i64 200) (.bool true) (by rw [b_lss, decide_eq_true (by omega)]) <| uK (.bool true) <| uK (.int .i64 ((i : Nat) : Int)) <| uK (t.v) <| uK (.int .i64 ((t.l : Nat) : Int)) <| uB .lss 3 (.int .i64 ((i : Nat) : Int)) (.int .i64 ((t.l : Nat) : Int)) (.bool true) (by rw [b_lss, decide_eq_true (by omega)]) <| ?_
              try simp only [pS]
              refine uK (.bool true) <| uZ <| uZ <| uZ <| uZ <| uK (.bool true) <| uK (.bool true) <| WL.nil <| ?_
              try simp only [pS]
              go_upto_region 11 with fail
              refine WL.start <| uK (v.v) <| uK (.int .i64 ((v.l : Nat) : Int)) <| uB .gtr 3 (.int .i64 ((v.l : Nat) : Int)) (.int .i64 0) (.bool true) (by rw [b_gtr, decide_eq_true (by omega)]) <| uK (.bool true) <| uK (v.v) <| uK (.int .i64 ((c : Nat) : Int)) <| uK (v.v) <| ?_
              try simp only [pS]
              refine uK (.int .i64 ((v.l : Nat) : Int)) <| uB .rem 3 (.int .i64 ((c : Nat) : Int)) (.int .i64 ((v.l : Nat) : Int)) (.int .i64 ((c % v.l : Nat) : Int)) (b_remN _ _ (by omega) _) <| uW (.pointer (some ⟨vb, vo + (c % v.l) * 1, none⟩)) (exec_ixA 24 1 E24 F24 _ _ rfl vb vo v.l v.k (c % v.l) (Eq.trans (b := v.v) (by kernel_rfl) hvl) (by kernel_rfl) hcl) <| uL 3 ⟨vb, vo + (c % v.l) * 1, none⟩ (.int .i64 z) (load_one (HF.out.kept.cell HV.out (fun e => e)) U3 rfl) <| uB .rem 3 (.int .i64 z) (.int .i64 2) (.int .i64 (z.tmod 2)) (b_rem2 _ _) <| ?_
              try simp only [pS]
              cases q3 : ((z.tmod 2) == 0)
              ·skip
               refine uB .neq 3 (.int .i64 (z.tmod 2)) (.int .i64 0) (.bool true) (by rw [b_neq, q3]; try rfl) <| uK (.bool true) <| uK (.bool true) <| WL.nil <| ?_
               try simp only [pS]
               go_upto_region 12 with fail
               refine WL.start <| uK (.bool true) <| uK (.bool true) <| uK (.int .i64 ((j : Nat) : Int)) <| uK (u.v) <| uK (.int .i64 ((u.l : Nat) : Int)) <| uB .lss 3 (.int .i64 ((j : Nat) : Int)) (.int .i64 ((u.l : Nat) : Int)) (.bool true) (by rw [b_lss, decide_eq_true (by omega)]) <| uK (.bool true) <| ?_
               try simp only [pS]
               refine uK (.bool true) <| uZ <| uZ <| uZ <| uZ <| uK (.bool true) <| WL.nil <| ?_
               try simp only [pS]
               obtain ⟨tb, tq, a, bs, es, ls, cs, hta, hA, hM, h63⟩ := HU.out.at hj2
               have htl : u.v = .slice (some ⟨tb, tq, none⟩) u.l u.k := by unfold Sl.v; rw [hta]
               have HS : Hid (∀ (j' : Nat) v, (Stp.cs a)[j']? = some v → w.cell? ⟨tb, tq + j * 31 + j', none⟩ = some v) := show ∀ (j' : Nat) v, (Stp.cs a)[j']? = some v → w.cell? ⟨tb, tq + j * 31 + j', none⟩ = some v from hA
               have HMo : Hid (MgOk w w a.m bs es ls cs) := hM.ok (Kept.refl No w) h63
               clear hta hA hM h63
               go_upto_region 13 with fail
               refine wp_region_held_drew (S := fun w' => Fq No w w' [(gk6, 34, #[.iface 115 (.pointer (some ⟨ma, 0, none⟩)), .pointer (some ⟨ra, 0, none⟩)]), (gk10, 34, #[.iface 115 (.pointer (some ⟨mb, 0, none⟩)), .pointer (some ⟨rb, 0, none⟩)])]) rfl (HF.out.drew) (fun hH => ?_)
               have HA : Hid (Pr w (wo.drew) TA ma ra ga) := HA.out.no (Kept.refl No _).drew
               have HB : Hid (Pr w (wo.drew) TB mb rb gb) := HB.out.no (Kept.refl No _).drew
               have HF : Hid (Fq No w (wo.drew) [(gk6, 34, #[.iface 115 (.pointer (some ⟨ma, 0, none⟩)), .pointer (some ⟨ra, 0, none⟩)]), (gk10, 34, #[.iface 115 (.pointer (some ⟨mb, 0, none⟩)), .pointer (some ⟨rb, 0, none⟩)])]) := HF.out.drew
               generalize wo.drew = wk13 at HF HA HB hH ⊢
               refine xL 0 89 34 ⟨gk10, 0, none⟩ (.agg #[.iface 115 (.pointer (some ⟨mb, 0, none⟩)), .pointer (some ⟨rb, 0, none⟩)]) (fun _ hw => run_load_part (cs := [.iface 115 (.pointer (some ⟨mb, 0, none⟩)), .pointer (some ⟨rb, 0, none⟩)]) (sub := [.iface 115 (.pointer (some ⟨mb, 0, none⟩)), .pointer (some ⟨rb, 0, none⟩)]) (hw.box 1 _ _ _ rfl) (Part.all _) U34 rfl S34) hH <| xV 1 90 u.v hH <| xV 2 91 (.int .i64 ((j : Nat) : Int)) hH <| xU 3 92 (.pointer (some ⟨tb, tq + j * 31, none⟩)) (fun w' hw => exec_ixA 28 31 E28 F28 _ _ rfl tb tq u.l u.k j (Eq.trans (b := u.v) (by kernel_rfl) htl) (by kernel_rfl) (by omega)) hH <| xL 4 93 54 ⟨tb, tq + j * 31, none⟩ (.agg (Stp.cells a)) (fun _ hw => load_at (fun j v hv => hw.kept.cell (HS.out j v hv) (fun e => e)) U54 rfl S54) hH <| ?_
               try simp only [pS]
               refine xC 5 94 12 #[.agg #[.iface 115 (.pointer (some ⟨mb, 0, none⟩)), .pointer (some ⟨rb, 0, none⟩)], .agg (Stp.cells a)] (HB.out.step a.k a.m bs es ls cs (HMo.out.kept HB.out.kp (fun k e f => by have : w.heap.size ≤ k := f; omega))) ?_
               rintro e wk14 ⟨rfl, T2, hP, hk, hT2⟩
               have hH2 : Fq No w wk14 [(gk6, 34, #[.iface 115 (.pointer (some ⟨ma, 0, none⟩)), .pointer (some ⟨ra, 0, none⟩)]), (gk10, 34, #[.iface 115 (.pointer (some ⟨mb, 0, none⟩)), .pointer (some ⟨rb, 0, none⟩)])] := Fq.new hH hk (fun k e => (HB.out.in k e).1) (by
                 intro y hy e
                 simp only [List.mem_cons, List.not_mem_nil, or_false] at hy
                 rcases hy with rfl | rfl
                 · exact HNf.out.2.1 e
                 · exact HNf.out.2.2 e)
               have HX : Hid (¬ T2 gk6 ∧ ¬ T2 gk10) := ⟨fun e => (hT2 _ e).elim HNf.out.2.1 (fun f => by have := (HF.out.box 0 _ _ _ rfl).lt; omega), fun e => (hT2 _ e).elim HNf.out.2.2 (fun f => by have := (HF.out.box 1 _ _ _ rfl).lt; omega)⟩
               have HO2 : Hid (Pr w wk14 TA ma ra ga) := HA.out.off hk (fun k e => ⟨(HB.out.in k e).1, fun f => HDj.out k f e⟩)
               have HDj2 : Hid (∀ k, TA k → ¬ T2 k) := fun k f e => (hT2 k e).elim (fun e => HDj.out k f e) (fun e => by have := (HA.out.in k f).2; omega)
               have HP2 : Hid (Pr w wk14 T2 mb rb gb) := hP
               have HF : Hid (Fq No w (wk14) [(gk6, 34, #[.iface 115 (.pointer (some ⟨ma, 0, none⟩)), .pointer (some ⟨ra, 0, none⟩)]), (gk10, 34, #[.iface 115 (.pointer (some ⟨mb, 0, none⟩)), .pointer (some ⟨rb, 0, none⟩)])]) := hH2
               clear hP hk hT2
               refine ⟨.bool true, rfl, hH2, fun hH => ?_⟩
               clear hH2
               try simp only [pS]
               refine xV 6 95 (.bool false) hH ?_
               try simp only [pS]
               refine wpAnyH_done (by kernel_rfl) ?_ _
               try simp only [pS]
               clear hH
               go_upto_region 15 with fail
               refine WL.start <| uK (.int .i64 ((j : Nat) : Int)) <| uB .add 3 (.int .i64 ((j : Nat) : Int)) (.int .i64 1) (.int .i64 (((j + 1) : Nat) : Int)) (b_addw _ _ _ (by rw [IntKind.wrap_i64]; omega) _) <| uK (.int .i64 (((j + 1) : Nat) : Int)) <| WL.nil <| ?_
               try simp only [pS]
               go_upto_region 10 with fail
               refine WL.start <| uK (.int .i64 ((c : Nat) : Int)) <| uB .add 3 (.int .i64 ((c : Nat) : Int)) (.int .i64 1) (.int .i64 (((c + 1) : Nat) : Int)) (b_addw _ _ _ (by rw [IntKind.wrap_i64]; omega) _) <| uK (.int .i64 (((c + 1) : Nat) : Int)) <| WL.nil <| ?_
               try simp only [pS]
               go_wp2
               go_roundw
               case rel => exact ⟨i, j + 1, c + 1, TA, T2, by go_num, by go_num, by go_num, by omega, by omega, by omega, HO2, HP2, HDj2, ⟨HNf.out.1, HX.out⟩, HF⟩
               case measure => simp [intOf]; omega
              ·skip
               refine uB .neq 3 (.int .i64 (z.tmod 2)) (.int .i64 0) (.bool false) (by rw [b_neq, q3]; try rfl) <| uK (.bool false) <| uK (.bool false) <| WL.nil <| ?_
               try simp only [pS]
               go_upto_region 12 with fail
               refine WL.start <| uK (.bool false) <| uK (.bool false) <| uZ <| uZ <| uZ <| uZ <| uK (.bool false) <| ?_
               try simp only [pS]
               refine uK (.bool false) <| uK (.int .i64 ((i : Nat) : Int)) <| uK (t.v) <| uK (.int .i64 ((t.l : Nat) : Int)) <| uB .geq 3 (.int .i64 ((i : Nat) : Int)) (.int .i64 ((t.l : Nat) : Int)) (.bool false) (by rw [b_geq, decide_eq_false (by omega)]) <| uK (.bool false) <| WL.nil <| ?_
               try simp only [pS]
               obtain ⟨tb, tq, a, bs, es, ls, cs, hta, hA, hM, h63⟩ := HT.out.at hi2
               have htl : t.v = .slice (some ⟨tb, tq, none⟩) t.l t.k := by unfold Sl.v; rw [hta]
               have HS : Hid (∀ (j' : Nat) v, (Stp.cs a)[j']? = some v → w.cell? ⟨tb, tq + i * 31 + j', none⟩ = some v) := show ∀ (j' : Nat) v, (Stp.cs a)[j']? = some v → w.cell? ⟨tb, tq + i * 31 + j', none⟩ = some v from hA
               have HMo : Hid (MgOk w w a.m bs es ls cs) := hM.ok (Kept.refl No w) h63
               clear hta hA hM h63
               go_upto_region 16 with fail
               refine wp_region_held_drew (S := fun w' => Fq No w w' [(gk6, 34, #[.iface 115 (.pointer (some ⟨ma, 0, none⟩)), .pointer (some ⟨ra, 0, none⟩)]), (gk10, 34, #[.iface 115 (.pointer (some ⟨mb, 0, none⟩)), .pointer (some ⟨rb, 0, none⟩)])]) rfl (HF.out.drew) (fun hH => ?_)
               have HA : Hid (Pr w (wo.drew) TA ma ra ga) := HA.out.no (Kept.refl No _).drew
               have HB : Hid (Pr w (wo.drew) TB mb rb gb) := HB.out.no (Kept.refl No _).drew
               have HF : Hid (Fq No w (wo.drew) [(gk6, 34, #[.iface 115 (.pointer (some ⟨ma, 0, none⟩)), .pointer (some ⟨ra, 0, none⟩)]), (gk10, 34, #[.iface 115 (.pointer (some ⟨mb, 0, none⟩)), .pointer (some ⟨rb, 0, none⟩)])]) := HF.out.drew
               generalize wo.drew = wk15 at HF HA HB hH ⊢
               refine xL 0 98 34 ⟨gk6, 0, none⟩ (.agg #[.iface 115 (.pointer (some ⟨ma, 0, none⟩)), .pointer (some ⟨ra, 0, none⟩)]) (fun _ hw => run_load_part (cs := [.iface 115 (.pointer (some ⟨ma, 0, none⟩)), .pointer (some ⟨ra, 0, none⟩)]) (sub := [.iface 115 (.pointer (some ⟨ma, 0, none⟩)), .pointer (some ⟨ra, 0, none⟩)]) (hw.box 0 _ _ _ rfl) (Part.all _) U34 rfl S34) hH <| xV 1 99 t.v hH <| xV 2 100 (.int .i64 ((i : Nat) : Int)) hH <| xU 3 101 (.pointer (some ⟨tb, tq + i * 31, none⟩)) (fun w' hw => exec_ixA 28 31 E28 F28 _ _ rfl tb tq t.l t.k i (Eq.trans (b := t.v) (by kernel_rfl) htl) (by kernel_rfl) (by omega)) hH <| xL 4 102 54 ⟨tb, tq + i * 31, none⟩ (.agg (Stp.cells a)) (fun _ hw => load_at (fun j v hv => hw.kept.cell (HS.out j v hv) (fun e => e)) U54 rfl S54) hH <| ?_
               try simp only [pS]
               refine xC 5 103 12 #[.agg #[.iface 115 (.pointer (some ⟨ma, 0, none⟩)), .pointer (some ⟨ra, 0, none⟩)], .agg (Stp.cells a)] (HA.out.step a.k a.m bs es ls cs (HMo.out.kept HA.out.kp (fun k e f => by have : w.heap.size ≤ k := f; omega))) ?_
               rintro e wk16 ⟨rfl, T2, hP, hk, hT2⟩
               have hH2 : Fq No w wk16 [(gk6, 34, #[.iface 115 (.pointer (some ⟨ma, 0, none⟩)), .pointer (some ⟨ra, 0, none⟩)]), (gk10, 34, #[.iface 115 (.pointer (some ⟨mb, 0, none⟩)), .pointer (some ⟨rb, 0, none⟩)])] := Fq.new hH hk (fun k e => (HA.out.in k e).1) (by
                 intro y hy e
                 simp only [List.mem_cons, List.not_mem_nil, or_false] at hy
                 rcases hy with rfl | rfl
                 · exact HNf.out.1.1 e
                 · exact HNf.out.1.2 e)
               have HX : Hid (¬ T2 gk6 ∧ ¬ T2 gk10) := ⟨fun e => (hT2 _ e).elim HNf.out.1.1 (fun f => by have := (HF.out.box 0 _ _ _ rfl).lt; omega), fun e => (hT2 _ e).elim HNf.out.1.2 (fun f => by have := (HF.out.box 1 _ _ _ rfl).lt; omega)⟩
               have HO2 : Hid (Pr w wk16 TB mb rb gb) := HB.out.off hk (fun k e => ⟨(HA.out.in k e).1, fun f => HDj.out k e f⟩)
               have HDj2 : Hid (∀ k, T2 k → ¬ TB k) := fun k e f => (hT2 k e).elim (fun e => HDj.out k e f) (fun e => by have := (HB.out.in k f).2; omega)
               have HP2 : Hid (Pr w wk16 T2 ma ra ga) := hP
               have HF : Hid (Fq No w (wk16) [(gk6, 34, #[.iface 115 (.pointer (some ⟨ma, 0, none⟩)), .pointer (some ⟨ra, 0, none⟩)]), (gk10, 34, #[.iface 115 (.pointer (some ⟨mb, 0, none⟩)), .pointer (some ⟨rb, 0, none⟩)])]) := hH2
               clear hP hk hT2
               refine ⟨.bool true, rfl, hH2, fun hH => ?_⟩
               clear hH2
               try simp only [pS]
               refine xV 6 104 (.bool false) hH ?_
               try simp only [pS]
               refine wpAnyH_done (by kernel_rfl) ?_ _
               try simp only [pS]
               clear hH
               go_upto_region 18 with fail
               refine WL.start <| uK (.int .i64 ((i : Nat) : Int)) <| uB .add 3 (.int .i64 ((i : Nat) : Int)) (.int .i64 1) (.int .i64 (((i + 1) : Nat) : Int)) (b_addw _ _ _ (by rw [IntKind.wrap_i64]; omega) _) <| uK (.int .i64 (((i + 1) : Nat) : Int)) <| WL.nil <| ?_
               try simp only [pS]
               go_upto_region 10 with fail
               refine WL.start <| uK (.int .i64 ((c : Nat) : Int)) <| uB .add 3 (.int .i64 ((c : Nat) : Int)) (.int .i64 1) (.int .i64 (((c + 1) : Nat) : Int)) (b_addw _ _ _ (by rw [IntKind.wrap_i64]; omega) _) <| uK (.int .i64 (((c + 1) : Nat) : Int)) <| WL.nil <| ?_
               try simp only [pS]
               go_wp2
               go_roundw
               case rel => exact ⟨i + 1, j, c + 1, T2, TB, by go_num, by go_num, by go_num, by omega, by omega, by omega, HP2, HO2, HDj2, ⟨HX.out, HNf.out.2⟩, HF⟩
               case measure => simp [intOf]; omega
            · skip
              go_upto_region 9 with fail
              refine WL.start <| uK (.int .i64 ((c : Nat) : Int)) <| uB .lss 3 (.int .i64 ((c : Nat) : Int)) (.int .i64 200) (.bool true) (by rw [b_lss, decide_eq_true (by omega)]) <| uK (.bool true) <| uK (.int .i64 ((i : Nat) : Int)) <| uK (t.v) <| uK (.int .i64 ((t.l : Nat) : Int)) <| uB .lss 3 (.int .i64 ((i : Nat) : Int)) (.int .i64 ((t.l : Nat) : Int)) (.bool true) (by rw [b_lss, decide_eq_true (by omega)]) <| ?_
              try simp only [pS]
              refine uK (.bool true) <| uZ <| uZ <| uZ <| uZ <| uK (.bool true) <| uK (.bool true) <| WL.nil <| ?_
              try simp only [pS]
              go_upto_region 11 with fail
              refine WL.start <| uK (v.v) <| uK (.int .i64 ((v.l : Nat) : Int)) <| uB .gtr 3 (.int .i64 ((v.l : Nat) : Int)) (.int .i64 0) (.bool false) (by rw [b_gtr, decide_eq_false (by omega)]) <| uK (.bool false) <| uZ <| uZ <| uZ <| ?_
              try simp only [pS]
              refine uZ <| uZ <| uZ <| uZ <| uZ <| uZ <| uK (.bool false) <| uK (.bool false) <| WL.nil <| ?_
              try simp only [pS]
              go_upto_region 12 with fail
              refine WL.start <| uK (.bool false) <| uK (.bool false) <| uZ <| uZ <| uZ <| uZ <| uK (.bool false) <| ?_
              try simp only [pS]
              refine uK (.bool false) <| uK (.int .i64 ((i : Nat) : Int)) <| uK (t.v) <| uK (.int .i64 ((t.l : Nat) : Int)) <| uB .geq 3 (.int .i64 ((i : Nat) : Int)) (.int .i64 ((t.l : Nat) : Int)) (.bool false) (by rw [b_geq, decide_eq_false (by omega)]) <| uK (.bool false) <| WL.nil <| ?_
              try simp only [pS]
              obtain ⟨tb, tq, a, bs, es, ls, cs, hta, hA, hM, h63⟩ := HT.out.at hi2
              have htl : t.v = .slice (some ⟨tb, tq, none⟩) t.l t.k := by unfold Sl.v; rw [hta]
              have HS : Hid (∀ (j' : Nat) v, (Stp.cs a)[j']? = some v → w.cell? ⟨tb, tq + i * 31 + j', none⟩ = some v) := show ∀ (j' : Nat) v, (Stp.cs a)[j']? = some v → w.cell? ⟨tb, tq + i * 31 + j', none⟩ = some v from hA
              have HMo : Hid (MgOk w w a.m bs es ls cs) := hM.ok (Kept.refl No w) h63
              clear hta hA hM h63
              go_upto_region 16 with fail
              refine wp_region_held_drew (S := fun w' => Fq No w w' [(gk6, 34, #[.iface 115 (.pointer (some ⟨ma, 0, none⟩)), .pointer (some ⟨ra, 0, none⟩)]), (gk10, 34, #[.iface 115 (.pointer (some ⟨mb, 0, none⟩)), .pointer (some ⟨rb, 0, none⟩)])]) rfl (HF.out.drew) (fun hH => ?_)
              have HA : Hid (Pr w (wo.drew) TA ma ra ga) := HA.out.no (Kept.refl No _).drew
              have HB : Hid (Pr w (wo.drew) TB mb rb gb) := HB.out.no (Kept.refl No _).drew
              have HF : Hid (Fq No w (wo.drew) [(gk6, 34, #[.iface 115 (.pointer (some ⟨ma, 0, none⟩)), .pointer (some ⟨ra, 0, none⟩)]), (gk10, 34, #[.iface 115 (.pointer (some ⟨mb, 0, none⟩)), .pointer (some ⟨rb, 0, none⟩)])]) := HF.out.drew
              generalize wo.drew = wk17 at HF HA HB hH ⊢
              refine xL 0 98 34 ⟨gk6, 0, none⟩ (.agg #[.iface 115 (.pointer (some ⟨ma, 0, none⟩)), .pointer (some ⟨ra, 0, none⟩)]) (fun _ hw => run_load_part (cs := [.iface 115 (.pointer (some ⟨ma, 0, none⟩)), .pointer (some ⟨ra, 0, none⟩)]) (sub := [.iface 115 (.pointer (some ⟨ma, 0, none⟩)), .pointer (some ⟨ra, 0, none⟩)]) (hw.box 0 _ _ _ rfl) (Part.all _) U34 rfl S34) hH <| xV 1 99 t.v hH <| xV 2 100 (.int .i64 ((i : Nat) : Int)) hH <| xU 3 101 (.pointer (some ⟨tb, tq + i * 31, none⟩)) (fun w' hw => exec_ixA 28 31 E28 F28 _ _ rfl tb tq t.l t.k i (Eq.trans (b := t.v) (by kernel_rfl) htl) (by kernel_rfl) (by omega)) hH <| xL 4 102 54 ⟨tb, tq + i * 31, none⟩ (.agg (Stp.cells a)) (fun _ hw => load_at (fun j v hv => hw.kept.cell (HS.out j v hv) (fun e => e)) U54 rfl S54) hH <| ?_
              try simp only [pS]
              refine xC 5 103 12 #[.agg #[.iface 115 (.pointer (some ⟨ma, 0, none⟩)), .pointer (some ⟨ra, 0, none⟩)], .agg (Stp.cells a)] (HA.out.step a.k a.m bs es ls cs (HMo.out.kept HA.out.kp (fun k e f => by have : w.heap.size ≤ k := f; omega))) ?_
              rintro e wk18 ⟨rfl, T2, hP, hk, hT2⟩
              have hH2 : Fq No w wk18 [(gk6, 34, #[.iface 115 (.pointer (some ⟨ma, 0, none⟩)), .pointer (some ⟨ra, 0, none⟩)]), (gk10, 34, #[.iface 115 (.pointer (some ⟨mb, 0, none⟩)), .pointer (some ⟨rb, 0, none⟩)])] := Fq.new hH hk (fun k e => (HA.out.in k e).1) (by
                intro y hy e
                simp only [List.mem_cons, List.not_mem_nil, or_false] at hy
                rcases hy with rfl | rfl
                · exact HNf.out.1.1 e
                · exact HNf.out.1.2 e)
              have HX : Hid (¬ T2 gk6 ∧ ¬ T2 gk10) := ⟨fun e => (hT2 _ e).elim HNf.out.1.1 (fun f => by have := (HF.out.box 0 _ _ _ rfl).lt; omega), fun e => (hT2 _ e).elim HNf.out.1.2 (fun f => by have := (HF.out.box 1 _ _ _ rfl).lt; omega)⟩
              have HO2 : Hid (Pr w wk18 TB mb rb gb) := HB.out.off hk (fun k e => ⟨(HA.out.in k e).1, fun f => HDj.out k e f⟩)
              have HDj2 : Hid (∀ k, T2 k → ¬ TB k) := fun k e f => (hT2 k e).elim (fun e => HDj.out k e f) (fun e => by have := (HB.out.in k f).2; omega)
              have HP2 : Hid (Pr w wk18 T2 ma ra ga) := hP
              have HF : Hid (Fq No w (wk18) [(gk6, 34, #[.iface 115 (.pointer (some ⟨ma, 0, none⟩)), .pointer (some ⟨ra, 0, none⟩)]), (gk10, 34, #[.iface 115 (.pointer (some ⟨mb, 0, none⟩)), .pointer (some ⟨rb, 0, none⟩)])]) := hH2
              clear hP hk hT2
              refine ⟨.bool true, rfl, hH2, fun hH => ?_⟩
              clear hH2
              try simp only [pS]
              refine xV 6 104 (.bool false) hH ?_
              try simp only [pS]
              refine wpAnyH_done (by kernel_rfl) ?_ _
              try simp only [pS]
              clear hH
              go_upto_region 18 with fail
              refine WL.start <| uK (.int .i64 ((i : Nat) : Int)) <| uB .add 3 (.int .i64 ((i : Nat) : Int)) (.int .i64 1) (.int .i64 (((i + 1) : Nat) : Int)) (b_addw _ _ _ (by rw [IntKind.wrap_i64]; omega) _) <| uK (.int .i64 (((i + 1) : Nat) : Int)) <| WL.nil <| ?_
              try simp only [pS]
              go_upto_region 10 with fail
              refine WL.start <| uK (.int .i64 ((c : Nat) : Int)) <| uB .add 3 (.int .i64 ((c : Nat) : Int)) (.int .i64 1) (.int .i64 (((c + 1) : Nat) : Int)) (b_addw _ _ _ (by rw [IntKind.wrap_i64]; omega) _) <| uK (.int .i64 (((c + 1) : Nat) : Int)) <| WL.nil <| ?_
              try simp only [pS]
              go_wp2
              go_roundw
              case rel => exact ⟨i + 1, j, c + 1, T2, TB, by go_num, by go_num, by go_num, by omega, by omega, by omega, HP2, HO2, HDj2, ⟨HX.out, HNf.out.2⟩, HF⟩
              case measure => simp [intOf]; omega
          · skip
            by_cases hv0 : 0 < v.l
            · have hcl : c % v.l < v.l := Nat.mod_lt _ hv0
              obtain ⟨vb, vo, z, hva, hvc⟩ := HVs.out.at hcl
              have hvl : v.v = .slice (some ⟨vb, vo, none⟩) v.l v.k := by unfold Sl.v; rw [hva]
              have HV : Hid (w.cell? ⟨vb, vo + (c % v.l) * 1, none⟩ = some (.int .i64 z)) := hvc
              clear hva hvc
              go_upto_region 9 with fail
              refine WL.start <| uK (.int .i64 ((c : Nat) : Int)) <| uB .lss 3 (.int .i64 ((c : Nat) : Int)) (.int .i64 200) (.bool true) (by rw [b_lss, decide_eq_true (by omega)]) <| uK (.bool true) <| uK (.int .i64 ((i : Nat) : Int)) <| uK (t.v) <| uK (.int .i64 ((t.l : Nat) : Int)) <| uB .lss 3 (.int .i64 ((i : Nat) : Int)) (.int .i64 ((t.l : Nat) : Int)) (.bool true) (by rw [b_lss, decide_eq_true (by omega)]) <| ?_
              try simp only [pS]
              refine uK (.bool true) <| uZ <| uZ <| uZ <| uZ <| uK (.bool true) <| uK (.bool true) <| WL.nil <| ?_
              try simp only [pS]
              go_upto_region 11 with fail
              refine WL.start <| uK (v.v) <| uK (.int .i64 ((v.l : Nat) : Int)) <| uB .gtr 3 (.int .i64 ((v.l : Nat) : Int)) (.int .i64 0) (.bool true) (by rw [b_gtr, decide_eq_true (by omega)]) <| uK (.bool true) <| uK (v.v) <| uK (.int .i64 ((c : Nat) : Int)) <| uK (v.v) <| ?_
              try simp only [pS]
              refine uK (.int .i64 ((v.l : Nat) : Int)) <| uB .rem 3 (.int .i64 ((c : Nat) : Int)) (.int .i64 ((v.l : Nat) : Int)) (.int .i64 ((c % v.l : Nat) : Int)) (b_remN _ _ (by omega) _) <| uW (.pointer (some ⟨vb, vo + (c % v.l) * 1, none⟩)) (exec_ixA 24 1 E24 F24 _ _ rfl vb vo v.l v.k (c % v.l) (Eq.trans (b := v.v) (by kernel_rfl) hvl) (by kernel_rfl) hcl) <| uL 3 ⟨vb, vo + (c % v.l) * 1, none⟩ (.int .i64 z) (load_one (HF.out.kept.cell HV.out (fun e => e)) U3 rfl) <| uB .rem 3 (.int .i64 z) (.int .i64 2) (.int .i64 (z.tmod 2)) (b_rem2 _ _) <| ?_
              try simp only [pS]
              cases q4 : ((z.tmod 2) == 0)
              ·skip
               refine uB .neq 3 (.int .i64 (z.tmod 2)) (.int .i64 0) (.bool true) (by rw [b_neq, q4]; try rfl) <| uK (.bool true) <| uK (.bool true) <| WL.nil <| ?_
               try simp only [pS]
               go_upto_region 12 with fail
               refine WL.start <| uK (.bool true) <| uK (.bool true) <| uK (.int .i64 ((j : Nat) : Int)) <| uK (u.v) <| uK (.int .i64 ((u.l : Nat) : Int)) <| uB .lss 3 (.int .i64 ((j : Nat) : Int)) (.int .i64 ((u.l : Nat) : Int)) (.bool false) (by rw [b_lss, decide_eq_false (by omega)]) <| uK (.bool false) <| ?_
               try simp only [pS]
               refine uK (.bool false) <| uK (.int .i64 ((i : Nat) : Int)) <| uK (t.v) <| uK (.int .i64 ((t.l : Nat) : Int)) <| uB .geq 3 (.int .i64 ((i : Nat) : Int)) (.int .i64 ((t.l : Nat) : Int)) (.bool false) (by rw [b_geq, decide_eq_false (by omega)]) <| uK (.bool false) <| WL.nil <| ?_
               try simp only [pS]
               obtain ⟨tb, tq, a, bs, es, ls, cs, hta, hA, hM, h63⟩ := HT.out.at hi2
               have htl : t.v = .slice (some ⟨tb, tq, none⟩) t.l t.k := by unfold Sl.v; rw [hta]
               have HS : Hid (∀ (j' : Nat) v, (Stp.cs a)[j']? = some v → w.cell? ⟨tb, tq + i * 31 + j', none⟩ = some v) := show ∀ (j' : Nat) v, (Stp.cs a)[j']? = some v → w.cell? ⟨tb, tq + i * 31 + j', none⟩ = some v from hA
               have HMo : Hid (MgOk w w a.m bs es ls cs) := hM.ok (Kept.refl No w) h63
               clear hta hA hM h63
               go_upto_region 16 with fail
               refine wp_region_held_drew (S := fun w' => Fq No w w' [(gk6, 34, #[.iface 115 (.pointer (some ⟨ma, 0, none⟩)), .pointer (some ⟨ra, 0, none⟩)]), (gk10, 34, #[.iface 115 (.pointer (some ⟨mb, 0, none⟩)), .pointer (some ⟨rb, 0, none⟩)])]) rfl (HF.out.drew) (fun hH => ?_)
               have HA : Hid (Pr w (wo.drew) TA ma ra ga) := HA.out.no (Kept.refl No _).drew
               have HB : Hid (Pr w (wo.drew) TB mb rb gb) := HB.out.no (Kept.refl No _).drew
               have HF : Hid (Fq No w (wo.drew) [(gk6, 34, #[.iface 115 (.pointer (some ⟨ma, 0, none⟩)), .pointer (some ⟨ra, 0, none⟩)]), (gk10, 34, #[.iface 115 (.pointer (some ⟨mb, 0, none⟩)), .pointer (some ⟨rb, 0, none⟩)])]) := HF.out.drew
               generalize wo.drew = wk19 at HF HA HB hH ⊢
               refine xL 0 98 34 ⟨gk6, 0, none⟩ (.agg #[.iface 115 (.pointer (some ⟨ma, 0, none⟩)), .pointer (some ⟨ra, 0, none⟩)]) (fun _ hw => run_load_part (cs := [.iface 115 (.pointer (some ⟨ma, 0, none⟩)), .pointer (some ⟨ra, 0, none⟩)]) (sub := [.iface 115 (.pointer (some ⟨ma, 0, none⟩)), .pointer (some ⟨ra, 0, none⟩)]) (hw.box 0 _ _ _ rfl) (Part.all _) U34 rfl S34) hH <| xV 1 99 t.v hH <| xV 2 100 (.int .i64 ((i : Nat) : Int)) hH <| xU 3 101 (.pointer (some ⟨tb, tq + i * 31, none⟩)) (fun w' hw => exec_ixA 28 31 E28 F28 _ _ rfl tb tq t.l t.k i (Eq.trans (b := t.v) (by kernel_rfl) htl) (by kernel_rfl) (by omega)) hH <| xL 4 102 54 ⟨tb, tq + i * 31, none⟩ (.agg (Stp.cells a)) (fun _ hw => load_at (fun j v hv => hw.kept.cell (HS.out j v hv) (fun e => e)) U54 rfl S54) hH <| ?_
               try simp only [pS]
               refine xC 5 103 12 #[.agg #[.iface 115 (.pointer (some ⟨ma, 0, none⟩)), .pointer (some ⟨ra, 0, none⟩)], .agg (Stp.cells a)] (HA.out.step a.k a.m bs es ls cs (HMo.out.kept HA.out.kp (fun k e f => by have : w.heap.size ≤ k := f; omega))) ?_
               rintro e wk20 ⟨rfl, T2, hP, hk, hT2⟩
               have hH2 : Fq No w wk20 [(gk6, 34, #[.iface 115 (.pointer (some ⟨ma, 0, none⟩)), .pointer (some ⟨ra, 0, none⟩)]), (gk10, 34, #[.iface 115 (.pointer (some ⟨mb, 0, none⟩)), .pointer (some ⟨rb, 0, none⟩)])] := Fq.new hH hk (fun k e => (HA.out.in k e).1) (by
                 intro y hy e
                 simp only [List.mem_cons, List.not_mem_nil, or_false] at hy
                 rcases hy with rfl | rfl
                 · exact HNf.out.1.1 e
                 · exact HNf.out.1.2 e)
               have HX : Hid (¬ T2 gk6 ∧ ¬ T2 gk10) := ⟨fun e => (hT2 _ e).elim HNf.out.1.1 (fun f => by have := (HF.out.box 0 _ _ _ rfl).lt; omega), fun e => (hT2 _ e).elim HNf.out.1.2 (fun f => by have := (HF.out.box 1 _ _ _ rfl).lt; omega)⟩
               have HO2 : Hid (Pr w wk20 TB mb rb gb) := HB.out.off hk (fun k e => ⟨(HA.out.in k e).1, fun f => HDj.out k e f⟩)
               have HDj2 : Hid (∀ k, T2 k → ¬ TB k) := fun k e f => (hT2 k e).elim (fun e => HDj.out k e f) (fun e => by have := (HB.out.in k f).2; omega)
               have HP2 : Hid (Pr w wk20 T2 ma ra ga) := hP
               have HF : Hid (Fq No w (wk20) [(gk6, 34, #[.iface 115 (.pointer (some ⟨ma, 0, none⟩)), .pointer (some ⟨ra, 0, none⟩)]), (gk10, 34, #[.iface 115 (.pointer (some ⟨mb, 0, none⟩)), .pointer (some ⟨rb, 0, none⟩)])]) := hH2
               clear hP hk hT2
               refine ⟨.bool true, rfl, hH2, fun hH => ?_⟩
               clear hH2
               try simp only [pS]
               refine xV 6 104 (.bool false) hH ?_
               try simp only [pS]
               refine wpAnyH_done (by kernel_rfl) ?_ _
               try simp only [pS]
               clear hH
               go_upto_region 18 with fail
               refine WL.start <| uK (.int .i64 ((i : Nat) : Int)) <| uB .add 3 (.int .i64 ((i : Nat) : Int)) (.int .i64 1) (.int .i64 (((i + 1) : Nat) : Int)) (b_addw _ _ _ (by rw [IntKind.wrap_i64]; omega) _) <| uK (.int .i64 (((i + 1) : Nat) : Int)) <| WL.nil <| ?_
               try simp only [pS]
               go_upto_region 10 with fail
               refine WL.start <| uK (.int .i64 ((c : Nat) : Int)) <| uB .add 3 (.int .i64 ((c : Nat) : Int)) (.int .i64 1) (.int .i64 (((c + 1) : Nat) : Int)) (b_addw _ _ _ (by rw [IntKind.wrap_i64]; omega) _) <| uK (.int .i64 (((c + 1) : Nat) : Int)) <| WL.nil <| ?_
               try simp only [pS]
               go_wp2
               go_roundw
               case rel => exact ⟨i + 1, j, c + 1, T2, TB, by go_num, by go_num, by go_num, by omega, by omega, by omega, HP2, HO2, HDj2, ⟨HX.out, HNf.out.2⟩, HF⟩
               case measure => simp [intOf]; omega
              ·skip
               refine uB .neq 3 (.int .i64 (z.tmod 2)) (.int .i64 0) (.bool false) (by rw [b_neq, q4]; try rfl) <| uK (.bool false) <| uK (.bool false) <| WL.nil <| ?_
               try simp only [pS]
               go_upto_region 12 with fail
               refine WL.start <| uK (.bool false) <| uK (.bool false) <| uZ <| uZ <| uZ <| uZ <| uK (.bool false) <| ?_
               try simp only [pS]
               refine uK (.bool false) <| uK (.int .i64 ((i : Nat) : Int)) <| uK (t.v) <| uK (.int .i64 ((t.l : Nat) : Int)) <| uB .geq 3 (.int .i64 ((i : Nat) : Int)) (.int .i64 ((t.l : Nat) : Int)) (.bool false) (by rw [b_geq, decide_eq_false (by omega)]) <| uK (.bool false) <| WL.nil <| ?_
               try simp only [pS]
               obtain ⟨tb, tq, a, bs, es, ls, cs, hta, hA, hM, h63⟩ := HT.out.at hi2
               have htl : t.v = .slice (some ⟨tb, tq, none⟩) t.l t.k := by unfold Sl.v; rw [hta]
               have HS : Hid (∀ (j' : Nat) v, (Stp.cs a)[j']? = some v → w.cell? ⟨tb, tq + i * 31 + j', none⟩ = some v) := show ∀ (j' : Nat) v, (Stp.cs a)[j']? = some v → w.cell? ⟨tb, tq + i * 31 + j', none⟩ = some v from hA
               have HMo : Hid (MgOk w w a.m bs es ls cs) := hM.ok (Kept.refl No w) h63
               clear hta hA hM h63
               go_upto_region 16 with fail
               refine wp_region_held_drew (S := fun w' => Fq No w w' [(gk6, 34, #[.iface 115 (.pointer (some ⟨ma, 0, none⟩)), .pointer (some ⟨ra, 0, none⟩)]), (gk10, 34, #[.iface 115 (.pointer (some ⟨mb, 0, none⟩)), .pointer (some ⟨rb, 0, none⟩)])]) rfl (HF.out.drew) (fun hH => ?_)
               have HA : Hid (Pr w (wo.drew) TA ma ra ga) := HA.out.no (Kept.refl No _).drew
               have HB : Hid (Pr w (wo.drew) TB mb rb gb) := HB.out.no (Kept.refl No _).drew
               have HF : Hid (Fq No w (wo.drew) [(gk6, 34, #[.iface 115 (.pointer (some ⟨ma, 0, none⟩)), .pointer (some ⟨ra, 0, none⟩)]), (gk10, 34, #[.iface 115 (.pointer (some ⟨mb, 0, none⟩)), .pointer (some ⟨rb, 0, none⟩)])]) := HF.out.drew
               generalize wo.drew = wk21 at HF HA HB hH ⊢
               refine xL 0 98 34 ⟨gk6, 0, none⟩ (.agg #[.iface 115 (.pointer (some ⟨ma, 0, none⟩)), .pointer (some ⟨ra, 0, none⟩)]) (fun _ hw => run_load_part (cs := [.iface 115 (.pointer (some ⟨ma, 0, none⟩)), .pointer (some ⟨ra, 0, none⟩)]) (sub := [.iface 115 (.pointer (some ⟨ma, 0, none⟩)), .pointer (some ⟨ra, 0, none⟩)]) (hw.box 0 _ _ _ rfl) (Part.all _) U34 rfl S34) hH <| xV 1 99 t.v hH <| xV 2 100 (.int .i64 ((i : Nat) : Int)) hH <| xU 3 101 (.pointer (some ⟨tb, tq + i * 31, none⟩)) (fun w' hw => exec_ixA 28 31 E28 F28 _ _ rfl tb tq t.l t.k i (Eq.trans (b := t.v) (by kernel_rfl) htl) (by kernel_rfl) (by omega)) hH <| xL 4 102 54 ⟨tb, tq + i * 31, none⟩ (.agg (Stp.cells a)) (fun _ hw => load_at (fun j v hv => hw.kept.cell (HS.out j v hv) (fun e => e)) U54 rfl S54) hH <| ?_
               try simp only [pS]
               refine xC 5 103 12 #[.agg #[.iface 115 (.pointer (some ⟨ma, 0, none⟩)), .pointer (some ⟨ra, 0, none⟩)], .agg (Stp.cells a)] (HA.out.step a.k a.m bs es ls cs (HMo.out.kept HA.out.kp (fun k e f => by have : w.heap.size ≤ k := f; omega))) ?_
               rintro e wk22 ⟨rfl, T2, hP, hk, hT2⟩
               have hH2 : Fq No w wk22 [(gk6, 34, #[.iface 115 (.pointer (some ⟨ma, 0, none⟩)), .pointer (some ⟨ra, 0, none⟩)]), (gk10, 34, #[.iface 115 (.pointer (some ⟨mb, 0, none⟩)), .pointer (some ⟨rb, 0, none⟩)])] := Fq.new hH hk (fun k e => (HA.out.in k e).1) (by
                 intro y hy e
                 simp only [List.mem_cons, List.not_mem_nil, or_false] at hy
                 rcases hy with rfl | rfl
                 · exact HNf.out.1.1 e
                 · exact HNf.out.1.2 e)
               have HX : Hid (¬ T2 gk6 ∧ ¬ T2 gk10) := ⟨fun e => (hT2 _ e).elim HNf.out.1.1 (fun f => by have := (HF.out.box 0 _ _ _ rfl).lt; omega), fun e => (hT2 _ e).elim HNf.out.1.2 (fun f => by have := (HF.out.box 1 _ _ _ rfl).lt; omega)⟩
               have HO2 : Hid (Pr w wk22 TB mb rb gb) := HB.out.off hk (fun k e => ⟨(HA.out.in k e).1, fun f => HDj.out k e f⟩)
               have HDj2 : Hid (∀ k, T2 k → ¬ TB k) := fun k e f => (hT2 k e).elim (fun e => HDj.out k e f) (fun e => by have := (HB.out.in k f).2; omega)
               have HP2 : Hid (Pr w wk22 T2 ma ra ga) := hP
               have HF : Hid (Fq No w (wk22) [(gk6, 34, #[.iface 115 (.pointer (some ⟨ma, 0, none⟩)), .pointer (some ⟨ra, 0, none⟩)]), (gk10, 34, #[.iface 115 (.pointer (some ⟨mb, 0, none⟩)), .pointer (some ⟨rb, 0, none⟩)])]) := hH2
               clear hP hk hT2
               refine ⟨.bool true, rfl, hH2, fun hH => ?_⟩
               clear hH2
               try simp only [pS]
               refine xV 6 104 (.bool false) hH ?_
               try simp only [pS]
               refine wpAnyH_done (by kernel_rfl) ?_ _
               try simp only [pS]
               clear hH
               go_upto_region 18 with fail
               refine WL.start <| uK (.int .i64 ((i : Nat) : Int)) <| uB .add 3 (.int .i64 ((i : Nat) : Int)) (.int .i64 1) (.int .i64 (((i + 1) : Nat) : Int)) (b_addw _ _ _ (by rw [IntKind.wrap_i64]; omega) _) <| uK (.int .i64 (((i + 1) : Nat) : Int)) <| WL.nil <| ?_
               try simp only [pS]
               go_upto_region 10 with fail
               refine WL.start <| uK (.int .i64 ((c : Nat) : Int)) <| uB .add 3 (.int .i64 ((c : Nat) : Int)) (.int .i64 1) (.int .i64 (((c + 1) : Nat) : Int)) (b_addw _ _ _ (by rw [IntKind.wrap_i64]; omega) _) <| uK (.int .i64 (((c + 1) : Nat) : Int)) <| WL.nil <| ?_
               try simp only [pS]
               go_wp2
               go_roundw
               case rel => exact ⟨i + 1, j, c + 1, T2, TB, by go_num, by go_num, by go_num, by omega, by omega, by omega, HP2, HO2, HDj2, ⟨HX.out, HNf.out.2⟩, HF⟩
               case measure => simp [intOf]; omega
            · skip
              go_upto_region 9 with fail
              refine WL.start <| uK (.int .i64 ((c : Nat) : Int)) <| uB .lss 3 (.int .i64 ((c : Nat) : Int)) (.int .i64 200) (.bool true) (by rw [b_lss, decide_eq_true (by omega)]) <| uK (.bool true) <| uK (.int .i64 ((i : Nat) : Int)) <| uK (t.v) <| uK (.int .i64 ((t.l : Nat) : Int)) <| uB .lss 3 (.int .i64 ((i : Nat) : Int)) (.int .i64 ((t.l : Nat) : Int)) (.bool true) (by rw [b_lss, decide_eq_true (by omega)]) <| ?_
              try simp only [pS]
              refine uK (.bool true) <| uZ <| uZ <| uZ <| uZ <| uK (.bool true) <| uK (.bool true) <| WL.nil <| ?_
              try simp only [pS]
              go_upto_region 11 with fail
              refine WL.start <| uK (v.v) <| uK (.int .i64 ((v.l : Nat) : Int)) <| uB .gtr 3 (.int .i64 ((v.l : Nat) : Int)) (.int .i64 0) (.bool false) (by rw [b_gtr, decide_eq_false (by omega)]) <| uK (.bool false) <| uZ <| uZ <| uZ <| ?_
              try simp only [pS]
              refine uZ <| uZ <| uZ <| uZ <| uZ <| uZ <| uK (.bool false) <| uK (.bool false) <| WL.nil <| ?_
              try simp only [pS]
              go_upto_region 12 with fail
              refine WL.start <| uK (.bool false) <| uK (.bool false) <| uZ <| uZ <| uZ <| uZ <| uK (.bool false) <| ?_
              try simp only [pS]
              refine uK (.bool false) <| uK (.int .i64 ((i : Nat) : Int)) <| uK (t.v) <| uK (.int .i64 ((t.l : Nat) : Int)) <| uB .geq 3 (.int .i64 ((i : Nat) : Int)) (.int .i64 ((t.l : Nat) : Int)) (.bool false) (by rw [b_geq, decide_eq_false (by omega)]) <| uK (.bool false) <| WL.nil <| ?_
              try simp only [pS]
              obtain ⟨tb, tq, a, bs, es, ls, cs, hta, hA, hM, h63⟩ := HT.out.at hi2
              have htl : t.v = .slice (some ⟨tb, tq, none⟩) t.l t.k := by unfold Sl.v; rw [hta]
              have HS : Hid (∀ (j' : Nat) v, (Stp.cs a)[j']? = some v → w.cell? ⟨tb, tq + i * 31 + j', none⟩ = some v) := show ∀ (j' : Nat) v, (Stp.cs a)[j']? = some v → w.cell? ⟨tb, tq + i * 31 + j', none⟩ = some v from hA
              have HMo : Hid (MgOk w w a.m bs es ls cs) := hM.ok (Kept.refl No w) h63
              clear hta hA hM h63
              go_upto_region 16 with fail
              refine wp_region_held_drew (S := fun w' => Fq No w w' [(gk6, 34, #[.iface 115 (.pointer (some ⟨ma, 0, none⟩)), .pointer (some ⟨ra, 0, none⟩)]), (gk10, 34, #[.iface 115 (.pointer (some ⟨mb, 0, none⟩)), .pointer (some ⟨rb, 0, none⟩)])]) rfl (HF.out.drew) (fun hH => ?_)
              have HA : Hid (Pr w (wo.drew) TA ma ra ga) := HA.out.no (Kept.refl No _).drew
              have HB : Hid (Pr w (wo.drew) TB mb rb gb) := HB.out.no (Kept.refl No _).drew
              have HF : Hid (Fq No w (wo.drew) [(gk6, 34, #[.iface 115 (.pointer (some ⟨ma, 0, none⟩)), .pointer (some ⟨ra, 0, none⟩)]), (gk10, 34, #[.iface 115 (.pointer (some ⟨mb, 0, none⟩)), .pointer (some ⟨rb, 0, none⟩)])]) := HF.out.drew
              generalize wo.drew = wk23 at HF HA HB hH ⊢
              refine xL 0 98 34 ⟨gk6, 0, none⟩ (.agg #[.iface 115 (.pointer (some ⟨ma, 0, none⟩)), .pointer (some ⟨ra, 0, none⟩)]) (fun _ hw => run_load_part (cs := [.iface 115 (.pointer (some ⟨ma, 0, none⟩)), .pointer (some ⟨ra, 0, none⟩)]) (sub := [.iface 115 (.pointer (some ⟨ma, 0, none⟩)), .pointer (some ⟨ra, 0, none⟩)]) (hw.box 0 _ _ _ rfl) (Part.all _) U34 rfl S34) hH <| xV 1 99 t.v hH <| xV 2 100 (.int .i64 ((i : Nat) : Int)) hH <| xU 3 101 (.pointer (some ⟨tb, tq + i * 31, none⟩)) (fun w' hw => exec_ixA 28 31 E28 F28 _ _ rfl tb tq t.l t.k i (Eq.trans (b := t.v) (by kernel_rfl) htl) (by kernel_rfl) (by omega)) hH <| xL 4 102 54 ⟨tb, tq + i * 31, none⟩ (.agg (Stp.cells a)) (fun _ hw => load_at (fun j v hv => hw.kept.cell (HS.out j v hv) (fun e => e)) U54 rfl S54) hH <| ?_
              try simp only [pS]
              refine xC 5 103 12 #[.agg #[.iface 115 (.pointer (some ⟨ma, 0, none⟩)), .pointer (some ⟨ra, 0, none⟩)], .agg (Stp.cells a)] (HA.out.step a.k a.m bs es ls cs (HMo.out.kept HA.out.kp (fun k e f => by have : w.heap.size ≤ k := f; omega))) ?_
              rintro e wk24 ⟨rfl, T2, hP, hk, hT2⟩
              have hH2 : Fq No w wk24 [(gk6, 34, #[.iface 115 (.pointer (some ⟨ma, 0, none⟩)), .pointer (some ⟨ra, 0, none⟩)]), (gk10, 34, #[.iface 115 (.pointer (some ⟨mb, 0, none⟩)), .pointer (some ⟨rb, 0, none⟩)])] := Fq.new hH hk (fun k e => (HA.out.in k e).1) (by
                intro y hy e
                simp only [List.mem_cons, List.not_mem_nil, or_false] at hy
                rcases hy with rfl | rfl
                · exact HNf.out.1.1 e
                · exact HNf.out.1.2 e)
              have HX : Hid (¬ T2 gk6 ∧ ¬ T2 gk10) := ⟨fun e => (hT2 _ e).elim HNf.out.1.1 (fun f => by have := (HF.out.box 0 _ _ _ rfl).lt; omega), fun e => (hT2 _ e).elim HNf.out.1.2 (fun f => by have := (HF.out.box 1 _ _ _ rfl).lt; omega)⟩
              have HO2 : Hid (Pr w wk24 TB mb rb gb) := HB.out.off hk (fun k e => ⟨(HA.out.in k e).1, fun f => HDj.out k e f⟩)
              have HDj2 : Hid (∀ k, T2 k → ¬ TB k) := fun k e f => (hT2 k e).elim (fun e => HDj.out k e f) (fun e => by have := (HB.out.in k f).2; omega)
              have HP2 : Hid (Pr w wk24 T2 ma ra ga) := hP
              have HF : Hid (Fq No w (wk24) [(gk6, 34, #[.iface 115 (.pointer (some ⟨ma, 0, none⟩)), .pointer (some ⟨ra, 0, none⟩)]), (gk10, 34, #[.iface 115 (.pointer (some ⟨mb, 0, none⟩)), .pointer (some ⟨rb, 0, none⟩)])]) := hH2
              clear hP hk hT2
              refine ⟨.bool true, rfl, hH2, fun hH => ?_⟩
              clear hH2
              try simp only [pS]
              refine xV 6 104 (.bool false) hH ?_
              try simp only [pS]
              refine wpAnyH_done (by kernel_rfl) ?_ _
              try simp only [pS]
              clear hH
              go_upto_region 18 with fail
              refine WL.start <| uK (.int .i64 ((i : Nat) : Int)) <| uB .add 3 (.int .i64 ((i : Nat) : Int)) (.int .i64 1) (.int .i64 (((i + 1) : Nat) : Int)) (b_addw _ _ _ (by rw [IntKind.wrap_i64]; omega) _) <| uK (.int .i64 (((i + 1) : Nat) : Int)) <| WL.nil <| ?_
              try simp only [pS]
              go_upto_region 10 with fail
              refine WL.start <| uK (.int .i64 ((c : Nat) : Int)) <| uB .add 3 (.int .i64 ((c : Nat) : Int)) (.int .i64 1) (.int .i64 (((c + 1) : Nat) : Int)) (b_addw _ _ _ (by rw [IntKind.wrap_i64]; omega) _) <| uK (.int .i64 (((c + 1) : Nat) : Int)) <| WL.nil <| ?_
              try simp only [pS]
              go_wp2
              go_roundw
              case rel => exact ⟨i + 1, j, c + 1, T2, TB, by go_num, by go_num, by go_num, by omega, by omega, by omega, HP2, HO2, HDj2, ⟨HX.out, HNf.out.2⟩, HF⟩
              case measure => simp [intOf]; omega
        · by_cases hj2 : j < u.l
          · skip
            by_cases hv0 : 0 < v.l
            · have hcl : c % v.l < v.l := Nat.mod_lt _ hv0
              obtain ⟨vb, vo, z, hva, hvc⟩ := HVs.out.at hcl
              have hvl : v.v = .slice (some ⟨vb, vo, none⟩) v.l v.k := by unfold Sl.v; rw [hva]
              have HV : Hid (w.cell? ⟨vb, vo + (c % v.l) * 1, none⟩ = some (.int .i64 z)) := hvc
              clear hva hvc
              go_upto_region 9 with fail
              refine WL.start <| uK (.int .i64 ((c : Nat) : Int)) <| uB .lss 3 (.int .i64 ((c : Nat) : Int)) (.int .i64 200) (.bool true) (by rw [b_lss, decide_eq_true (by omega)]) <| uK (.bool true) <| uK (.int .i64 ((i : Nat) : Int)) <| uK (t.v) <| uK (.int .i64 ((t.l : Nat) : Int)) <| uB .lss 3 (.int .i64 ((i : Nat) : Int)) (.int .i64 ((t.l : Nat) : Int)) (.bool false) (by rw [b_lss, decide_eq_false (by omega)]) <| ?_
              try simp only [pS]
              refine uK (.bool false) <| uK (.int .i64 ((j : Nat) : Int)) <| uK (u.v) <| uK (.int .i64 ((u.l : Nat) : Int)) <| uB .lss 3 (.int .i64 ((j : Nat) : Int)) (.int .i64 ((u.l : Nat) : Int)) (.bool true) (by rw [b_lss, decide_eq_true (by omega)]) <| uK (.bool true) <| uK (.bool true) <| WL.nil <| ?_
              try simp only [pS]
              go_upto_region 11 with fail
              refine WL.start <| uK (v.v) <| uK (.int .i64 ((v.l : Nat) : Int)) <| uB .gtr 3 (.int .i64 ((v.l : Nat) : Int)) (.int .i64 0) (.bool true) (by rw [b_gtr, decide_eq_true (by omega)]) <| uK (.bool true) <| uK (v.v) <| uK (.int .i64 ((c : Nat) : Int)) <| uK (v.v) <| ?_
              try simp only [pS]
              refine uK (.int .i64 ((v.l : Nat) : Int)) <| uB .rem 3 (.int .i64 ((c : Nat) : Int)) (.int .i64 ((v.l : Nat) : Int)) (.int .i64 ((c % v.l : Nat) : Int)) (b_remN _ _ (by omega) _) <| uW (.pointer (some ⟨vb, vo + (c % v.l) * 1, none⟩)) (exec_ixA 24 1 E24 F24 _ _ rfl vb vo v.l v.k (c % v.l) (Eq.trans (b := v.v) (by kernel_rfl) hvl) (by kernel_rfl) hcl) <| uL 3 ⟨vb, vo + (c % v.l) * 1, none⟩ (.int .i64 z) (load_one (HF.out.kept.cell HV.out (fun e => e)) U3 rfl) <| uB .rem 3 (.int .i64 z) (.int .i64 2) (.int .i64 (z.tmod 2)) (b_rem2 _ _) <| ?_
              try simp only [pS]
              cases q5 : ((z.tmod 2) == 0)
              ·skip
               refine uB .neq 3 (.int .i64 (z.tmod 2)) (.int .i64 0) (.bool true) (by rw [b_neq, q5]; try rfl) <| uK (.bool true) <| uK (.bool true) <| WL.nil <| ?_
               try simp only [pS]
               go_upto_region 12 with fail
               refine WL.start <| uK (.bool true) <| uK (.bool true) <| uK (.int .i64 ((j : Nat) : Int)) <| uK (u.v) <| uK (.int .i64 ((u.l : Nat) : Int)) <| uB .lss 3 (.int .i64 ((j : Nat) : Int)) (.int .i64 ((u.l : Nat) : Int)) (.bool true) (by rw [b_lss, decide_eq_true (by omega)]) <| uK (.bool true) <| ?_
               try simp only [pS]
               refine uK (.bool true) <| uZ <| uZ <| uZ <| uZ <| uK (.bool true) <| WL.nil <| ?_
               try simp only [pS]
               obtain ⟨tb, tq, a, bs, es, ls, cs, hta, hA, hM, h63⟩ := HU.out.at hj2
               have htl : u.v = .slice (some ⟨tb, tq, none⟩) u.l u.k := by unfold Sl.v; rw [hta]
               have HS : Hid (∀ (j' : Nat) v, (Stp.cs a)[j']? = some v → w.cell? ⟨tb, tq + j * 31 + j', none⟩ = some v) := show ∀ (j' : Nat) v, (Stp.cs a)[j']? = some v → w.cell? ⟨tb, tq + j * 31 + j', none⟩ = some v from hA
               have HMo : Hid (MgOk w w a.m bs es ls cs) := hM.ok (Kept.refl No w) h63
               clear hta hA hM h63
               go_upto_region 13 with fail
               refine wp_region_held_drew (S := fun w' => Fq No w w' [(gk6, 34, #[.iface 115 (.pointer (some ⟨ma, 0, none⟩)), .pointer (some ⟨ra, 0, none⟩)]), (gk10, 34, #[.iface 115 (.pointer (some ⟨mb, 0, none⟩)), .pointer (some ⟨rb, 0, none⟩)])]) rfl (HF.out.drew) (fun hH => ?_)
               have HA : Hid (Pr w (wo.drew) TA ma ra ga) := HA.out.no (Kept.refl No _).drew
               have HB : Hid (Pr w (wo.drew) TB mb rb gb) := HB.out.no (Kept.refl No _).drew
               have HF : Hid (Fq No w (wo.drew) [(gk6, 34, #[.iface 115 (.pointer (some ⟨ma, 0, none⟩)), .pointer (some ⟨ra, 0, none⟩)]), (gk10, 34, #[.iface 115 (.pointer (some ⟨mb, 0, none⟩)), .pointer (some ⟨rb, 0, none⟩)])]) := HF.out.drew
               generalize wo.drew = wk25 at HF HA HB hH ⊢
               refine xL 0 89 34 ⟨gk10, 0, none⟩ (.agg #[.iface 115 (.pointer (some ⟨mb, 0, none⟩)), .pointer (some ⟨rb, 0, none⟩)]) (fun _ hw => run_load_part (cs := [.iface 115 (.pointer (some ⟨mb, 0, none⟩)), .pointer (some ⟨rb, 0, none⟩)]) (sub := [.iface 115 (.pointer (some ⟨mb, 0, none⟩)), .pointer (some ⟨rb, 0, none⟩)]) (hw.box 1 _ _ _ rfl) (Part.all _) U34 rfl S34) hH <| xV 1 90 u.v hH <| xV 2 91 (.int .i64 ((j : Nat) : Int)) hH <| xU 3 92 (.pointer (some ⟨tb, tq + j * 31, none⟩)) (fun w' hw => exec_ixA 28 31 E28 F28 _ _ rfl tb tq u.l u.k j (Eq.trans (b := u.v) (by kernel_rfl) htl) (by kernel_rfl) (by omega)) hH <| xL 4 93 54 ⟨tb, tq + j * 31, none⟩ (.agg (Stp.cells a)) (fun _ hw => load_at (fun j v hv => hw.kept.cell (HS.out j v hv) (fun e => e)) U54 rfl S54) hH <| ?_
               try simp only [pS]
               refine xC 5 94 12 #[.agg #[.iface 115 (.pointer (some ⟨mb, 0, none⟩)), .pointer (some ⟨rb, 0, none⟩)], .agg (Stp.cells a)] (HB.out.step a.k a.m bs es ls cs (HMo.out.kept HB.out.kp (fun k e f => by have : w.heap.size ≤ k := f; omega))) ?_
               rintro e wk26 ⟨rfl, T2, hP, hk, hT2⟩
               have hH2 : Fq No w wk26 [(gk6, 34, #[.iface 115 (.pointer (some ⟨ma, 0, none⟩)), .pointer (some ⟨ra, 0, none⟩)]), (gk10, 34, #[.iface 115 (.pointer (some ⟨mb, 0, none⟩)), .pointer (some ⟨rb, 0, none⟩)])] := Fq.new hH hk (fun k e => (HB.out.in k e).1) (by
                 intro y hy e
                 simp only [List.mem_cons, List.not_mem_nil, or_false] at hy
                 rcases hy with rfl | rfl
                 · exact HNf.out.2.1 e
                 · exact HNf.out.2.2 e)
               have HX : Hid (¬ T2 gk6 ∧ ¬ T2 gk10) := ⟨fun e => (hT2 _ e).elim HNf.out.2.1 (fun f => by have := (HF.out.box 0 _ _ _ rfl).lt; omega), fun e => (hT2 _ e).elim HNf.out.2.2 (fun f => by have := (HF.out.box 1 _ _ _ rfl).lt; omega)⟩
               have HO2 : Hid (Pr w wk26 TA ma ra ga) := HA.out.off hk (fun k e => ⟨(HB.out.in k e).1, fun f => HDj.out k f e⟩)
               have HDj2 : Hid (∀ k, TA k → ¬ T2 k) := fun k f e => (hT2 k e).elim (fun e => HDj.out k f e) (fun e => by have := (HA.out.in k f).2; omega)
               have HP2 : Hid (Pr w wk26 T2 mb rb gb) := hP
               have HF : Hid (Fq No w (wk26) [(gk6, 34, #[.iface 115 (.pointer (some ⟨ma, 0, none⟩)), .pointer (some ⟨ra, 0, none⟩)]), (gk10, 34, #[.iface 115 (.pointer (some ⟨mb, 0, none⟩)), .pointer (some ⟨rb, 0, none⟩)])]) := hH2
               clear hP hk hT2
               refine ⟨.bool true, rfl, hH2, fun hH => ?_⟩
               clear hH2
               try simp only [pS]
               refine xV 6 95 (.bool false) hH ?_
               try simp only [pS]
               refine wpAnyH_done (by kernel_rfl) ?_ _
               try simp only [pS]
               clear hH
               go_upto_region 15 with fail
               refine WL.start <| uK (.int .i64 ((j : Nat) : Int)) <| uB .add 3 (.int .i64 ((j : Nat) : Int)) (.int .i64 1) (.int .i64 (((j + 1) : Nat) : Int)) (b_addw _ _ _ (by rw [IntKind.wrap_i64]; omega) _) <| uK (.int .i64 (((j + 1) : Nat) : Int)) <| WL.nil <| ?_
               try simp only [pS]
               go_upto_region 10 with fail
               refine WL.start <| uK (.int .i64 ((c : Nat) : Int)) <| uB .add 3 (.int .i64 ((c : Nat) : Int)) (.int .i64 1) (.int .i64 (((c + 1) : Nat) : Int)) (b_addw _ _ _ (by rw [IntKind.wrap_i64]; omega) _) <| uK (.int .i64 (((c + 1) : Nat) : Int)) <| WL.nil <| ?_
               try simp only [pS]
               go_wp2
               go_roundw
               case rel => exact ⟨i, j + 1, c + 1, TA, T2, by go_num, by go_num, by go_num, by omega, by omega, by omega, HO2, HP2, HDj2, ⟨HNf.out.1, HX.out⟩, HF⟩
               case measure => simp [intOf]; omega
              ·skip
               refine uB .neq 3 (.int .i64 (z.tmod 2)) (.int .i64 0) (.bool false) (by rw [b_neq, q5]; try rfl) <| uK (.bool false) <| uK (.bool false) <| WL.nil <| ?_
               try simp only [pS]
               go_upto_region 12 with fail
               refine WL.start <| uK (.bool false) <| uK (.bool false) <| uZ <| uZ <| uZ <| uZ <| uK (.bool false) <| ?_
               try simp only [pS]
               refine uK (.bool false) <| uK (.int .i64 ((i : Nat) : Int)) <| uK (t.v) <| uK (.int .i64 ((t.l : Nat) : Int)) <| uB .geq 3 (.int .i64 ((i : Nat) : Int)) (.int .i64 ((t.l : Nat) : Int)) (.bool true) (by rw [b_geq, decide_eq_true (by omega)]) <| uK (.bool true) <| WL.nil <| ?_
               try simp only [pS]
               obtain ⟨tb, tq, a, bs, es, ls, cs, hta, hA, hM, h63⟩ := HU.out.at hj2
               have htl : u.v = .slice (some ⟨tb, tq, none⟩) u.l u.k := by unfold Sl.v; rw [hta]
               have HS : Hid (∀ (j' : Nat) v, (Stp.cs a)[j']? = some v → w.cell? ⟨tb, tq + j * 31 + j', none⟩ = some v) := show ∀ (j' : Nat) v, (Stp.cs a)[j']? = some v → w.cell? ⟨tb, tq + j * 31 + j', none⟩ = some v from hA
               have HMo : Hid (MgOk w w a.m bs es ls cs) := hM.ok (Kept.refl No w) h63
               clear hta hA hM h63
               go_upto_region 13 with fail
               refine wp_region_held_drew (S := fun w' => Fq No w w' [(gk6, 34, #[.iface 115 (.pointer (some ⟨ma, 0, none⟩)), .pointer (some ⟨ra, 0, none⟩)]), (gk10, 34, #[.iface 115 (.pointer (some ⟨mb, 0, none⟩)), .pointer (some ⟨rb, 0, none⟩)])]) rfl (HF.out.drew) (fun hH => ?_)
               have HA : Hid (Pr w (wo.drew) TA ma ra ga) := HA.out.no (Kept.refl No _).drew
               have HB : Hid (Pr w (wo.drew) TB mb rb gb) := HB.out.no (Kept.refl No _).drew
               have HF : Hid (Fq No w (wo.drew) [(gk6, 34, #[.iface 115 (.pointer (some ⟨ma, 0, none⟩)), .pointer (some ⟨ra, 0, none⟩)]), (gk10, 34, #[.iface 115 (.pointer (some ⟨mb, 0, none⟩)), .pointer (some ⟨rb, 0, none⟩)])]) := HF.out.drew
               generalize wo.drew = wk27 at HF HA HB hH ⊢
               refine xL 0 89 34 ⟨gk10, 0, none⟩ (.agg #[.iface 115 (.pointer (some ⟨mb, 0, none⟩)), .pointer (some ⟨rb, 0, none⟩)]) (fun _ hw => run_load_part (cs := [.iface 115 (.pointer (some ⟨mb, 0, none⟩)), .pointer (some ⟨rb, 0, none⟩)]) (sub := [.iface 115 (.pointer (some ⟨mb, 0, none⟩)), .pointer (some ⟨rb, 0, none⟩)]) (hw.box 1 _ _ _ rfl) (Part.all _) U34 rfl S34) hH <| xV 1 90 u.v hH <| xV 2 91 (.int .i64 ((j : Nat) : Int)) hH <| xU 3 92 (.pointer (some ⟨tb, tq + j * 31, none⟩)) (fun w' hw => exec_ixA 28 31 E28 F28 _ _ rfl tb tq u.l u.k j (Eq.trans (b := u.v) (by kernel_rfl) htl) (by kernel_rfl) (by omega)) hH <| xL 4 93 54 ⟨tb, tq + j * 31, none⟩ (.agg (Stp.cells a)) (fun _ hw => load_at (fun j v hv => hw.kept.cell (HS.out j v hv) (fun e => e)) U54 rfl S54) hH <| ?_
               try simp only [pS]
               refine xC 5 94 12 #[.agg #[.iface 115 (.pointer (some ⟨mb, 0, none⟩)), .pointer (some ⟨rb, 0, none⟩)], .agg (Stp.cells a)] (HB.out.step a.k a.m bs es ls cs (HMo.out.kept HB.out.kp (fun k e f => by have : w.heap.size ≤ k := f; omega))) ?_
               rintro e wk28 ⟨rfl, T2, hP, hk, hT2⟩
               have hH2 : Fq No w wk28 [(gk6, 34, #[.iface 115 (.pointer (some ⟨ma, 0, none⟩)), .pointer (some ⟨ra, 0, none⟩)]), (gk10, 34, #[.iface 115 (.pointer (some ⟨mb, 0, none⟩)), .pointer (some ⟨rb, 0, none⟩)])] := Fq.new hH hk (fun k e => (HB.out.in k e).1) (by
                 intro y hy e
                 simp only [List.mem_cons, List.not_mem_nil, or_false] at hy
                 rcases hy with rfl | rfl
                 · exact HNf.out.2.1 e
                 · exact HNf.out.2.2 e)
               have HX : Hid (¬ T2 gk6 ∧ ¬ T2 gk10) := ⟨fun e => (hT2 _ e).elim HNf.out.2.1 (fun f => by have := (HF.out.box 0 _ _ _ rfl).lt; omega), fun e => (hT2 _ e).elim HNf.out.2.2 (fun f => by have := (HF.out.box 1 _ _ _ rfl).lt; omega)⟩
               have HO2 : Hid (Pr w wk28 TA ma ra ga) := HA.out.off hk (fun k e => ⟨(HB.out.in k e).1, fun f => HDj.out k f e⟩)
               have HDj2 : Hid (∀ k, TA k → ¬ T2 k) := fun k f e => (hT2 k e).elim (fun e => HDj.out k f e) (fun e => by have := (HA.out.in k f).2; omega)
               have HP2 : Hid (Pr w wk28 T2 mb rb gb) := hP
               have HF : Hid (Fq No w (wk28) [(gk6, 34, #[.iface 115 (.pointer (some ⟨ma, 0, none⟩)), .pointer (some ⟨ra, 0, none⟩)]), (gk10, 34, #[.iface 115 (.pointer (some ⟨mb, 0, none⟩)), .pointer (some ⟨rb, 0, none⟩)])]) := hH2
               clear hP hk hT2
               refine ⟨.bool true, rfl, hH2, fun hH => ?_⟩
               clear hH2
               try simp only [pS]
               refine xV 6 95 (.bool false) hH ?_
               try simp only [pS]
               refine wpAnyH_done (by kernel_rfl) ?_ _
               try simp only [pS]
               clear hH
               go_upto_region 15 with fail
               refine WL.start <| uK (.int .i64 ((j : Nat) : Int)) <| uB .add 3 (.int .i64 ((j : Nat) : Int)) (.int .i64 1) (.int .i64 (((j + 1) : Nat) : Int)) (b_addw _ _ _ (by rw [IntKind.wrap_i64]; omega) _) <| uK (.int .i64 (((j + 1) : Nat) : Int)) <| WL.nil <| ?_
               try simp only [pS]
               go_upto_region 10 with fail
               refine WL.start <| uK (.int .i64 ((c : Nat) : Int)) <| uB .add 3 (.int .i64 ((c : Nat) : Int)) (.int .i64 1) (.int .i64 (((c + 1) : Nat) : Int)) (b_addw _ _ _ (by rw [IntKind.wrap_i64]; omega) _) <| uK (.int .i64 (((c + 1) : Nat) : Int)) <| WL.nil <| ?_
               try simp only [pS]
               go_wp2
               go_roundw
               case rel => exact ⟨i, j + 1, c + 1, TA, T2, by go_num, by go_num, by go_num, by omega, by omega, by omega, HO2, HP2, HDj2, ⟨HNf.out.1, HX.out⟩, HF⟩
               case measure => simp [intOf]; omega
            · skip
              go_upto_region 9 with fail
              refine WL.start <| uK (.int .i64 ((c : Nat) : Int)) <| uB .lss 3 (.int .i64 ((c : Nat) : Int)) (.int .i64 200) (.bool true) (by rw [b_lss, decide_eq_true (by omega)]) <| uK (.bool true) <| uK (.int .i64 ((i : Nat) : Int)) <| uK (t.v) <| uK (.int .i64 ((t.l : Nat) : Int)) <| uB .lss 3 (.int .i64 ((i : Nat) : Int)) (.int .i64 ((t.l : Nat) : Int)) (.bool false) (by rw [b_lss, decide_eq_false (by omega)]) <| ?_
              try simp only [pS]
              refine uK (.bool false) <| uK (.int .i64 ((j : Nat) : Int)) <| uK (u.v) <| uK (.int .i64 ((u.l : Nat) : Int)) <| uB .lss 3 (.int .i64 ((j : Nat) : Int)) (.int .i64 ((u.l : Nat) : Int)) (.bool true) (by rw [b_lss, decide_eq_true (by omega)]) <| uK (.bool true) <| uK (.bool true) <| WL.nil <| ?_
              try simp only [pS]
              go_upto_region 11 with fail
              refine WL.start <| uK (v.v) <| uK (.int .i64 ((v.l : Nat) : Int)) <| uB .gtr 3 (.int .i64 ((v.l : Nat) : Int)) (.int .i64 0) (.bool false) (by rw [b_gtr, decide_eq_false (by omega)]) <| uK (.bool false) <| uZ <| uZ <| uZ <| ?_
              try simp only [pS]
              refine uZ <| uZ <| uZ <| uZ <| uZ <| uZ <| uK (.bool false) <| uK (.bool false) <| WL.nil <| ?_
              try simp only [pS]
              go_upto_region 12 with fail
              refine WL.start <| uK (.bool false) <| uK (.bool false) <| uZ <| uZ <| uZ <| uZ <| uK (.bool false) <| ?_
              try simp only [pS]
              refine uK (.bool false) <| uK (.int .i64 ((i : Nat) : Int)) <| uK (t.v) <| uK (.int .i64 ((t.l : Nat) : Int)) <| uB .geq 3 (.int .i64 ((i : Nat) : Int)) (.int .i64 ((t.l : Nat) : Int)) (.bool true) (by rw [b_geq, decide_eq_true (by omega)]) <| uK (.bool true) <| WL.nil <| ?_
              try simp only [pS]
              obtain ⟨tb, tq, a, bs, es, ls, cs, hta, hA, hM, h63⟩ := HU.out.at hj2
              have htl : u.v = .slice (some ⟨tb, tq, none⟩) u.l u.k := by unfold Sl.v; rw [hta]
              have HS : Hid (∀ (j' : Nat) v, (Stp.cs a)[j']? = some v → w.cell? ⟨tb, tq + j * 31 + j', none⟩ = some v) := show ∀ (j' : Nat) v, (Stp.cs a)[j']? = some v → w.cell? ⟨tb, tq + j * 31 + j', none⟩ = some v from hA
              have HMo : Hid (MgOk w w a.m bs es ls cs) := hM.ok (Kept.refl No w) h63
              clear hta hA hM h63
              go_upto_region 13 with fail
              refine wp_region_held_drew (S := fun w' => Fq No w w' [(gk6, 34, #[.iface 115 (.pointer (some ⟨ma, 0, none⟩)), .pointer (some ⟨ra, 0, none⟩)]), (gk10, 34, #[.iface 115 (.pointer (some ⟨mb, 0, none⟩)), .pointer (some ⟨rb, 0, none⟩)])]) rfl (HF.out.drew) (fun hH => ?_)
              have HA : Hid (Pr w (wo.drew) TA ma ra ga) := HA.out.no (Kept.refl No _).drew
              have HB : Hid (Pr w (wo.drew) TB mb rb gb) := HB.out.no (Kept.refl No _).drew
              have HF : Hid (Fq No w (wo.drew) [(gk6, 34, #[.iface 115 (.pointer (some ⟨ma, 0, none⟩)), .pointer (some ⟨ra, 0, none⟩)]), (gk10, 34, #[.iface 115 (.pointer (some ⟨mb, 0, none⟩)), .pointer (some ⟨rb, 0, none⟩)])]) := HF.out.drew
              generalize wo.drew = wk29 at HF HA HB hH ⊢
              refine xL 0 89 34 ⟨gk10, 0, none⟩ (.agg #[.iface 115 (.pointer (some ⟨mb, 0, none⟩)), .pointer (some ⟨rb, 0, none⟩)]) (fun _ hw => run_load_part (cs := [.iface 115 (.pointer (some ⟨mb, 0, none⟩)), .pointer (some ⟨rb, 0, none⟩)]) (sub := [.iface 115 (.pointer (some ⟨mb, 0, none⟩)), .pointer (some ⟨rb, 0, none⟩)]) (hw.box 1 _ _ _ rfl) (Part.all _) U34 rfl S34) hH <| xV 1 90 u.v hH <| xV 2 91 (.int .i64 ((j : Nat) : Int)) hH <| xU 3 92 (.pointer (some ⟨tb, tq + j * 31, none⟩)) (fun w' hw => exec_ixA 28 31 E28 F28 _ _ rfl tb tq u.l u.k j (Eq.trans (b := u.v) (by kernel_rfl) htl) (by kernel_rfl) (by omega)) hH <| xL 4 93 54 ⟨tb, tq + j * 31, none⟩ (.agg (Stp.cells a)) (fun _ hw => load_at (fun j v hv => hw.kept.cell (HS.out j v hv) (fun e => e)) U54 rfl S54) hH <| ?_
              try simp only [pS]
              refine xC 5 94 12 #[.agg #[.iface 115 (.pointer (some ⟨mb, 0, none⟩)), .pointer (some ⟨rb, 0, none⟩)], .agg (Stp.cells a)] (HB.out.step a.k a.m bs es ls cs (HMo.out.kept HB.out.kp (fun k e f => by have : w.heap.size ≤ k := f; omega))) ?_
              rintro e wk30 ⟨rfl, T2, hP, hk, hT2⟩
              have hH2 : Fq No w wk30 [(gk6, 34, #[.iface 115 (.pointer (some ⟨ma, 0, none⟩)), .pointer (some ⟨ra, 0, none⟩)]), (gk10, 34, #[.iface 115 (.pointer (some ⟨mb, 0, none⟩)), .pointer (some ⟨rb, 0, none⟩)])] := Fq.new hH hk (fun k e => (HB.out.in k e).1) (by
                intro y hy e
                simp only [List.mem_cons, List.not_mem_nil, or_false] at hy
                rcases hy with rfl | rfl
                · exact HNf.out.2.1 e
                · exact HNf.out.2.2 e)
              have HX : Hid (¬ T2 gk6 ∧ ¬ T2 gk10) := ⟨fun e => (hT2 _ e).elim HNf.out.2.1 (fun f => by have := (HF.out.box 0 _ _ _ rfl).lt; omega), fun e => (hT2 _ e).elim HNf.out.2.2 (fun f => by have := (HF.out.box 1 _ _ _ rfl).lt; omega)⟩
              have HO2 : Hid (Pr w wk30 TA ma ra ga) := HA.out.off hk (fun k e => ⟨(HB.out.in k e).1, fun f => HDj.out k f e⟩)
              have HDj2 : Hid (∀ k, TA k → ¬ T2 k) := fun k f e => (hT2 k e).elim (fun e => HDj.out k f e) (fun e => by have := (HA.out.in k f).2; omega)
              have HP2 : Hid (Pr w wk30 T2 mb rb gb) := hP
              have HF : Hid (Fq No w (wk30) [(gk6, 34, #[.iface 115 (.pointer (some ⟨ma, 0, none⟩)), .pointer (some ⟨ra, 0, none⟩)]), (gk10, 34, #[.iface 115 (.pointer (some ⟨mb, 0, none⟩)), .pointer (some ⟨rb, 0, none⟩)])]) := hH2
              clear hP hk hT2
              refine ⟨.bool true, rfl, hH2, fun hH => ?_⟩
              clear hH2
              try simp only [pS]
              refine xV 6 95 (.bool false) hH ?_
              try simp only [pS]
              refine wpAnyH_done (by kernel_rfl) ?_ _
              try simp only [pS]
              clear hH
              go_upto_region 15 with fail
              refine WL.start <| uK (.int .i64 ((j : Nat) : Int)) <| uB .add 3 (.int .i64 ((j : Nat) : Int)) (.int .i64 1) (.int .i64 (((j + 1) : Nat) : Int)) (b_addw _ _ _ (by rw [IntKind.wrap_i64]; omega) _) <| uK (.int .i64 (((j + 1) : Nat) : Int)) <| WL.nil <| ?_
              try simp only [pS]
              go_upto_region 10 with fail
              refine WL.start <| uK (.int .i64 ((c : Nat) : Int)) <| uB .add 3 (.int .i64 ((c : Nat) : Int)) (.int .i64 1) (.int .i64 (((c + 1) : Nat) : Int)) (b_addw _ _ _ (by rw [IntKind.wrap_i64]; omega) _) <| uK (.int .i64 (((c + 1) : Nat) : Int)) <| WL.nil <| ?_
              try simp only [pS]
              go_wp2
              go_roundw
              case rel => exact ⟨i, j + 1, c + 1, TA, T2, by go_num, by go_num, by go_num, by omega, by omega, by omega, HO2, HP2, HDj2, ⟨HNf.out.1, HX.out⟩, HF⟩
              case measure => simp [intOf]; omega
          · skip
            go_upto_region 9 with fail
            refine WL.start <| uK (.int .i64 ((c : Nat) : Int)) <| uB .lss 3 (.int .i64 ((c : Nat) : Int)) (.int .i64 200) (.bool true) (by rw [b_lss, decide_eq_true (by omega)]) <| uK (.bool true) <| uK (.int .i64 ((i : Nat) : Int)) <| uK (t.v) <| uK (.int .i64 ((t.l : Nat) : Int)) <| uB .lss 3 (.int .i64 ((i : Nat) : Int)) (.int .i64 ((t.l : Nat) : Int)) (.bool false) (by rw [b_lss, decide_eq_false (by omega)]) <| ?_
            try simp only [pS]
            refine uK (.bool false) <| uK (.int .i64 ((j : Nat) : Int)) <| uK (u.v) <| uK (.int .i64 ((u.l : Nat) : Int)) <| uB .lss 3 (.int .i64 ((j : Nat) : Int)) (.int .i64 ((u.l : Nat) : Int)) (.bool false) (by rw [b_lss, decide_eq_false (by omega)]) <| uK (.bool false) <| uK (.bool false) <| WL.nil <| ?_
            try simp only [pS]
            go_upto_region 19 with fail
            refine WL.start <| uL 34 ⟨gk6, 0, none⟩ (.agg #[.iface 115 (.pointer (some ⟨ma, 0, none⟩)), .pointer (some ⟨ra, 0, none⟩)]) (run_load_part (cs := [.iface 115 (.pointer (some ⟨ma, 0, none⟩)), .pointer (some ⟨ra, 0, none⟩)]) (sub := [.iface 115 (.pointer (some ⟨ma, 0, none⟩)), .pointer (some ⟨ra, 0, none⟩)]) (HF.out.box 0 _ _ _ rfl) (Part.all _) U34 rfl S34) <| ?_
            try simp only [pS]
            refine uC 11 #[.agg #[.iface 115 (.pointer (some ⟨ma, 0, none⟩)), .pointer (some ⟨ra, 0, none⟩)]] (HA.out.look) ?_
            rintro e wk31 ⟨rfl, hk⟩
            have HA : Hid (Pr w (wk31) TA ma ra ga) := HA.out.no hk
            have HB : Hid (Pr w (wk31) TB mb rb gb) := HB.out.no hk
            have HF : Hid (Fq No w (wk31) [(gk6, 34, #[.iface 115 (.pointer (some ⟨ma, 0, none⟩)), .pointer (some ⟨ra, 0, none⟩)]), (gk10, 34, #[.iface 115 (.pointer (some ⟨mb, 0, none⟩)), .pointer (some ⟨rb, 0, none⟩)])]) := HF.out.no hk
            clear hk
            refine ⟨.bool true, rfl, ?_⟩
            try simp only [pS]
            refine uK (.bool true) <| uL 34 ⟨gk10, 0, none⟩ (.agg #[.iface 115 (.pointer (some ⟨mb, 0, none⟩)), .pointer (some ⟨rb, 0, none⟩)]) (run_load_part (cs := [.iface 115 (.pointer (some ⟨mb, 0, none⟩)), .pointer (some ⟨rb, 0, none⟩)]) (sub := [.iface 115 (.pointer (some ⟨mb, 0, none⟩)), .pointer (some ⟨rb, 0, none⟩)]) (HF.out.box 1 _ _ _ rfl) (Part.all _) U34 rfl S34) <| ?_
            try simp only [pS]
            refine uC 11 #[.agg #[.iface 115 (.pointer (some ⟨mb, 0, none⟩)), .pointer (some ⟨rb, 0, none⟩)]] (HB.out.look) ?_
            rintro e wk32 ⟨rfl, hk⟩
            have HA : Hid (Pr w (wk32) TA ma ra ga) := HA.out.no hk
            have HB : Hid (Pr w (wk32) TB mb rb gb) := HB.out.no hk
            have HF : Hid (Fq No w (wk32) [(gk6, 34, #[.iface 115 (.pointer (some ⟨ma, 0, none⟩)), .pointer (some ⟨ra, 0, none⟩)]), (gk10, 34, #[.iface 115 (.pointer (some ⟨mb, 0, none⟩)), .pointer (some ⟨rb, 0, none⟩)])]) := HF.out.no hk
            clear hk
            refine ⟨.bool true, rfl, ?_⟩
            try simp only [pS]
            refine uK (.bool true) <| uK (.bool true) <| ?_
            try simp only [pS]
            refine uC 9 #[] (head_any _) ?_
            rintro e wk33 ⟨rfl, hk⟩
            have HA : Hid (Pr w (wk33) TA ma ra ga) := HA.out.no hk
            have HB : Hid (Pr w (wk33) TB mb rb gb) := HB.out.no hk
            have HF : Hid (Fq No w (wk33) [(gk6, 34, #[.iface 115 (.pointer (some ⟨ma, 0, none⟩)), .pointer (some ⟨ra, 0, none⟩)]), (gk10, 34, #[.iface 115 (.pointer (some ⟨mb, 0, none⟩)), .pointer (some ⟨rb, 0, none⟩)])]) := HF.out.no hk
            clear hk
            refine ⟨.bool true, rfl, ?_⟩
            try simp only [pS]
            refine uK (.bool true) <| uK (.bool true) <| WL.nil <| ?_
            try simp only [pS]
            go_wp2
            rw [HC.out]
            exact ⟨rfl, HF.out.kept⟩
      · skip
        go_upto_region 9 with fail
        refine WL.start <| uK (.int .i64 ((c : Nat) : Int)) <| uB .lss 3 (.int .i64 ((c : Nat) : Int)) (.int .i64 200) (.bool false) (by rw [b_lss, decide_eq_false (by omega)]) <| uK (.bool false) <| uZ <| uZ <| uZ <| uZ <| ?_
        try simp only [pS]
        refine uZ <| uZ <| uZ <| uZ <| uZ <| uZ <| uK (.bool false) <| WL.nil <| ?_
        try simp only [pS]
        go_upto_region 19 with fail
        refine WL.start <| uL 34 ⟨gk6, 0, none⟩ (.agg #[.iface 115 (.pointer (some ⟨ma, 0, none⟩)), .pointer (some ⟨ra, 0, none⟩)]) (run_load_part (cs := [.iface 115 (.pointer (some ⟨ma, 0, none⟩)), .pointer (some ⟨ra, 0, none⟩)]) (sub := [.iface 115 (.pointer (some ⟨ma, 0, none⟩)), .pointer (some ⟨ra, 0, none⟩)]) (HF.out.box 0 _ _ _ rfl) (Part.all _) U34 rfl S34) <| ?_
        try simp only [pS]
        refine uC 11 #[.agg #[.iface 115 (.pointer (some ⟨ma, 0, none⟩)), .pointer (some ⟨ra, 0, none⟩)]] (HA.out.look) ?_
        rintro e wk34 ⟨rfl, hk⟩
        have HA : Hid (Pr w (wk34) TA ma ra ga) := HA.out.no hk
        have HB : Hid (Pr w (wk34) TB mb rb gb) := HB.out.no hk
        have HF : Hid (Fq No w (wk34) [(gk6, 34, #[.iface 115 (.pointer (some ⟨ma, 0, none⟩)), .pointer (some ⟨ra, 0, none⟩)]), (gk10, 34, #[.iface 115 (.pointer (some ⟨mb, 0, none⟩)), .pointer (some ⟨rb, 0, none⟩)])]) := HF.out.no hk
        clear hk
        refine ⟨.bool true, rfl, ?_⟩
        try simp only [pS]
        refine uK (.bool true) <| uL 34 ⟨gk10, 0, none⟩ (.agg #[.iface 115 (.pointer (some ⟨mb, 0, none⟩)), .pointer (some ⟨rb, 0, none⟩)]) (run_load_part (cs := [.iface 115 (.pointer (some ⟨mb, 0, none⟩)), .pointer (some ⟨rb, 0, none⟩)]) (sub := [.iface 115 (.pointer (some ⟨mb, 0, none⟩)), .pointer (some ⟨rb, 0, none⟩)]) (HF.out.box 1 _ _ _ rfl) (Part.all _) U34 rfl S34) <| ?_
        try simp only [pS]
        refine uC 11 #[.agg #[.iface 115 (.pointer (some ⟨mb, 0, none⟩)), .pointer (some ⟨rb, 0, none⟩)]] (HB.out.look) ?_
        rintro e wk35 ⟨rfl, hk⟩
        have HA : Hid (Pr w (wk35) TA ma ra ga) := HA.out.no hk
        have HB : Hid (Pr w (wk35) TB mb rb gb) := HB.out.no hk
        have HF : Hid (Fq No w (wk35) [(gk6, 34, #[.iface 115 (.pointer (some ⟨ma, 0, none⟩)), .pointer (some ⟨ra, 0, none⟩)]), (gk10, 34, #[.iface 115 (.pointer (some ⟨mb, 0, none⟩)), .pointer (some ⟨rb, 0, none⟩)])]) := HF.out.no hk
        clear hk
        refine ⟨.bool true, rfl, ?_⟩
        try simp only [pS]
        refine uK (.bool true) <| uK (.bool true) <| ?_
        try simp only [pS]
        refine uC 9 #[] (head_any _) ?_
        rintro e wk36 ⟨rfl, hk⟩
        have HA : Hid (Pr w (wk36) TA ma ra ga) := HA.out.no hk
        have HB : Hid (Pr w (wk36) TB mb rb gb) := HB.out.no hk
        have HF : Hid (Fq No w (wk36) [(gk6, 34, #[.iface 115 (.pointer (some ⟨ma, 0, none⟩)), .pointer (some ⟨ra, 0, none⟩)]), (gk10, 34, #[.iface 115 (.pointer (some ⟨mb, 0, none⟩)), .pointer (some ⟨rb, 0, none⟩)])]) := HF.out.no hk
        clear hk
        refine ⟨.bool true, rfl, ?_⟩
        try simp only [pS]
        refine uK (.bool true) <| uK (.bool true) <| WL.nil <| ?_
        try simp only [pS]
        go_wp2
        rw [HC.out]
        exact ⟨rfl, HF.out.kept⟩
   ·skip
    refine uB .gtr 3 (.int .i64 ((n2 : Nat) : Int)) (.int .i64 100) (.bool true) (by rw [b_gtr, q2]; try rfl) <| uK (.bool true) <| WL.nil <| ?_
    try simp only [pS]
    go_upto_region 2 with fail
    refine WL.start ?_
    refine uC 9 #[] (head_any _) ?_
    rintro e wk37 ⟨rfl, hk⟩
    have HF : Hid (Fq No w (wk37) [(gk1, 27, Aq.cells ⟨wr1, cl1, op1, ky1, ⟨sa1, n1, sk1⟩, rd1, sz1, ⟨da1, dl1, dk1⟩⟩), (gk3, 27, Aq.cells ⟨wr2, cl2, op2, ky2, ⟨sa2, n2, sk2⟩, rd2, sz2, ⟨da2, dl2, dk2⟩⟩)]) := HF.out.no hk
    clear hk
    refine ⟨.bool true, rfl, ?_⟩
    try simp only [pS]
    refine uK (.bool true) <| WL.nil <| ?_
    try simp only [pS]
    go_wp2
    rw [HC.out]
    exact ⟨rfl, HF.out.kept⟩
  ·skip
   refine uB .gtr 3 (.int .i64 ((n1 : Nat) : Int)) (.int .i64 100) (.bool true) (by rw [b_gtr, q1]; try rfl) <| uK (.bool true) <| uZ <| uZ <| uZ <| uZ <| uK (.bool true) <| WL.nil <| ?_
   try simp only [pS]
   go_upto_region 2 with fail
   refine WL.start ?_
   refine uC 9 #[] (head_any _) ?_
   rintro e wk38 ⟨rfl, hk⟩
   have HF : Hid (Fq No w (wk38) [(gk1, 27, Aq.cells ⟨wr1, cl1, op1, ky1, ⟨sa1, n1, sk1⟩, rd1, sz1, ⟨da1, dl1, dk1⟩⟩), (gk3, 27, Aq.cells ⟨wr2, cl2, op2, ky2, ⟨sa2, n2, sk2⟩, rd2, sz2, ⟨da2, dl2, dk2⟩⟩)]) := HF.out.no hk
   clear hk
   refine ⟨.bool true, rfl, ?_⟩
   try simp only [pS]
   refine uK (.bool true) <| WL.nil <| ?_
   try simp only [pS]
   go_wp2
   rw [HC.out]
   exact ⟨rfl, HF.out.kept⟩

end Go.Proofs.Ytgiokkcdgoloaaa.Md
