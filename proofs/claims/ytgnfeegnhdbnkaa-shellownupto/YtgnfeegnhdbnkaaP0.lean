import Derived.Test.YtgnfeegnhdbnkaaO
namespace Go.Proofs.Ytgnfeegnhdbnkaa
open Go.RowKit Go.Lib
set_option linter.unusedVariables false
set_option linter.unusedSimpArgs false

theorem bs_eq (a b : List UInt8) : ((bs a).toList == (bs b).toList) = (a == b) := by
  have h : ∀ l : List UInt8, (bs l).toList = l := fun l => by simp [bs, ByteArray.toList_eq] <;> rfl
  rw [h, h]
theorem b_neqS (a b : List UInt8) (w : World) : (binOp .neq 9 (.string (bs a)) (.string (bs b))).run Try.prog w = .ok (.bool (!(a == b))) w := by
  rw [binOp_string_neq, bs_eq]; rfl
theorem b_neq3 (a b : Int) (w : World) : (binOp .neq 3 (.int .i64 a) (.int .i64 b)).run Try.prog w = .ok (.bool (!(a == b))) w := by kernel_rfl
set_option maxRecDepth 100000 in
set_option maxHeartbeats 4000000 in
theorem same_any (b1 b2 : Nat) (xa xb : Option Addr) (ca cb : Nat) (xs ys : List (List UInt8)) (w : World) (hA : Own 9 1 w b1 xa ca xs.length (xs.map strV)) (hB : Own 9 1 w b2 xb cb ys.length (ys.map strV)) (hxl : xs.length ≤ 1000000000000) : Calls Try.prog 9 #[.slice xa xs.length ca, .slice xb ys.length cb] w (fun e w' => e = .returned (.bool (xs == ys)) ∧ Kept No w w') := by
  obtain ⟨C, hC⟩ : ∃ C : Ending → World → Prop, C = (fun e w' => e = .returned (.bool (xs == ys)) ∧ Kept No w w') := ⟨_, rfl⟩
  have HC : Hid (C = (fun e w' => e = .returned (.bool (xs == ys)) ∧ Kept No w w')) := hC
  rw [← hC]
  clear hC
  have HA : Hid (Own 9 1 w b1 xa ca xs.length (xs.map strV)) := hA
  have HB2 : Hid (Own 9 1 w b2 xb cb ys.length (ys.map strV)) := hB
  have HXl : Hid (xs.length ≤ 1000000000000) := hxl
  clear hA hB hxl
  by_cases hl : xs.length = ys.length
  · have hln : (((xs.length : Nat) : Int) == ((ys.length : Nat) : Int)) = true := by rw [hl]; simp
    go_enter Try.func9, Try.ntmps9
    go_upto_region 0 with fail
    refine WL.start ?_
    refine tK (.bool false) ?_
    try simp only [pA, pB, p1, p2, p3]
    refine WL.nil ?_
    try simp only [pA, pB, p1, p2, p3]
    go_upto_region 1 with fail
    refine WL.start ?_
    refine tK (.slice xa xs.length ca) ?_
    try simp only [pA, pB, p1, p2, p3]
    refine tK (.int .i64 ((xs.length : Nat) : Int)) ?_
    try simp only [pA, pB, p1, p2, p3]
    refine tK (.slice xb ys.length cb) ?_
    try simp only [pA, pB, p1, p2, p3]
    refine tK (.int .i64 ((ys.length : Nat) : Int)) ?_
    try simp only [pA, pB, p1, p2, p3]
    refine tW (.bool false) (exec_bin .neq 3 _ _ _ rfl (.int .i64 ((xs.length : Nat) : Int)) (.int .i64 ((ys.length : Nat) : Int)) (.bool false) (by kernel_rfl) (by kernel_rfl) (by kernel_rfl) (by rw [b_neq3, hln]; rfl)) ?_
    try simp only [pA, pB, p1, p2, p3]
    refine WL.nil ?_
    try simp only [pA, pB, p1, p2, p3]
    go_upto_region 3 with fail
    refine WL.start ?_
    refine tK (.int .i64 0) ?_
    try simp only [pA, pB, p1, p2, p3]
    refine WL.nil ?_
    try simp only [pA, pB, p1, p2, p3]
    clear hln
    have HK : Hid (Kept No w w) := Kept.refl _ _
    go_wp2
    go_loopw [5] (fun v5 wr => ∃ i : Nat, v5 = .int .i64 ((i : Nat) : Int) ∧ i ≤ xs.length ∧ Hid (xs.take i = ys.take i) ∧ Hid (Kept No w wr)) (fun v5 _ => xs.length - (intOf v5).toNat)
    case atStart => exact ⟨0, by go_num, by omega, rfl, HK⟩
    case round =>
      clear HK
      obtain ⟨i, rfl, hi, HT, HK⟩ := hrel
      have HA : Hid (Own 9 1 wr b1 xa ca xs.length (xs.map strV)) := HA.out.no HK.out
      have HB2 : Hid (Own 9 1 wr b2 xb cb ys.length (ys.map strV)) := HB2.out.no HK.out
      by_cases hp : i < xs.length
      · obtain ⟨ga, rfl⟩ := HA.out.some_of (by omega)
        obtain ⟨gb, rfl⟩ := HB2.out.some_of (by omega)
        have hx : xs[i]? = some (xs[i]'hp) := List.getElem?_eq_getElem hp
        have hy : ys[i]? = some (ys[i]'(by omega)) := List.getElem?_eq_getElem (by omega)
        generalize xs[i]'hp = xx at hx
        generalize ys[i]'(by omega) = yy at hy
        have HXx : Hid ((xs.map strV)[0 + i * 1]? = some (strV xx)) := by show _ = _; rw [Nat.mul_one, Nat.zero_add, List.getElem?_map, hx]; rfl
        have HYy : Hid ((ys.map strV)[0 + i * 1]? = some (strV yy)) := by show _ = _; rw [Nat.mul_one, Nat.zero_add, List.getElem?_map, hy]; rfl
        have HX0 : Hid (xs[i]? = some xx) := hx
        have HY0 : Hid (ys[i]? = some yy) := hy
        have HP : Hid (i < xs.length) := hp
        have HI : Hid (i < xs.length ∧ xs.length ≤ 1000000000000) := ⟨hp, HXl.out⟩
        have hcm : ((i : Nat) : Int) < ((xs.length : Nat) : Int) := by omega
        clear hx hy
        by_cases he : xx = yy
        · have hne : (xx == yy) = true := by simp [he]
          have HE : Hid (xx = yy) := he
          clear he
          go_upto_region 4 with fail
          refine WL.start ?_
          refine tK (.int .i64 ((i : Nat) : Int)) ?_
          try simp only [pA, pB, p1, p2, p3]
          refine tK (.slice (some ⟨ga, 0, none⟩) xs.length ca) ?_
          try simp only [pA, pB, p1, p2, p3]
          refine tK (.int .i64 ((xs.length : Nat) : Int)) ?_
          try simp only [pA, pB, p1, p2, p3]
          refine tW (.bool true) (exec_bin .lss 3 _ _ _ rfl (.int .i64 ((i : Nat) : Int)) (.int .i64 ((xs.length : Nat) : Int)) (.bool true) (by kernel_rfl) (by kernel_rfl) (by kernel_rfl) (by rw [b_lss, decide_eq_true hcm])) ?_
          try simp only [pA, pB, p1, p2, p3]
          refine WL.nil ?_
          try simp only [pA, pB, p1, p2, p3]
          go_upto_region 6 with fail
          have HA : Hid (Own 9 1 wr.drew b1 (some ⟨ga, 0, none⟩) ca xs.length (xs.map strV)) := HA.out.no (Kept.refl No _).drew
          have HB2 : Hid (Own 9 1 wr.drew b2 (some ⟨gb, 0, none⟩) cb ys.length (ys.map strV)) := HB2.out.no (Kept.refl No _).drew
          have HK : Hid (Kept No w wr.drew) := HK.out.drew
          refine wp_region_held_drew (S := fun w' => Own 9 1 w' b1 (some ⟨ga, 0, none⟩) ca xs.length (xs.map strV) ∧ Own 9 1 w' b2 (some ⟨gb, 0, none⟩) cb ys.length (ys.map strV)) rfl ⟨HA.out, HB2.out⟩ (fun hH => ?_)
          generalize wr.drew = wk1 at HA HB2 HK hH ⊢
          refine aT (i := 0) (oi := { dst := some 17, op := Op.move (Operand.tmp 0), type := 22, pos := "law.go:16", after := #[], guard := none }) (v := .slice (some ⟨ga, 0, none⟩) xs.length ca) (fun _ _ => by kernel_rfl) hH ?_
          try simp only [pA, pB, p1, p2, p3]
          refine aT (i := 1) (oi := { dst := some 18, op := Op.move (Operand.tmp 5), type := 3, pos := "law.go:16", after := #[], guard := none }) (v := .int .i64 ((i : Nat) : Int)) (fun _ _ => by kernel_rfl) hH ?_
          try simp only [pA, pB, p1, p2, p3]
          refine aT (i := 2) (oi := { dst := some 19, op := Op.indexAddr 22 (Operand.tmp 17) (Operand.tmp 18), type := 0, pos := "law.go:16", after := #[{ on := 0, ground := Ground.data }, { on := 1, ground := Ground.data }], guard := none }) (v := .pointer (some ⟨ga, 0 + i * 1, none⟩)) (fun w' hw => exec_ixA 22 1 E22 F22 _ _ rfl ga 0 xs.length ca i (by kernel_rfl) (by kernel_rfl) (by omega)) hH ?_
          try simp only [pA, pB, p1, p2, p3]
          refine aT (i := 3) (oi := { dst := some 20, op := Op.load 9 (Operand.tmp 19), type := 9, pos := "law.go:16", after := #[{ on := 2, ground := Ground.data }], guard := none }) (v := .string (bs xx)) (fun w' hw => exec_load 9 _ rfl ⟨ga, 0 + i * 1, none⟩ (by kernel_rfl) (.string (bs xx)) (load_one (hw.1.cellAt HXx.out) U9 rfl)) hH ?_
          try simp only [pA, pB, p1, p2, p3]
          refine aT (i := 4) (oi := { dst := some 21, op := Op.move (Operand.tmp 1), type := 22, pos := "law.go:16", after := #[], guard := none }) (v := .slice (some ⟨gb, 0, none⟩) ys.length cb) (fun _ _ => by kernel_rfl) hH ?_
          try simp only [pA, pB, p1, p2, p3]
          refine aT (i := 5) (oi := { dst := some 22, op := Op.move (Operand.tmp 5), type := 3, pos := "law.go:16", after := #[], guard := none }) (v := .int .i64 ((i : Nat) : Int)) (fun _ _ => by kernel_rfl) hH ?_
          try simp only [pA, pB, p1, p2, p3]
          refine aT (i := 6) (oi := { dst := some 23, op := Op.indexAddr 22 (Operand.tmp 21) (Operand.tmp 22), type := 0, pos := "law.go:16", after := #[{ on := 4, ground := Ground.data }, { on := 5, ground := Ground.data }], guard := none }) (v := .pointer (some ⟨gb, 0 + i * 1, none⟩)) (fun w' hw => exec_ixA 22 1 E22 F22 _ _ rfl gb 0 ys.length cb i (by kernel_rfl) (by kernel_rfl) (by omega)) hH ?_
          try simp only [pA, pB, p1, p2, p3]
          refine aT (i := 7) (oi := { dst := some 24, op := Op.load 9 (Operand.tmp 23), type := 9, pos := "law.go:16", after := #[{ on := 6, ground := Ground.data }], guard := none }) (v := .string (bs yy)) (fun w' hw => exec_load 9 _ rfl ⟨gb, 0 + i * 1, none⟩ (by kernel_rfl) (.string (bs yy)) (load_one (hw.2.cellAt HYy.out) U9 rfl)) hH ?_
          try simp only [pA, pB, p1, p2, p3]
          refine aT (i := 8) (oi := { dst := some 25, op := Op.binOp BinOp.neq 9 (Operand.tmp 20) (Operand.tmp 24) 9, type := 4, pos := "law.go:16", after := #[{ on := 3, ground := Ground.data }, { on := 7, ground := Ground.data }], guard := none }) (v := .bool false) (fun w' hw => exec_bin .neq 9 _ _ _ rfl (.string (bs xx)) (.string (bs yy)) (.bool false) (by kernel_rfl) (by kernel_rfl) (by kernel_rfl) (by rw [b_neqS, hne]; rfl)) hH ?_
          try simp only [pA, pB, p1, p2, p3]
          refine wpAnyH_done (by kernel_rfl) ?_ _
          try simp only [pA, pB, p1, p2, p3]
          clear hH
          go_upto_region 5 with fail
          refine WL.start ?_
          refine tK (.int .i64 ((i : Nat) : Int)) ?_
          try simp only [pA, pB, p1, p2, p3]
          refine tW (.int .i64 ((i + 1 : Nat) : Int)) (exec_bin .add 3 _ _ _ rfl (.int .i64 ((i : Nat) : Int)) (.int .i64 1) (.int .i64 ((i + 1 : Nat) : Int)) (by kernel_rfl) (by kernel_rfl) (by kernel_rfl) (b_add1 i (by have := HI.out; omega) _)) ?_
          try simp only [pA, pB, p1, p2, p3]
          refine tK (.int .i64 ((i + 1 : Nat) : Int)) ?_
          try simp only [pA, pB, p1, p2, p3]
          refine WL.nil ?_
          try simp only [pA, pB, p1, p2, p3]
          go_wp2
          go_roundw
          case rel => exact ⟨i + 1, by go_num, by have := HP.out; omega, by show _ = _; rw [List.take_add_one, List.take_add_one, HT.out, HX0.out, HY0.out, HE.out], HK⟩
          case measure => have := HP.out; simp [intOf]; omega
        · have hne : (xx == yy) = false := by simp [he]
          have HE : Hid (¬ xx = yy) := he
          clear he
          go_upto_region 4 with fail
          refine WL.start ?_
          refine tK (.int .i64 ((i : Nat) : Int)) ?_
          try simp only [pA, pB, p1, p2, p3]
          refine tK (.slice (some ⟨ga, 0, none⟩) xs.length ca) ?_
          try simp only [pA, pB, p1, p2, p3]
          refine tK (.int .i64 ((xs.length : Nat) : Int)) ?_
          try simp only [pA, pB, p1, p2, p3]
          refine tW (.bool true) (exec_bin .lss 3 _ _ _ rfl (.int .i64 ((i : Nat) : Int)) (.int .i64 ((xs.length : Nat) : Int)) (.bool true) (by kernel_rfl) (by kernel_rfl) (by kernel_rfl) (by rw [b_lss, decide_eq_true hcm])) ?_
          try simp only [pA, pB, p1, p2, p3]
          refine WL.nil ?_
          try simp only [pA, pB, p1, p2, p3]
          go_upto_region 6 with fail
          have HA : Hid (Own 9 1 wr.drew b1 (some ⟨ga, 0, none⟩) ca xs.length (xs.map strV)) := HA.out.no (Kept.refl No _).drew
          have HB2 : Hid (Own 9 1 wr.drew b2 (some ⟨gb, 0, none⟩) cb ys.length (ys.map strV)) := HB2.out.no (Kept.refl No _).drew
          have HK : Hid (Kept No w wr.drew) := HK.out.drew
          refine wp_region_held_drew (S := fun w' => Own 9 1 w' b1 (some ⟨ga, 0, none⟩) ca xs.length (xs.map strV) ∧ Own 9 1 w' b2 (some ⟨gb, 0, none⟩) cb ys.length (ys.map strV)) rfl ⟨HA.out, HB2.out⟩ (fun hH => ?_)
          generalize wr.drew = wk2 at HA HB2 HK hH ⊢
          refine aT (i := 0) (oi := { dst := some 17, op := Op.move (Operand.tmp 0), type := 22, pos := "law.go:16", after := #[], guard := none }) (v := .slice (some ⟨ga, 0, none⟩) xs.length ca) (fun _ _ => by kernel_rfl) hH ?_
          try simp only [pA, pB, p1, p2, p3]
          refine aT (i := 1) (oi := { dst := some 18, op := Op.move (Operand.tmp 5), type := 3, pos := "law.go:16", after := #[], guard := none }) (v := .int .i64 ((i : Nat) : Int)) (fun _ _ => by kernel_rfl) hH ?_
          try simp only [pA, pB, p1, p2, p3]
          refine aT (i := 2) (oi := { dst := some 19, op := Op.indexAddr 22 (Operand.tmp 17) (Operand.tmp 18), type := 0, pos := "law.go:16", after := #[{ on := 0, ground := Ground.data }, { on := 1, ground := Ground.data }], guard := none }) (v := .pointer (some ⟨ga, 0 + i * 1, none⟩)) (fun w' hw => exec_ixA 22 1 E22 F22 _ _ rfl ga 0 xs.length ca i (by kernel_rfl) (by kernel_rfl) (by omega)) hH ?_
          try simp only [pA, pB, p1, p2, p3]
          refine aT (i := 3) (oi := { dst := some 20, op := Op.load 9 (Operand.tmp 19), type := 9, pos := "law.go:16", after := #[{ on := 2, ground := Ground.data }], guard := none }) (v := .string (bs xx)) (fun w' hw => exec_load 9 _ rfl ⟨ga, 0 + i * 1, none⟩ (by kernel_rfl) (.string (bs xx)) (load_one (hw.1.cellAt HXx.out) U9 rfl)) hH ?_
          try simp only [pA, pB, p1, p2, p3]
          refine aT (i := 4) (oi := { dst := some 21, op := Op.move (Operand.tmp 1), type := 22, pos := "law.go:16", after := #[], guard := none }) (v := .slice (some ⟨gb, 0, none⟩) ys.length cb) (fun _ _ => by kernel_rfl) hH ?_
          try simp only [pA, pB, p1, p2, p3]
          refine aT (i := 5) (oi := { dst := some 22, op := Op.move (Operand.tmp 5), type := 3, pos := "law.go:16", after := #[], guard := none }) (v := .int .i64 ((i : Nat) : Int)) (fun _ _ => by kernel_rfl) hH ?_
          try simp only [pA, pB, p1, p2, p3]
          refine aT (i := 6) (oi := { dst := some 23, op := Op.indexAddr 22 (Operand.tmp 21) (Operand.tmp 22), type := 0, pos := "law.go:16", after := #[{ on := 4, ground := Ground.data }, { on := 5, ground := Ground.data }], guard := none }) (v := .pointer (some ⟨gb, 0 + i * 1, none⟩)) (fun w' hw => exec_ixA 22 1 E22 F22 _ _ rfl gb 0 ys.length cb i (by kernel_rfl) (by kernel_rfl) (by omega)) hH ?_
          try simp only [pA, pB, p1, p2, p3]
          refine aT (i := 7) (oi := { dst := some 24, op := Op.load 9 (Operand.tmp 23), type := 9, pos := "law.go:16", after := #[{ on := 6, ground := Ground.data }], guard := none }) (v := .string (bs yy)) (fun w' hw => exec_load 9 _ rfl ⟨gb, 0 + i * 1, none⟩ (by kernel_rfl) (.string (bs yy)) (load_one (hw.2.cellAt HYy.out) U9 rfl)) hH ?_
          try simp only [pA, pB, p1, p2, p3]
          refine aT (i := 8) (oi := { dst := some 25, op := Op.binOp BinOp.neq 9 (Operand.tmp 20) (Operand.tmp 24) 9, type := 4, pos := "law.go:16", after := #[{ on := 3, ground := Ground.data }, { on := 7, ground := Ground.data }], guard := none }) (v := .bool true) (fun w' hw => exec_bin .neq 9 _ _ _ rfl (.string (bs xx)) (.string (bs yy)) (.bool true) (by kernel_rfl) (by kernel_rfl) (by kernel_rfl) (by rw [b_neqS, hne]; rfl)) hH ?_
          try simp only [pA, pB, p1, p2, p3]
          refine wpAnyH_done (by kernel_rfl) ?_ _
          try simp only [pA, pB, p1, p2, p3]
          clear hH
          go_upto_region 7 with fail
          refine WL.start ?_
          refine tK (.bool false) ?_
          try simp only [pA, pB, p1, p2, p3]
          refine WL.nil ?_
          try simp only [pA, pB, p1, p2, p3]
          go_wp2
          rw [HC.out]
          have hx : ¬ xs = ys := fun e => by have h1 := HX0.out; rw [e, HY0.out] at h1; cases h1; exact HE.out rfl
          exact ⟨by rw [show (xs == ys) = false from by simpa using hx] <;> rfl, HK.out⟩
      · have hcm : ¬ ((i : Nat) : Int) < ((xs.length : Nat) : Int) := by omega
        have hx : xs = ys := by have := HT.out; rwa [List.take_of_length_le (by omega), List.take_of_length_le (by omega)] at this
        have HX : Hid (xs = ys) := hx
        clear hx
        go_upto_region 4 with fail
        refine WL.start ?_
        refine tK (.int .i64 ((i : Nat) : Int)) ?_
        try simp only [pA, pB, p1, p2, p3]
        refine tK (.slice xa xs.length ca) ?_
        try simp only [pA, pB, p1, p2, p3]
        refine tK (.int .i64 ((xs.length : Nat) : Int)) ?_
        try simp only [pA, pB, p1, p2, p3]
        refine tW (.bool false) (exec_bin .lss 3 _ _ _ rfl (.int .i64 ((i : Nat) : Int)) (.int .i64 ((xs.length : Nat) : Int)) (.bool false) (by kernel_rfl) (by kernel_rfl) (by kernel_rfl) (by rw [b_lss, decide_eq_false hcm])) ?_
        try simp only [pA, pB, p1, p2, p3]
        refine WL.nil ?_
        try simp only [pA, pB, p1, p2, p3]
        go_upto_region 8 with fail
        refine WL.start ?_
        refine tK (.bool true) ?_
        try simp only [pA, pB, p1, p2, p3]
        refine WL.nil ?_
        try simp only [pA, pB, p1, p2, p3]
        go_wp2
        rw [HC.out]
        exact ⟨by rw [show (xs == ys) = true from by simpa using HX.out], HK.out⟩
  · have hln : (((xs.length : Nat) : Int) == ((ys.length : Nat) : Int)) = false := by simp; omega
    go_enter Try.func9, Try.ntmps9
    go_upto_region 0 with fail
    refine WL.start ?_
    refine tK (.bool false) ?_
    try simp only [pA, pB, p1, p2, p3]
    refine WL.nil ?_
    try simp only [pA, pB, p1, p2, p3]
    go_upto_region 1 with fail
    refine WL.start ?_
    refine tK (.slice xa xs.length ca) ?_
    try simp only [pA, pB, p1, p2, p3]
    refine tK (.int .i64 ((xs.length : Nat) : Int)) ?_
    try simp only [pA, pB, p1, p2, p3]
    refine tK (.slice xb ys.length cb) ?_
    try simp only [pA, pB, p1, p2, p3]
    refine tK (.int .i64 ((ys.length : Nat) : Int)) ?_
    try simp only [pA, pB, p1, p2, p3]
    refine tW (.bool true) (exec_bin .neq 3 _ _ _ rfl (.int .i64 ((xs.length : Nat) : Int)) (.int .i64 ((ys.length : Nat) : Int)) (.bool true) (by kernel_rfl) (by kernel_rfl) (by kernel_rfl) (by rw [b_neq3, hln]; rfl)) ?_
    try simp only [pA, pB, p1, p2, p3]
    refine WL.nil ?_
    try simp only [pA, pB, p1, p2, p3]
    go_upto_region 2 with fail
    refine WL.start ?_
    refine tK (.bool false) ?_
    try simp only [pA, pB, p1, p2, p3]
    refine WL.nil ?_
    try simp only [pA, pB, p1, p2, p3]
    go_wp2
    rw [HC.out]
    exact ⟨by rw [show (xs == ys) = false from by simpa using fun e => hl (by rw [e])] <;> rfl, Kept.refl _ _⟩

end Go.Proofs.Ytgnfeegnhdbnkaa
