import Derived.Test.YtgdnofacgfjaeabGreatZj
namespace Go.Proofs.YtgdnofacgfjaeabGreat
open Go.RowKit
set_option linter.unusedVariables false

section
variable {ops : Array Oper} {rest : List Oper} {o : Oper} {a : Act} {w : World} {Q : Exit → Act → World → Prop}
/-- A struct is read whole. -/
theorem wp_load71 (hg : o.guard = none) (x : Operand) (ho : o.op = .load 71 x) (g : Nat) (cs : Array Value) (hx : a.eval x = .pointer (some ⟨g, 0, none⟩)) (hl : cs.size = 30) {t' : TypeId} (hb : Box w g t' cs)
    (h : wpList Tryz.prog ops Q rest (a.put o.dst (.agg cs)) w) : wpList Tryz.prog ops Q (o :: rest) a w :=
  wpList_load_row hg 71 x ho g hx t' cs (0, 0) _ hb Tryz.underlying71 rfl (by rw [hl]; exact Tryz.size71) h
theorem Tryz.size37 : (Tryz.prog.info? 37).map (·.size) = some 3 := by kernel_rfl
/-- A struct is read whole. -/
theorem wp_load37 (hg : o.guard = none) (x : Operand) (ho : o.op = .load 37 x) (g : Nat) (cs : Array Value) (hx : a.eval x = .pointer (some ⟨g, 0, none⟩)) (hl : cs.size = 3) {t' : TypeId} (hb : Box w g t' cs)
    (h : wpList Tryz.prog ops Q rest (a.put o.dst (.agg cs)) w) : wpList Tryz.prog ops Q (o :: rest) a w :=
  wpList_load_row hg 37 x ho g hx t' cs (0, 0) _ hb Tryz.underlying37 rfl (by rw [hl]; exact Tryz.size37) h
theorem Tryz.size47 : (Tryz.prog.info? 47).map (·.size) = some 14 := by kernel_rfl
/-- A struct is read whole. -/
theorem wp_load47 (hg : o.guard = none) (x : Operand) (ho : o.op = .load 47 x) (g : Nat) (cs : Array Value) (hx : a.eval x = .pointer (some ⟨g, 0, none⟩)) (hl : cs.size = 14) {t' : TypeId} (hb : Box w g t' cs)
    (h : wpList Tryz.prog ops Q rest (a.put o.dst (.agg cs)) w) : wpList Tryz.prog ops Q (o :: rest) a w :=
  wpList_load_row hg 47 x ho g hx t' cs (0, 0) _ hb Tryz.underlying47 rfl (by rw [hl]; exact Tryz.size47) h
theorem Tryz.size54 : (Tryz.prog.info? 54).map (·.size) = some 3 := by kernel_rfl
/-- A struct is read whole. -/
theorem wp_load54 (hg : o.guard = none) (x : Operand) (ho : o.op = .load 54 x) (g : Nat) (cs : Array Value) (hx : a.eval x = .pointer (some ⟨g, 0, none⟩)) (hl : cs.size = 3) {t' : TypeId} (hb : Box w g t' cs)
    (h : wpList Tryz.prog ops Q rest (a.put o.dst (.agg cs)) w) : wpList Tryz.prog ops Q (o :: rest) a w :=
  wpList_load_row hg 54 x ho g hx t' cs (0, 0) _ hb Tryz.underlying54 rfl (by rw [hl]; exact Tryz.size54) h
theorem Tryz.size45 : (Tryz.prog.info? 45).map (·.size) = some 9 := by kernel_rfl
/-- A struct is read whole. -/
theorem wp_load45 (hg : o.guard = none) (x : Operand) (ho : o.op = .load 45 x) (g : Nat) (cs : Array Value) (hx : a.eval x = .pointer (some ⟨g, 0, none⟩)) (hl : cs.size = 9) {t' : TypeId} (hb : Box w g t' cs)
    (h : wpList Tryz.prog ops Q rest (a.put o.dst (.agg cs)) w) : wpList Tryz.prog ops Q (o :: rest) a w :=
  wpList_load_row hg 45 x ho g hx t' cs (0, 0) _ hb Tryz.underlying45 rfl (by rw [hl]; exact Tryz.size45) h
end
theorem Cfg.right {w : World} {sa : Option Addr} {sn sc : Nat} {zs : List Int} (f p bu bl ro : Int) (h : Cfg w sa sn sc zs) : Calls Tryz.prog 78 #[cfgV (.slice sa sn sc) f p bu bl ro] w fun e w' => e = .returned (.bool (cfgB zs f p bu bl ro)) ∧ Kept No w w' := by
  have := rightConfig_any sa sc zs f p bu bl ro w h.nums (by rw [h.len]; exact h.bd)
  rw [h.len] at this
  exact this
/-- A function as a value. -/
abbrev FV (n : Nat) : Value := .func (.func n) #[] #[]

set_option maxRecDepth 100000 in
set_option maxHeartbeats 2000000 in
theorem judgeMsg_no (cs : Array Value) (fv : Value) (r : Int) (sa : Option Addr) (sn sc : Nat) (zs : List Int) (f p bu bl ro : Int) (w : World) (h : Cfg w sa sn sc zs) (hno : cfgB zs f p bu bl ro = false) :
    Calls Tryz.prog 62 #[.agg cs, cfgV (.slice sa sn sc) f p bu bl ro, fv, .int .i64 r] w fun e w' => e = .returned (.int .i64 20) ∧ Kept No w w' := by
  have HC : Hid (Cfg w sa sn sc zs) := h
  have HN : Hid (cfgB zs f p bu bl ro = false) := hno
  clear h hno
  have TB : Hid (1 = 1) := rfl
  obtain ⟨w0, hw0⟩ : ∃ w0, w0 = w.alloc (.cells cs 71) := ⟨_, rfl⟩
  have HK0 : Hid (Kept No w w0) := by rw [hw0]; exact (Kept.refl No w).alloc _
  have HM0 : Hid (Box w0 w.heap.size 71 cs) := by rw [hw0]; exact Box.new _ _ _
  go_enter Tryz.func62, Tryz.ntmps62
  go_upto_region 1 with (have hguard := TB; clear hguard; refine wp_boxV rfl 71 _ rfl cs rfl w.heap.size rfl ?_; rw [← hw0]; clear hw0 TB)
  obtain ⟨w1, hw1⟩ : ∃ w1, w1 = w0.alloc (.cells #[.slice sa sn sc, .int .i64 f, .int .i64 p, .int .i64 bu, .int .i64 bl, .int .i64 ro] 24) := ⟨_, rfl⟩
  rw [← hw1]
  have hk1 : Kept No w0 w1 := by rw [hw1]; exact (Kept.refl No w0).alloc _
  have HC1 : Hid (Box w1 w0.heap.size 24 #[.slice sa sn sc, .int .i64 f, .int .i64 p, .int .i64 bu, .int .i64 bl, .int .i64 ro]) := by rw [hw1]; exact Box.new _ _ _
  have HK1 : Hid (Kept No w w1) := HK0.out.then hk1
  have HM1 : Hid (Box w1 w.heap.size 71 cs) := HM0.out.kept hk1 (fun e => e)
  clear hw1 hk1 HM0 HK0
  have q0 := HC1.out.cell 0
  have q1 := HC1.out.cell 1
  have q2 := HC1.out.cell 2
  have q3 := HC1.out.cell 3
  have q4 := HC1.out.cell 4
  have q5 := HC1.out.cell 5
  simp at q0 q1 q2 q3 q4 q5
  go_wp2_with fail
  refine ((HC.out.no HK1.out).right f p bu bl ro).mono ?_
  rintro e w2 ⟨rfl, hk2⟩
  have HK2 : Hid (Kept No w w2) := HK1.out.then hk2
  clear hk2 q0 q1 q2 q3 q4 q5
  rw [HN.out]
  clear HN HC HC1 HM1
  go_wp2
  go_ret
  exact ⟨rfl, HK2.out⟩

set_option maxRecDepth 100000 in
set_option maxHeartbeats 2000000 in
theorem judgeMsg_all (cs : Array Value) (hcs : cs.size = 30) (bb : Bool) (r : Int) (sa : Option Addr) (sn sc : Nat) (zs : List Int) (f p bu bl ro : Int) (w : World) (h : Cfg w sa sn sc zs) (hyes : cfgB zs f p bu bl ro = true)
    (hR : ∀ W, Kept No w W → Calls Tryz.prog 55 #[.agg cs, cfgV (.slice sa sn sc) f p bu bl ro] W fun e w' => e = .returned (.bool bb) ∧ Kept No W w') :
    Calls Tryz.prog 62 #[.agg cs, cfgV (.slice sa sn sc) f p bu bl ro, FV 55, .int .i64 r] w fun e w' => e = .returned (.int .i64 (if bb then 0 else r)) ∧ Kept No w w' := by
  have HC : Hid (Cfg w sa sn sc zs) := h
  have HN : Hid (cfgB zs f p bu bl ro = true) := hyes
  have HR : Hid (∀ W, Kept No w W → Calls Tryz.prog 55 #[.agg cs, cfgV (.slice sa sn sc) f p bu bl ro] W fun e w' => e = .returned (.bool bb) ∧ Kept No W w') := hR
  have HS : Hid (cs.size = 30) := hcs
  clear h hyes hR hcs
  have TB : Hid (1 = 1) := rfl
  obtain ⟨w0, hw0⟩ : ∃ w0, w0 = w.alloc (.cells cs 71) := ⟨_, rfl⟩
  have HK0 : Hid (Kept No w w0) := by rw [hw0]; exact (Kept.refl No w).alloc _
  have HM0 : Hid (Box w0 w.heap.size 71 cs) := by rw [hw0]; exact Box.new _ _ _
  go_enter Tryz.func62, Tryz.ntmps62
  go_upto_region 1 with (have hguard := TB; clear hguard; refine wp_boxV rfl 71 _ rfl cs rfl w.heap.size rfl ?_; rw [← hw0]; clear hw0 TB)
  obtain ⟨w1, hw1⟩ : ∃ w1, w1 = w0.alloc (.cells #[.slice sa sn sc, .int .i64 f, .int .i64 p, .int .i64 bu, .int .i64 bl, .int .i64 ro] 24) := ⟨_, rfl⟩
  rw [← hw1]
  have hk1 : Kept No w0 w1 := by rw [hw1]; exact (Kept.refl No w0).alloc _
  have HC1 : Hid (Box w1 w0.heap.size 24 #[.slice sa sn sc, .int .i64 f, .int .i64 p, .int .i64 bu, .int .i64 bl, .int .i64 ro]) := by rw [hw1]; exact Box.new _ _ _
  have HK1 : Hid (Kept No w w1) := HK0.out.then hk1
  have HM1 : Hid (Box w1 w.heap.size 71 cs) := HM0.out.kept hk1 (fun e => e)
  clear hw1 hk1 HM0 HK0
  have q0 := HC1.out.cell 0
  have q1 := HC1.out.cell 1
  have q2 := HC1.out.cell 2
  have q3 := HC1.out.cell 3
  have q4 := HC1.out.cell 4
  have q5 := HC1.out.cell 5
  simp at q0 q1 q2 q3 q4 q5
  go_wp2_with fail
  refine ((HC.out.no HK1.out).right f p bu bl ro).mono ?_
  rintro e w2 ⟨rfl, hk2⟩
  have HK2 : Hid (Kept No w w2) := HK1.out.then hk2
  have HM2 : Hid (Box w2 w.heap.size 71 cs) := HM1.out.kept hk2 (fun e => e)
  have HC2 : Hid (Box w2 w0.heap.size 24 #[.slice sa sn sc, .int .i64 f, .int .i64 p, .int .i64 bu, .int .i64 bl, .int .i64 ro]) := HC1.out.kept hk2 (fun e => e)
  clear hk2 q0 q1 q2 q3 q4 q5
  rw [HN.out]
  clear HN HC HC1 HM1
  have q0 := HC2.out.cell 0
  have q1 := HC2.out.cell 1
  have q2 := HC2.out.cell 2
  have q3 := HC2.out.cell 3
  have q4 := HC2.out.cell 4
  have q5 := HC2.out.cell 5
  simp at q0 q1 q2 q3 q4 q5
  have TL : Hid (1 = 1) := rfl
  cases bb with
  | true =>
    go_wp2_with (first
      | (have hguard := TL; clear hguard; refine wp_load71 rfl _ rfl w.heap.size cs rfl HS.out HM2.out ?_; clear TL)
      | (refine (HR.out _ HK2.out).mono ?_; rintro e w3 ⟨rfl, hk3⟩; have HK3 : Hid (Kept No w w3) := HK2.out.then hk3; clear hk3 q0 q1 q2 q3 q4 q5))
    go_ret
    exact ⟨rfl, HK3.out⟩
  | false =>
    go_wp2_with (first
      | (have hguard := TL; clear hguard; refine wp_load71 rfl _ rfl w.heap.size cs rfl HS.out HM2.out ?_; clear TL)
      | (refine (HR.out _ HK2.out).mono ?_; rintro e w3 ⟨rfl, hk3⟩; have HK3 : Hid (Kept No w w3) := HK2.out.then hk3; clear hk3 q0 q1 q2 q3 q4 q5))
    go_ret
    exact ⟨rfl, HK3.out⟩

set_option maxRecDepth 100000 in
set_option maxHeartbeats 2000000 in
theorem judgeBlock_no (cs : Array Value) (fv : Value) (r : Int) (sa : Option Addr) (sn sc : Nat) (zs : List Int) (f p bu bl ro : Int) (w : World) (h : Cfg w sa sn sc zs) (hno : cfgB zs f p bu bl ro = false) :
    Calls Tryz.prog 71 #[.agg cs, cfgV (.slice sa sn sc) f p bu bl ro, fv, .int .i64 r] w fun e w' => e = .returned (.int .i64 20) ∧ Kept No w w' := by
  have HC : Hid (Cfg w sa sn sc zs) := h
  have HN : Hid (cfgB zs f p bu bl ro = false) := hno
  clear h hno
  have TB : Hid (1 = 1) := rfl
  obtain ⟨w0, hw0⟩ : ∃ w0, w0 = w.alloc (.cells cs 37) := ⟨_, rfl⟩
  have HK0 : Hid (Kept No w w0) := by rw [hw0]; exact (Kept.refl No w).alloc _
  have HM0 : Hid (Box w0 w.heap.size 37 cs) := by rw [hw0]; exact Box.new _ _ _
  go_enter Tryz.func71, Tryz.ntmps71
  go_upto_region 1 with (have hguard := TB; clear hguard; refine wp_boxV rfl 37 _ rfl cs rfl w.heap.size rfl ?_; rw [← hw0]; clear hw0 TB)
  obtain ⟨w1, hw1⟩ : ∃ w1, w1 = w0.alloc (.cells #[.slice sa sn sc, .int .i64 f, .int .i64 p, .int .i64 bu, .int .i64 bl, .int .i64 ro] 24) := ⟨_, rfl⟩
  rw [← hw1]
  have hk1 : Kept No w0 w1 := by rw [hw1]; exact (Kept.refl No w0).alloc _
  have HC1 : Hid (Box w1 w0.heap.size 24 #[.slice sa sn sc, .int .i64 f, .int .i64 p, .int .i64 bu, .int .i64 bl, .int .i64 ro]) := by rw [hw1]; exact Box.new _ _ _
  have HK1 : Hid (Kept No w w1) := HK0.out.then hk1
  have HM1 : Hid (Box w1 w.heap.size 37 cs) := HM0.out.kept hk1 (fun e => e)
  clear hw1 hk1 HM0 HK0
  have q0 := HC1.out.cell 0
  have q1 := HC1.out.cell 1
  have q2 := HC1.out.cell 2
  have q3 := HC1.out.cell 3
  have q4 := HC1.out.cell 4
  have q5 := HC1.out.cell 5
  simp at q0 q1 q2 q3 q4 q5
  go_wp2_with fail
  refine ((HC.out.no HK1.out).right f p bu bl ro).mono ?_
  rintro e w2 ⟨rfl, hk2⟩
  have HK2 : Hid (Kept No w w2) := HK1.out.then hk2
  clear hk2 q0 q1 q2 q3 q4 q5
  rw [HN.out]
  clear HN HC HC1 HM1
  go_wp2
  go_ret
  exact ⟨rfl, HK2.out⟩

set_option maxRecDepth 100000 in
set_option maxHeartbeats 2000000 in
theorem judgeBlock_all (cs : Array Value) (hcs : cs.size = 3) (bb : Bool) (r : Int) (sa : Option Addr) (sn sc : Nat) (zs : List Int) (f p bu bl ro : Int) (w : World) (h : Cfg w sa sn sc zs) (hyes : cfgB zs f p bu bl ro = true)
    (hR : ∀ W, Kept No w W → Calls Tryz.prog 37 #[.agg cs, cfgV (.slice sa sn sc) f p bu bl ro] W fun e w' => e = .returned (.bool bb) ∧ Kept No W w') :
    Calls Tryz.prog 71 #[.agg cs, cfgV (.slice sa sn sc) f p bu bl ro, FV 37, .int .i64 r] w fun e w' => e = .returned (.int .i64 (if bb then 0 else r)) ∧ Kept No w w' := by
  have HC : Hid (Cfg w sa sn sc zs) := h
  have HN : Hid (cfgB zs f p bu bl ro = true) := hyes
  have HR : Hid (∀ W, Kept No w W → Calls Tryz.prog 37 #[.agg cs, cfgV (.slice sa sn sc) f p bu bl ro] W fun e w' => e = .returned (.bool bb) ∧ Kept No W w') := hR
  have HS : Hid (cs.size = 3) := hcs
  clear h hyes hR hcs
  have TB : Hid (1 = 1) := rfl
  obtain ⟨w0, hw0⟩ : ∃ w0, w0 = w.alloc (.cells cs 37) := ⟨_, rfl⟩
  have HK0 : Hid (Kept No w w0) := by rw [hw0]; exact (Kept.refl No w).alloc _
  have HM0 : Hid (Box w0 w.heap.size 37 cs) := by rw [hw0]; exact Box.new _ _ _
  go_enter Tryz.func71, Tryz.ntmps71
  go_upto_region 1 with (have hguard := TB; clear hguard; refine wp_boxV rfl 37 _ rfl cs rfl w.heap.size rfl ?_; rw [← hw0]; clear hw0 TB)
  obtain ⟨w1, hw1⟩ : ∃ w1, w1 = w0.alloc (.cells #[.slice sa sn sc, .int .i64 f, .int .i64 p, .int .i64 bu, .int .i64 bl, .int .i64 ro] 24) := ⟨_, rfl⟩
  rw [← hw1]
  have hk1 : Kept No w0 w1 := by rw [hw1]; exact (Kept.refl No w0).alloc _
  have HC1 : Hid (Box w1 w0.heap.size 24 #[.slice sa sn sc, .int .i64 f, .int .i64 p, .int .i64 bu, .int .i64 bl, .int .i64 ro]) := by rw [hw1]; exact Box.new _ _ _
  have HK1 : Hid (Kept No w w1) := HK0.out.then hk1
  have HM1 : Hid (Box w1 w.heap.size 37 cs) := HM0.out.kept hk1 (fun e => e)
  clear hw1 hk1 HM0 HK0
  have q0 := HC1.out.cell 0
  have q1 := HC1.out.cell 1
  have q2 := HC1.out.cell 2
  have q3 := HC1.out.cell 3
  have q4 := HC1.out.cell 4
  have q5 := HC1.out.cell 5
  simp at q0 q1 q2 q3 q4 q5
  go_wp2_with fail
  refine ((HC.out.no HK1.out).right f p bu bl ro).mono ?_
  rintro e w2 ⟨rfl, hk2⟩
  have HK2 : Hid (Kept No w w2) := HK1.out.then hk2
  have HM2 : Hid (Box w2 w.heap.size 37 cs) := HM1.out.kept hk2 (fun e => e)
  have HC2 : Hid (Box w2 w0.heap.size 24 #[.slice sa sn sc, .int .i64 f, .int .i64 p, .int .i64 bu, .int .i64 bl, .int .i64 ro]) := HC1.out.kept hk2 (fun e => e)
  clear hk2 q0 q1 q2 q3 q4 q5
  rw [HN.out]
  clear HN HC HC1 HM1
  have q0 := HC2.out.cell 0
  have q1 := HC2.out.cell 1
  have q2 := HC2.out.cell 2
  have q3 := HC2.out.cell 3
  have q4 := HC2.out.cell 4
  have q5 := HC2.out.cell 5
  simp at q0 q1 q2 q3 q4 q5
  have TL : Hid (1 = 1) := rfl
  cases bb with
  | true =>
    go_wp2_with (first
      | (have hguard := TL; clear hguard; refine wp_load37 rfl _ rfl w.heap.size cs rfl HS.out HM2.out ?_; clear TL)
      | (refine (HR.out _ HK2.out).mono ?_; rintro e w3 ⟨rfl, hk3⟩; have HK3 : Hid (Kept No w w3) := HK2.out.then hk3; clear hk3 q0 q1 q2 q3 q4 q5))
    go_ret
    exact ⟨rfl, HK3.out⟩
  | false =>
    go_wp2_with (first
      | (have hguard := TL; clear hguard; refine wp_load37 rfl _ rfl w.heap.size cs rfl HS.out HM2.out ?_; clear TL)
      | (refine (HR.out _ HK2.out).mono ?_; rintro e w3 ⟨rfl, hk3⟩; have HK3 : Hid (Kept No w w3) := HK2.out.then hk3; clear hk3 q0 q1 q2 q3 q4 q5))
    go_ret
    exact ⟨rfl, HK3.out⟩

set_option maxRecDepth 100000 in
set_option maxHeartbeats 2000000 in
theorem judgeInst_no (cs : Array Value) (fv : Value) (r : Int) (sa : Option Addr) (sn sc : Nat) (zs : List Int) (f p bu bl ro : Int) (w : World) (h : Cfg w sa sn sc zs) (hno : cfgB zs f p bu bl ro = false) :
    Calls Tryz.prog 84 #[.agg cs, cfgV (.slice sa sn sc) f p bu bl ro, fv, .int .i64 r] w fun e w' => e = .returned (.int .i64 20) ∧ Kept No w w' := by
  have HC : Hid (Cfg w sa sn sc zs) := h
  have HN : Hid (cfgB zs f p bu bl ro = false) := hno
  clear h hno
  have TB : Hid (1 = 1) := rfl
  obtain ⟨w0, hw0⟩ : ∃ w0, w0 = w.alloc (.cells cs 47) := ⟨_, rfl⟩
  have HK0 : Hid (Kept No w w0) := by rw [hw0]; exact (Kept.refl No w).alloc _
  have HM0 : Hid (Box w0 w.heap.size 47 cs) := by rw [hw0]; exact Box.new _ _ _
  go_enter Tryz.func84, Tryz.ntmps84
  go_upto_region 1 with (have hguard := TB; clear hguard; refine wp_boxV rfl 47 _ rfl cs rfl w.heap.size rfl ?_; rw [← hw0]; clear hw0 TB)
  obtain ⟨w1, hw1⟩ : ∃ w1, w1 = w0.alloc (.cells #[.slice sa sn sc, .int .i64 f, .int .i64 p, .int .i64 bu, .int .i64 bl, .int .i64 ro] 24) := ⟨_, rfl⟩
  rw [← hw1]
  have hk1 : Kept No w0 w1 := by rw [hw1]; exact (Kept.refl No w0).alloc _
  have HC1 : Hid (Box w1 w0.heap.size 24 #[.slice sa sn sc, .int .i64 f, .int .i64 p, .int .i64 bu, .int .i64 bl, .int .i64 ro]) := by rw [hw1]; exact Box.new _ _ _
  have HK1 : Hid (Kept No w w1) := HK0.out.then hk1
  have HM1 : Hid (Box w1 w.heap.size 47 cs) := HM0.out.kept hk1 (fun e => e)
  clear hw1 hk1 HM0 HK0
  have q0 := HC1.out.cell 0
  have q1 := HC1.out.cell 1
  have q2 := HC1.out.cell 2
  have q3 := HC1.out.cell 3
  have q4 := HC1.out.cell 4
  have q5 := HC1.out.cell 5
  simp at q0 q1 q2 q3 q4 q5
  go_wp2_with fail
  refine ((HC.out.no HK1.out).right f p bu bl ro).mono ?_
  rintro e w2 ⟨rfl, hk2⟩
  have HK2 : Hid (Kept No w w2) := HK1.out.then hk2
  clear hk2 q0 q1 q2 q3 q4 q5
  rw [HN.out]
  clear HN HC HC1 HM1
  go_wp2
  go_ret
  exact ⟨rfl, HK2.out⟩

set_option maxRecDepth 100000 in
set_option maxHeartbeats 2000000 in
theorem judgeInst_all (cs : Array Value) (hcs : cs.size = 14) (bb : Bool) (r : Int) (sa : Option Addr) (sn sc : Nat) (zs : List Int) (f p bu bl ro : Int) (w : World) (h : Cfg w sa sn sc zs) (hyes : cfgB zs f p bu bl ro = true)
    (hR : ∀ W, Kept No w W → Calls Tryz.prog 42 #[.agg cs, cfgV (.slice sa sn sc) f p bu bl ro] W fun e w' => e = .returned (.bool bb) ∧ Kept No W w') :
    Calls Tryz.prog 84 #[.agg cs, cfgV (.slice sa sn sc) f p bu bl ro, FV 42, .int .i64 r] w fun e w' => e = .returned (.int .i64 (if bb then 0 else r)) ∧ Kept No w w' := by
  have HC : Hid (Cfg w sa sn sc zs) := h
  have HN : Hid (cfgB zs f p bu bl ro = true) := hyes
  have HR : Hid (∀ W, Kept No w W → Calls Tryz.prog 42 #[.agg cs, cfgV (.slice sa sn sc) f p bu bl ro] W fun e w' => e = .returned (.bool bb) ∧ Kept No W w') := hR
  have HS : Hid (cs.size = 14) := hcs
  clear h hyes hR hcs
  have TB : Hid (1 = 1) := rfl
  obtain ⟨w0, hw0⟩ : ∃ w0, w0 = w.alloc (.cells cs 47) := ⟨_, rfl⟩
  have HK0 : Hid (Kept No w w0) := by rw [hw0]; exact (Kept.refl No w).alloc _
  have HM0 : Hid (Box w0 w.heap.size 47 cs) := by rw [hw0]; exact Box.new _ _ _
  go_enter Tryz.func84, Tryz.ntmps84
  go_upto_region 1 with (have hguard := TB; clear hguard; refine wp_boxV rfl 47 _ rfl cs rfl w.heap.size rfl ?_; rw [← hw0]; clear hw0 TB)
  obtain ⟨w1, hw1⟩ : ∃ w1, w1 = w0.alloc (.cells #[.slice sa sn sc, .int .i64 f, .int .i64 p, .int .i64 bu, .int .i64 bl, .int .i64 ro] 24) := ⟨_, rfl⟩
  rw [← hw1]
  have hk1 : Kept No w0 w1 := by rw [hw1]; exact (Kept.refl No w0).alloc _
  have HC1 : Hid (Box w1 w0.heap.size 24 #[.slice sa sn sc, .int .i64 f, .int .i64 p, .int .i64 bu, .int .i64 bl, .int .i64 ro]) := by rw [hw1]; exact Box.new _ _ _
  have HK1 : Hid (Kept No w w1) := HK0.out.then hk1
  have HM1 : Hid (Box w1 w.heap.size 47 cs) := HM0.out.kept hk1 (fun e => e)
  clear hw1 hk1 HM0 HK0
  have q0 := HC1.out.cell 0
  have q1 := HC1.out.cell 1
  have q2 := HC1.out.cell 2
  have q3 := HC1.out.cell 3
  have q4 := HC1.out.cell 4
  have q5 := HC1.out.cell 5
  simp at q0 q1 q2 q3 q4 q5
  go_wp2_with fail
  refine ((HC.out.no HK1.out).right f p bu bl ro).mono ?_
  rintro e w2 ⟨rfl, hk2⟩
  have HK2 : Hid (Kept No w w2) := HK1.out.then hk2
  have HM2 : Hid (Box w2 w.heap.size 47 cs) := HM1.out.kept hk2 (fun e => e)
  have HC2 : Hid (Box w2 w0.heap.size 24 #[.slice sa sn sc, .int .i64 f, .int .i64 p, .int .i64 bu, .int .i64 bl, .int .i64 ro]) := HC1.out.kept hk2 (fun e => e)
  clear hk2 q0 q1 q2 q3 q4 q5
  rw [HN.out]
  clear HN HC HC1 HM1
  have q0 := HC2.out.cell 0
  have q1 := HC2.out.cell 1
  have q2 := HC2.out.cell 2
  have q3 := HC2.out.cell 3
  have q4 := HC2.out.cell 4
  have q5 := HC2.out.cell 5
  simp at q0 q1 q2 q3 q4 q5
  have TL : Hid (1 = 1) := rfl
  cases bb with
  | true =>
    go_wp2_with (first
      | (have hguard := TL; clear hguard; refine wp_load47 rfl _ rfl w.heap.size cs rfl HS.out HM2.out ?_; clear TL)
      | (refine (HR.out _ HK2.out).mono ?_; rintro e w3 ⟨rfl, hk3⟩; have HK3 : Hid (Kept No w w3) := HK2.out.then hk3; clear hk3 q0 q1 q2 q3 q4 q5))
    go_ret
    exact ⟨rfl, HK3.out⟩
  | false =>
    go_wp2_with (first
      | (have hguard := TL; clear hguard; refine wp_load47 rfl _ rfl w.heap.size cs rfl HS.out HM2.out ?_; clear TL)
      | (refine (HR.out _ HK2.out).mono ?_; rintro e w3 ⟨rfl, hk3⟩; have HK3 : Hid (Kept No w w3) := HK2.out.then hk3; clear hk3 q0 q1 q2 q3 q4 q5))
    go_ret
    exact ⟨rfl, HK3.out⟩

set_option maxRecDepth 100000 in
set_option maxHeartbeats 2000000 in
theorem judgeBucket_no (cs : Array Value) (fv : Value) (r : Int) (sa : Option Addr) (sn sc : Nat) (zs : List Int) (f p bu bl ro : Int) (w : World) (h : Cfg w sa sn sc zs) (hno : cfgB zs f p bu bl ro = false) :
    Calls Tryz.prog 49 #[.agg cs, cfgV (.slice sa sn sc) f p bu bl ro, fv, .int .i64 r] w fun e w' => e = .returned (.int .i64 20) ∧ Kept No w w' := by
  have HC : Hid (Cfg w sa sn sc zs) := h
  have HN : Hid (cfgB zs f p bu bl ro = false) := hno
  clear h hno
  have TB : Hid (1 = 1) := rfl
  obtain ⟨w0, hw0⟩ : ∃ w0, w0 = w.alloc (.cells cs 54) := ⟨_, rfl⟩
  have HK0 : Hid (Kept No w w0) := by rw [hw0]; exact (Kept.refl No w).alloc _
  have HM0 : Hid (Box w0 w.heap.size 54 cs) := by rw [hw0]; exact Box.new _ _ _
  go_enter Tryz.func49, Tryz.ntmps49
  go_upto_region 1 with (have hguard := TB; clear hguard; refine wp_boxV rfl 54 _ rfl cs rfl w.heap.size rfl ?_; rw [← hw0]; clear hw0 TB)
  obtain ⟨w1, hw1⟩ : ∃ w1, w1 = w0.alloc (.cells #[.slice sa sn sc, .int .i64 f, .int .i64 p, .int .i64 bu, .int .i64 bl, .int .i64 ro] 24) := ⟨_, rfl⟩
  rw [← hw1]
  have hk1 : Kept No w0 w1 := by rw [hw1]; exact (Kept.refl No w0).alloc _
  have HC1 : Hid (Box w1 w0.heap.size 24 #[.slice sa sn sc, .int .i64 f, .int .i64 p, .int .i64 bu, .int .i64 bl, .int .i64 ro]) := by rw [hw1]; exact Box.new _ _ _
  have HK1 : Hid (Kept No w w1) := HK0.out.then hk1
  have HM1 : Hid (Box w1 w.heap.size 54 cs) := HM0.out.kept hk1 (fun e => e)
  clear hw1 hk1 HM0 HK0
  have q0 := HC1.out.cell 0
  have q1 := HC1.out.cell 1
  have q2 := HC1.out.cell 2
  have q3 := HC1.out.cell 3
  have q4 := HC1.out.cell 4
  have q5 := HC1.out.cell 5
  simp at q0 q1 q2 q3 q4 q5
  go_wp2_with fail
  refine ((HC.out.no HK1.out).right f p bu bl ro).mono ?_
  rintro e w2 ⟨rfl, hk2⟩
  have HK2 : Hid (Kept No w w2) := HK1.out.then hk2
  clear hk2 q0 q1 q2 q3 q4 q5
  rw [HN.out]
  clear HN HC HC1 HM1
  go_wp2
  go_ret
  exact ⟨rfl, HK2.out⟩

set_option maxRecDepth 100000 in
set_option maxHeartbeats 2000000 in
theorem judgeBucket_all (cs : Array Value) (hcs : cs.size = 3) (bb : Bool) (r : Int) (sa : Option Addr) (sn sc : Nat) (zs : List Int) (f p bu bl ro : Int) (w : World) (h : Cfg w sa sn sc zs) (hyes : cfgB zs f p bu bl ro = true)
    (hR : ∀ W, Kept No w W → Calls Tryz.prog 47 #[.agg cs, cfgV (.slice sa sn sc) f p bu bl ro] W fun e w' => e = .returned (.bool bb) ∧ Kept No W w') :
    Calls Tryz.prog 49 #[.agg cs, cfgV (.slice sa sn sc) f p bu bl ro, FV 47, .int .i64 r] w fun e w' => e = .returned (.int .i64 (if bb then 0 else r)) ∧ Kept No w w' := by
  have HC : Hid (Cfg w sa sn sc zs) := h
  have HN : Hid (cfgB zs f p bu bl ro = true) := hyes
  have HR : Hid (∀ W, Kept No w W → Calls Tryz.prog 47 #[.agg cs, cfgV (.slice sa sn sc) f p bu bl ro] W fun e w' => e = .returned (.bool bb) ∧ Kept No W w') := hR
  have HS : Hid (cs.size = 3) := hcs
  clear h hyes hR hcs
  have TB : Hid (1 = 1) := rfl
  obtain ⟨w0, hw0⟩ : ∃ w0, w0 = w.alloc (.cells cs 54) := ⟨_, rfl⟩
  have HK0 : Hid (Kept No w w0) := by rw [hw0]; exact (Kept.refl No w).alloc _
  have HM0 : Hid (Box w0 w.heap.size 54 cs) := by rw [hw0]; exact Box.new _ _ _
  go_enter Tryz.func49, Tryz.ntmps49
  go_upto_region 1 with (have hguard := TB; clear hguard; refine wp_boxV rfl 54 _ rfl cs rfl w.heap.size rfl ?_; rw [← hw0]; clear hw0 TB)
  obtain ⟨w1, hw1⟩ : ∃ w1, w1 = w0.alloc (.cells #[.slice sa sn sc, .int .i64 f, .int .i64 p, .int .i64 bu, .int .i64 bl, .int .i64 ro] 24) := ⟨_, rfl⟩
  rw [← hw1]
  have hk1 : Kept No w0 w1 := by rw [hw1]; exact (Kept.refl No w0).alloc _
  have HC1 : Hid (Box w1 w0.heap.size 24 #[.slice sa sn sc, .int .i64 f, .int .i64 p, .int .i64 bu, .int .i64 bl, .int .i64 ro]) := by rw [hw1]; exact Box.new _ _ _
  have HK1 : Hid (Kept No w w1) := HK0.out.then hk1
  have HM1 : Hid (Box w1 w.heap.size 54 cs) := HM0.out.kept hk1 (fun e => e)
  clear hw1 hk1 HM0 HK0
  have q0 := HC1.out.cell 0
  have q1 := HC1.out.cell 1
  have q2 := HC1.out.cell 2
  have q3 := HC1.out.cell 3
  have q4 := HC1.out.cell 4
  have q5 := HC1.out.cell 5
  simp at q0 q1 q2 q3 q4 q5
  go_wp2_with fail
  refine ((HC.out.no HK1.out).right f p bu bl ro).mono ?_
  rintro e w2 ⟨rfl, hk2⟩
  have HK2 : Hid (Kept No w w2) := HK1.out.then hk2
  have HM2 : Hid (Box w2 w.heap.size 54 cs) := HM1.out.kept hk2 (fun e => e)
  have HC2 : Hid (Box w2 w0.heap.size 24 #[.slice sa sn sc, .int .i64 f, .int .i64 p, .int .i64 bu, .int .i64 bl, .int .i64 ro]) := HC1.out.kept hk2 (fun e => e)
  clear hk2 q0 q1 q2 q3 q4 q5
  rw [HN.out]
  clear HN HC HC1 HM1
  have q0 := HC2.out.cell 0
  have q1 := HC2.out.cell 1
  have q2 := HC2.out.cell 2
  have q3 := HC2.out.cell 3
  have q4 := HC2.out.cell 4
  have q5 := HC2.out.cell 5
  simp at q0 q1 q2 q3 q4 q5
  have TL : Hid (1 = 1) := rfl
  cases bb with
  | true =>
    go_wp2_with (first
      | (have hguard := TL; clear hguard; refine wp_load54 rfl _ rfl w.heap.size cs rfl HS.out HM2.out ?_; clear TL)
      | (refine (HR.out _ HK2.out).mono ?_; rintro e w3 ⟨rfl, hk3⟩; have HK3 : Hid (Kept No w w3) := HK2.out.then hk3; clear hk3 q0 q1 q2 q3 q4 q5))
    go_ret
    exact ⟨rfl, HK3.out⟩
  | false =>
    go_wp2_with (first
      | (have hguard := TL; clear hguard; refine wp_load54 rfl _ rfl w.heap.size cs rfl HS.out HM2.out ?_; clear TL)
      | (refine (HR.out _ HK2.out).mono ?_; rintro e w3 ⟨rfl, hk3⟩; have HK3 : Hid (Kept No w w3) := HK2.out.then hk3; clear hk3 q0 q1 q2 q3 q4 q5))
    go_ret
    exact ⟨rfl, HK3.out⟩

set_option maxRecDepth 100000 in
set_option maxHeartbeats 2000000 in
theorem judgeCommand_no (cs : Array Value) (fv : Value) (r : Int) (sa : Option Addr) (sn sc : Nat) (zs : List Int) (f p bu bl ro : Int) (w : World) (h : Cfg w sa sn sc zs) (hno : cfgB zs f p bu bl ro = false) :
    Calls Tryz.prog 63 #[.agg cs, cfgV (.slice sa sn sc) f p bu bl ro, fv, .int .i64 r] w fun e w' => e = .returned (.int .i64 20) ∧ Kept No w w' := by
  have HC : Hid (Cfg w sa sn sc zs) := h
  have HN : Hid (cfgB zs f p bu bl ro = false) := hno
  clear h hno
  have TB : Hid (1 = 1) := rfl
  obtain ⟨w0, hw0⟩ : ∃ w0, w0 = w.alloc (.cells cs 45) := ⟨_, rfl⟩
  have HK0 : Hid (Kept No w w0) := by rw [hw0]; exact (Kept.refl No w).alloc _
  have HM0 : Hid (Box w0 w.heap.size 45 cs) := by rw [hw0]; exact Box.new _ _ _
  go_enter Tryz.func63, Tryz.ntmps63
  go_upto_region 1 with (have hguard := TB; clear hguard; refine wp_boxV rfl 45 _ rfl cs rfl w.heap.size rfl ?_; rw [← hw0]; clear hw0 TB)
  obtain ⟨w1, hw1⟩ : ∃ w1, w1 = w0.alloc (.cells #[.slice sa sn sc, .int .i64 f, .int .i64 p, .int .i64 bu, .int .i64 bl, .int .i64 ro] 24) := ⟨_, rfl⟩
  rw [← hw1]
  have hk1 : Kept No w0 w1 := by rw [hw1]; exact (Kept.refl No w0).alloc _
  have HC1 : Hid (Box w1 w0.heap.size 24 #[.slice sa sn sc, .int .i64 f, .int .i64 p, .int .i64 bu, .int .i64 bl, .int .i64 ro]) := by rw [hw1]; exact Box.new _ _ _
  have HK1 : Hid (Kept No w w1) := HK0.out.then hk1
  have HM1 : Hid (Box w1 w.heap.size 45 cs) := HM0.out.kept hk1 (fun e => e)
  clear hw1 hk1 HM0 HK0
  have q0 := HC1.out.cell 0
  have q1 := HC1.out.cell 1
  have q2 := HC1.out.cell 2
  have q3 := HC1.out.cell 3
  have q4 := HC1.out.cell 4
  have q5 := HC1.out.cell 5
  simp at q0 q1 q2 q3 q4 q5
  go_wp2_with fail
  refine ((HC.out.no HK1.out).right f p bu bl ro).mono ?_
  rintro e w2 ⟨rfl, hk2⟩
  have HK2 : Hid (Kept No w w2) := HK1.out.then hk2
  clear hk2 q0 q1 q2 q3 q4 q5
  rw [HN.out]
  clear HN HC HC1 HM1
  go_wp2
  go_ret
  exact ⟨rfl, HK2.out⟩

set_option maxRecDepth 100000 in
set_option maxHeartbeats 2000000 in
theorem judgeCommand_all (cs : Array Value) (hcs : cs.size = 9) (bb : Bool) (r : Int) (sa : Option Addr) (sn sc : Nat) (zs : List Int) (f p bu bl ro : Int) (w : World) (h : Cfg w sa sn sc zs) (hyes : cfgB zs f p bu bl ro = true)
    (hR : ∀ W, Kept No w W → Calls Tryz.prog 64 #[.agg cs, cfgV (.slice sa sn sc) f p bu bl ro] W fun e w' => e = .returned (.bool bb) ∧ Kept No W w') :
    Calls Tryz.prog 63 #[.agg cs, cfgV (.slice sa sn sc) f p bu bl ro, FV 64, .int .i64 r] w fun e w' => e = .returned (.int .i64 (if bb then 0 else r)) ∧ Kept No w w' := by
  have HC : Hid (Cfg w sa sn sc zs) := h
  have HN : Hid (cfgB zs f p bu bl ro = true) := hyes
  have HR : Hid (∀ W, Kept No w W → Calls Tryz.prog 64 #[.agg cs, cfgV (.slice sa sn sc) f p bu bl ro] W fun e w' => e = .returned (.bool bb) ∧ Kept No W w') := hR
  have HS : Hid (cs.size = 9) := hcs
  clear h hyes hR hcs
  have TB : Hid (1 = 1) := rfl
  obtain ⟨w0, hw0⟩ : ∃ w0, w0 = w.alloc (.cells cs 45) := ⟨_, rfl⟩
  have HK0 : Hid (Kept No w w0) := by rw [hw0]; exact (Kept.refl No w).alloc _
  have HM0 : Hid (Box w0 w.heap.size 45 cs) := by rw [hw0]; exact Box.new _ _ _
  go_enter Tryz.func63, Tryz.ntmps63
  go_upto_region 1 with (have hguard := TB; clear hguard; refine wp_boxV rfl 45 _ rfl cs rfl w.heap.size rfl ?_; rw [← hw0]; clear hw0 TB)
  obtain ⟨w1, hw1⟩ : ∃ w1, w1 = w0.alloc (.cells #[.slice sa sn sc, .int .i64 f, .int .i64 p, .int .i64 bu, .int .i64 bl, .int .i64 ro] 24) := ⟨_, rfl⟩
  rw [← hw1]
  have hk1 : Kept No w0 w1 := by rw [hw1]; exact (Kept.refl No w0).alloc _
  have HC1 : Hid (Box w1 w0.heap.size 24 #[.slice sa sn sc, .int .i64 f, .int .i64 p, .int .i64 bu, .int .i64 bl, .int .i64 ro]) := by rw [hw1]; exact Box.new _ _ _
  have HK1 : Hid (Kept No w w1) := HK0.out.then hk1
  have HM1 : Hid (Box w1 w.heap.size 45 cs) := HM0.out.kept hk1 (fun e => e)
  clear hw1 hk1 HM0 HK0
  have q0 := HC1.out.cell 0
  have q1 := HC1.out.cell 1
  have q2 := HC1.out.cell 2
  have q3 := HC1.out.cell 3
  have q4 := HC1.out.cell 4
  have q5 := HC1.out.cell 5
  simp at q0 q1 q2 q3 q4 q5
  go_wp2_with fail
  refine ((HC.out.no HK1.out).right f p bu bl ro).mono ?_
  rintro e w2 ⟨rfl, hk2⟩
  have HK2 : Hid (Kept No w w2) := HK1.out.then hk2
  have HM2 : Hid (Box w2 w.heap.size 45 cs) := HM1.out.kept hk2 (fun e => e)
  have HC2 : Hid (Box w2 w0.heap.size 24 #[.slice sa sn sc, .int .i64 f, .int .i64 p, .int .i64 bu, .int .i64 bl, .int .i64 ro]) := HC1.out.kept hk2 (fun e => e)
  clear hk2 q0 q1 q2 q3 q4 q5
  rw [HN.out]
  clear HN HC HC1 HM1
  have q0 := HC2.out.cell 0
  have q1 := HC2.out.cell 1
  have q2 := HC2.out.cell 2
  have q3 := HC2.out.cell 3
  have q4 := HC2.out.cell 4
  have q5 := HC2.out.cell 5
  simp at q0 q1 q2 q3 q4 q5
  have TL : Hid (1 = 1) := rfl
  cases bb with
  | true =>
    go_wp2_with (first
      | (have hguard := TL; clear hguard; refine wp_load45 rfl _ rfl w.heap.size cs rfl HS.out HM2.out ?_; clear TL)
      | (refine (HR.out _ HK2.out).mono ?_; rintro e w3 ⟨rfl, hk3⟩; have HK3 : Hid (Kept No w w3) := HK2.out.then hk3; clear hk3 q0 q1 q2 q3 q4 q5))
    go_ret
    exact ⟨rfl, HK3.out⟩
  | false =>
    go_wp2_with (first
      | (have hguard := TL; clear hguard; refine wp_load45 rfl _ rfl w.heap.size cs rfl HS.out HM2.out ?_; clear TL)
      | (refine (HR.out _ HK2.out).mono ?_; rintro e w3 ⟨rfl, hk3⟩; have HK3 : Hid (Kept No w w3) := HK2.out.then hk3; clear hk3 q0 q1 q2 q3 q4 q5))
    go_ret
    exact ⟨rfl, HK3.out⟩

end Go.Proofs.YtgdnofacgfjaeabGreat
