import Derived.Test.YtgdnofacgfjaeaaGreatWiZj
import Derived.Test.YtgdnofacgfjaeaaGreatPa
import Derived.Test.YtgdnofacgfjaeaaGreatHd
import Derived.Test.YtgdnofacgfjaeaaGreatWiG
namespace Go.Proofs.YtgdnofacgfjaeaaGreat.Wi
open Go.RowKit
set_option linter.unusedVariables false
section
variable {ops : Array Oper} {rest : List Oper} {o : Oper} {a : Act} {w : World} {Q : Exit → Act → World → Prop}
theorem wp_load71 (hg : o.guard = none) (x : Operand) (ho : o.op = .load 45 x) (g : Nat) (cs : Array Value) (hx : a.eval x = .pointer (some ⟨g, 0, none⟩)) (hl : cs.size = 30) {t' : TypeId} (hb : Box w g t' cs)
    (h : wpList Tryz.prog ops Q rest (a.put o.dst (.agg cs)) w) : wpList Tryz.prog ops Q (o :: rest) a w :=
  wpList_load_row hg 45 x ho g hx t' cs (0, 0) _ hb Tryz.underlying45 rfl (by rw [hl]; exact Tryz.size45) h
theorem Tryz.size73 : (Tryz.prog.info? 73).map (·.size) = some 3 := by kernel_rfl
theorem wp_load37 (hg : o.guard = none) (x : Operand) (ho : o.op = .load 73 x) (g : Nat) (cs : Array Value) (hx : a.eval x = .pointer (some ⟨g, 0, none⟩)) (hl : cs.size = 3) {t' : TypeId} (hb : Box w g t' cs)
    (h : wpList Tryz.prog ops Q rest (a.put o.dst (.agg cs)) w) : wpList Tryz.prog ops Q (o :: rest) a w :=
  wpList_load_row hg 73 x ho g hx t' cs (0, 0) _ hb Tryz.underlying73 rfl (by rw [hl]; exact Tryz.size73) h
theorem Tryz.size78 : (Tryz.prog.info? 78).map (·.size) = some 14 := by kernel_rfl
theorem wp_load47 (hg : o.guard = none) (x : Operand) (ho : o.op = .load 78 x) (g : Nat) (cs : Array Value) (hx : a.eval x = .pointer (some ⟨g, 0, none⟩)) (hl : cs.size = 14) {t' : TypeId} (hb : Box w g t' cs)
    (h : wpList Tryz.prog ops Q rest (a.put o.dst (.agg cs)) w) : wpList Tryz.prog ops Q (o :: rest) a w :=
  wpList_load_row hg 78 x ho g hx t' cs (0, 0) _ hb Tryz.underlying78 rfl (by rw [hl]; exact Tryz.size78) h
theorem Tryz.size43 : (Tryz.prog.info? 43).map (·.size) = some 3 := by kernel_rfl
theorem wp_load54 (hg : o.guard = none) (x : Operand) (ho : o.op = .load 43 x) (g : Nat) (cs : Array Value) (hx : a.eval x = .pointer (some ⟨g, 0, none⟩)) (hl : cs.size = 3) {t' : TypeId} (hb : Box w g t' cs)
    (h : wpList Tryz.prog ops Q rest (a.put o.dst (.agg cs)) w) : wpList Tryz.prog ops Q (o :: rest) a w :=
  wpList_load_row hg 43 x ho g hx t' cs (0, 0) _ hb Tryz.underlying43 rfl (by rw [hl]; exact Tryz.size43) h
theorem Tryz.size39 : (Tryz.prog.info? 39).map (·.size) = some 9 := by kernel_rfl
theorem wp_load45 (hg : o.guard = none) (x : Operand) (ho : o.op = .load 39 x) (g : Nat) (cs : Array Value) (hx : a.eval x = .pointer (some ⟨g, 0, none⟩)) (hl : cs.size = 9) {t' : TypeId} (hb : Box w g t' cs)
    (h : wpList Tryz.prog ops Q rest (a.put o.dst (.agg cs)) w) : wpList Tryz.prog ops Q (o :: rest) a w :=
  wpList_load_row hg 39 x ho g hx t' cs (0, 0) _ hb Tryz.underlying39 rfl (by rw [hl]; exact Tryz.size39) h
end
theorem Cfg.right {w : World} {sa : Option Addr} {sn sc : Nat} {zs : List Int} (f p bu bl ro : Int) (h : Cfg w sa sn sc zs) : Calls Tryz.prog 85 #[cfgV (.slice sa sn sc) f p bu bl ro] w fun e w' => e = .returned (.bool (cfgB zs f p bu bl ro)) ∧ Kept No w w' := by
  have := rightConfig_any sa sc zs f p bu bl ro w h.nums (by rw [h.len]; exact h.bd)
  rw [h.len] at this
  exact this
abbrev FV (n : Nat) : Value := .func (.func n) #[] #[]
set_option maxRecDepth 100000 in
set_option maxHeartbeats 2000000 in
theorem judgeMsg_all (cs : Array Value) (hcs : cs.size = 30) (bb : Bool) (r : Int) (sa : Option Addr) (sn sc : Nat) (zs : List Int) (f p bu bl ro : Int) (w : World) (h : Cfg w sa sn sc zs) (hyes : cfgB zs f p bu bl ro = true)
    (hR : ∀ W, Kept No w W → Calls Tryz.prog 40 #[.agg cs, cfgV (.slice sa sn sc) f p bu bl ro] W fun e w' => e = .returned (.bool bb) ∧ Kept No W w') :
    Calls Tryz.prog 39 #[.agg cs, cfgV (.slice sa sn sc) f p bu bl ro, FV 40, .int .i64 r] w fun e w' => e = .returned (.int .i64 (if bb then 0 else r)) ∧ Kept No w w' := by
  have HC : Hid (Cfg w sa sn sc zs) := h
  have HN : Hid (cfgB zs f p bu bl ro = true) := hyes
  have HR : Hid (∀ W, Kept No w W → Calls Tryz.prog 40 #[.agg cs, cfgV (.slice sa sn sc) f p bu bl ro] W fun e w' => e = .returned (.bool bb) ∧ Kept No W w') := hR
  have HS : Hid (cs.size = 30) := hcs
  clear h hyes hR hcs
  have TB : Hid (1 = 1) := rfl
  obtain ⟨w0, hw0⟩ : ∃ w0, w0 = w.alloc (.cells cs 45) := ⟨_, rfl⟩
  have HK0 : Hid (Kept No w w0) := by rw [hw0]; exact (Kept.refl No w).alloc _
  have HM0 : Hid (Box w0 w.heap.size 45 cs) := by rw [hw0]; exact Box.new _ _ _
  go_enter Tryz.func39, Tryz.ntmps39
  go_upto_region 1 with (have hguard := TB; clear hguard; refine wp_boxV rfl 45 _ rfl cs rfl w.heap.size rfl ?_; rw [← hw0]; clear hw0 TB)
  obtain ⟨w1, hw1⟩ : ∃ w1, w1 = w0.alloc (.cells #[.slice sa sn sc, .int .i64 f, .int .i64 p, .int .i64 bu, .int .i64 bl, .int .i64 ro] 24) := ⟨_, rfl⟩
  rw [← hw1]
  have hk1 : Kept No w0 w1 := by rw [hw1]; exact (Kept.refl No w0).alloc _
  have HC1 : Hid (Box w1 w0.heap.size 24 #[.slice sa sn sc, .int .i64 f, .int .i64 p, .int .i64 bu, .int .i64 bl, .int .i64 ro]) := by rw [hw1]; exact Box.new _ _ _
  have HK1 : Hid (Kept No w w1) := HK0.out.then hk1
  have HM1 : Hid (Box w1 w.heap.size 45 cs) := HM0.out.kept hk1 (fun e => e)
  clear hw1 hk1 HM0 HK0
  have q0 := HC1.out.cell 0
  have q1 := HC1.out.cell 1
  have q2 := HC1.out.cell 2
  have q3 := HC1.out.cell 3
  have q4 := HC1.out.cell 4
  have q5 := HC1.out.cell 5
  simp at q0 q1 q2 q3 q4 q5
  go_wp2_with fail
  refine ((HC.out.no HK1.out).right f p bu bl ro).mono ?_
  rintro e w2 ⟨rfl, hk2⟩
  have HK2 : Hid (Kept No w w2) := HK1.out.then hk2
  have HM2 : Hid (Box w2 w.heap.size 45 cs) := HM1.out.kept hk2 (fun e => e)
  have HC2 : Hid (Box w2 w0.heap.size 24 #[.slice sa sn sc, .int .i64 f, .int .i64 p, .int .i64 bu, .int .i64 bl, .int .i64 ro]) := HC1.out.kept hk2 (fun e => e)
  clear hk2 q0 q1 q2 q3 q4 q5
  rw [HN.out]
  clear HN HC HC1 HM1
  have q0 := HC2.out.cell 0
  have q1 := HC2.out.cell 1
  have q2 := HC2.out.cell 2
  have q3 := HC2.out.cell 3
  have q4 := HC2.out.cell 4
  have q5 := HC2.out.cell 5
  simp at q0 q1 q2 q3 q4 q5
  have TL : Hid (1 = 1) := rfl
  cases bb with
  | true =>
    go_wp2_with (first
      | (have hguard := TL; clear hguard; refine wp_load71 rfl _ rfl w.heap.size cs rfl HS.out HM2.out ?_; clear TL)
      | (refine (HR.out _ HK2.out).mono ?_; rintro e w3 ⟨rfl, hk3⟩; have HK3 : Hid (Kept No w w3) := HK2.out.then hk3; clear hk3 q0 q1 q2 q3 q4 q5))
    go_ret
    exact ⟨rfl, HK3.out⟩
  | false =>
    go_wp2_with (first
      | (have hguard := TL; clear hguard; refine wp_load71 rfl _ rfl w.heap.size cs rfl HS.out HM2.out ?_; clear TL)
      | (refine (HR.out _ HK2.out).mono ?_; rintro e w3 ⟨rfl, hk3⟩; have HK3 : Hid (Kept No w w3) := HK2.out.then hk3; clear hk3 q0 q1 q2 q3 q4 q5))
    go_ret
    exact ⟨rfl, HK3.out⟩
set_option maxRecDepth 100000 in
set_option maxHeartbeats 2000000 in
theorem judgeBlock_no (cs : Array Value) (fv : Value) (r : Int) (sa : Option Addr) (sn sc : Nat) (zs : List Int) (f p bu bl ro : Int) (w : World) (h : Cfg w sa sn sc zs) (hno : cfgB zs f p bu bl ro = false) :
    Calls Tryz.prog 125 #[.agg cs, cfgV (.slice sa sn sc) f p bu bl ro, fv, .int .i64 r] w fun e w' => e = .returned (.int .i64 20) ∧ Kept No w w' := by
  have HC : Hid (Cfg w sa sn sc zs) := h
  have HN : Hid (cfgB zs f p bu bl ro = false) := hno
  clear h hno
  have TB : Hid (1 = 1) := rfl
  obtain ⟨w0, hw0⟩ : ∃ w0, w0 = w.alloc (.cells cs 73) := ⟨_, rfl⟩
  have HK0 : Hid (Kept No w w0) := by rw [hw0]; exact (Kept.refl No w).alloc _
  have HM0 : Hid (Box w0 w.heap.size 73 cs) := by rw [hw0]; exact Box.new _ _ _
  go_enter Tryz.func125, Tryz.ntmps125
  go_upto_region 1 with (have hguard := TB; clear hguard; refine wp_boxV rfl 73 _ rfl cs rfl w.heap.size rfl ?_; rw [← hw0]; clear hw0 TB)
  obtain ⟨w1, hw1⟩ : ∃ w1, w1 = w0.alloc (.cells #[.slice sa sn sc, .int .i64 f, .int .i64 p, .int .i64 bu, .int .i64 bl, .int .i64 ro] 24) := ⟨_, rfl⟩
  rw [← hw1]
  have hk1 : Kept No w0 w1 := by rw [hw1]; exact (Kept.refl No w0).alloc _
  have HC1 : Hid (Box w1 w0.heap.size 24 #[.slice sa sn sc, .int .i64 f, .int .i64 p, .int .i64 bu, .int .i64 bl, .int .i64 ro]) := by rw [hw1]; exact Box.new _ _ _
  have HK1 : Hid (Kept No w w1) := HK0.out.then hk1
  have HM1 : Hid (Box w1 w.heap.size 73 cs) := HM0.out.kept hk1 (fun e => e)
  clear hw1 hk1 HM0 HK0
  have q0 := HC1.out.cell 0
  have q1 := HC1.out.cell 1
  have q2 := HC1.out.cell 2
  have q3 := HC1.out.cell 3
  have q4 := HC1.out.cell 4
  have q5 := HC1.out.cell 5
  simp at q0 q1 q2 q3 q4 q5
  go_wp2_with fail
  refine ((HC.out.no HK1.out).right f p bu bl ro).mono ?_
  rintro e w2 ⟨rfl, hk2⟩
  have HK2 : Hid (Kept No w w2) := HK1.out.then hk2
  clear hk2 q0 q1 q2 q3 q4 q5
  rw [HN.out]
  clear HN HC HC1 HM1
  go_wp2
  go_ret
  exact ⟨rfl, HK2.out⟩
set_option maxRecDepth 100000 in
set_option maxHeartbeats 2000000 in
theorem judgeBlock_all (cs : Array Value) (hcs : cs.size = 3) (bb : Bool) (r : Int) (sa : Option Addr) (sn sc : Nat) (zs : List Int) (f p bu bl ro : Int) (w : World) (h : Cfg w sa sn sc zs) (hyes : cfgB zs f p bu bl ro = true)
    (hR : ∀ W, Kept No w W → Calls Tryz.prog 60 #[.agg cs, cfgV (.slice sa sn sc) f p bu bl ro] W fun e w' => e = .returned (.bool bb) ∧ Kept No W w') :
    Calls Tryz.prog 125 #[.agg cs, cfgV (.slice sa sn sc) f p bu bl ro, FV 60, .int .i64 r] w fun e w' => e = .returned (.int .i64 (if bb then 0 else r)) ∧ Kept No w w' := by
  have HC : Hid (Cfg w sa sn sc zs) := h
  have HN : Hid (cfgB zs f p bu bl ro = true) := hyes
  have HR : Hid (∀ W, Kept No w W → Calls Tryz.prog 60 #[.agg cs, cfgV (.slice sa sn sc) f p bu bl ro] W fun e w' => e = .returned (.bool bb) ∧ Kept No W w') := hR
  have HS : Hid (cs.size = 3) := hcs
  clear h hyes hR hcs
  have TB : Hid (1 = 1) := rfl
  obtain ⟨w0, hw0⟩ : ∃ w0, w0 = w.alloc (.cells cs 73) := ⟨_, rfl⟩
  have HK0 : Hid (Kept No w w0) := by rw [hw0]; exact (Kept.refl No w).alloc _
  have HM0 : Hid (Box w0 w.heap.size 73 cs) := by rw [hw0]; exact Box.new _ _ _
  go_enter Tryz.func125, Tryz.ntmps125
  go_upto_region 1 with (have hguard := TB; clear hguard; refine wp_boxV rfl 73 _ rfl cs rfl w.heap.size rfl ?_; rw [← hw0]; clear hw0 TB)
  obtain ⟨w1, hw1⟩ : ∃ w1, w1 = w0.alloc (.cells #[.slice sa sn sc, .int .i64 f, .int .i64 p, .int .i64 bu, .int .i64 bl, .int .i64 ro] 24) := ⟨_, rfl⟩
  rw [← hw1]
  have hk1 : Kept No w0 w1 := by rw [hw1]; exact (Kept.refl No w0).alloc _
  have HC1 : Hid (Box w1 w0.heap.size 24 #[.slice sa sn sc, .int .i64 f, .int .i64 p, .int .i64 bu, .int .i64 bl, .int .i64 ro]) := by rw [hw1]; exact Box.new _ _ _
  have HK1 : Hid (Kept No w w1) := HK0.out.then hk1
  have HM1 : Hid (Box w1 w.heap.size 73 cs) := HM0.out.kept hk1 (fun e => e)
  clear hw1 hk1 HM0 HK0
  have q0 := HC1.out.cell 0
  have q1 := HC1.out.cell 1
  have q2 := HC1.out.cell 2
  have q3 := HC1.out.cell 3
  have q4 := HC1.out.cell 4
  have q5 := HC1.out.cell 5
  simp at q0 q1 q2 q3 q4 q5
  go_wp2_with fail
  refine ((HC.out.no HK1.out).right f p bu bl ro).mono ?_
  rintro e w2 ⟨rfl, hk2⟩
  have HK2 : Hid (Kept No w w2) := HK1.out.then hk2
  have HM2 : Hid (Box w2 w.heap.size 73 cs) := HM1.out.kept hk2 (fun e => e)
  have HC2 : Hid (Box w2 w0.heap.size 24 #[.slice sa sn sc, .int .i64 f, .int .i64 p, .int .i64 bu, .int .i64 bl, .int .i64 ro]) := HC1.out.kept hk2 (fun e => e)
  clear hk2 q0 q1 q2 q3 q4 q5
  rw [HN.out]
  clear HN HC HC1 HM1
  have q0 := HC2.out.cell 0
  have q1 := HC2.out.cell 1
  have q2 := HC2.out.cell 2
  have q3 := HC2.out.cell 3
  have q4 := HC2.out.cell 4
  have q5 := HC2.out.cell 5
  simp at q0 q1 q2 q3 q4 q5
  have TL : Hid (1 = 1) := rfl
  cases bb with
  | true =>
    go_wp2_with (first
      | (have hguard := TL; clear hguard; refine wp_load37 rfl _ rfl w.heap.size cs rfl HS.out HM2.out ?_; clear TL)
      | (refine (HR.out _ HK2.out).mono ?_; rintro e w3 ⟨rfl, hk3⟩; have HK3 : Hid (Kept No w w3) := HK2.out.then hk3; clear hk3 q0 q1 q2 q3 q4 q5))
    go_ret
    exact ⟨rfl, HK3.out⟩
  | false =>
    go_wp2_with (first
      | (have hguard := TL; clear hguard; refine wp_load37 rfl _ rfl w.heap.size cs rfl HS.out HM2.out ?_; clear TL)
      | (refine (HR.out _ HK2.out).mono ?_; rintro e w3 ⟨rfl, hk3⟩; have HK3 : Hid (Kept No w w3) := HK2.out.then hk3; clear hk3 q0 q1 q2 q3 q4 q5))
    go_ret
    exact ⟨rfl, HK3.out⟩
set_option maxRecDepth 100000 in
set_option maxHeartbeats 2000000 in
theorem judgeInst_no (cs : Array Value) (fv : Value) (r : Int) (sa : Option Addr) (sn sc : Nat) (zs : List Int) (f p bu bl ro : Int) (w : World) (h : Cfg w sa sn sc zs) (hno : cfgB zs f p bu bl ro = false) :
    Calls Tryz.prog 134 #[.agg cs, cfgV (.slice sa sn sc) f p bu bl ro, fv, .int .i64 r] w fun e w' => e = .returned (.int .i64 20) ∧ Kept No w w' := by
  have HC : Hid (Cfg w sa sn sc zs) := h
  have HN : Hid (cfgB zs f p bu bl ro = false) := hno
  clear h hno
  have TB : Hid (1 = 1) := rfl
  obtain ⟨w0, hw0⟩ : ∃ w0, w0 = w.alloc (.cells cs 78) := ⟨_, rfl⟩
  have HK0 : Hid (Kept No w w0) := by rw [hw0]; exact (Kept.refl No w).alloc _
  have HM0 : Hid (Box w0 w.heap.size 78 cs) := by rw [hw0]; exact Box.new _ _ _
  go_enter Tryz.func134, Tryz.ntmps134
  go_upto_region 1 with (have hguard := TB; clear hguard; refine wp_boxV rfl 78 _ rfl cs rfl w.heap.size rfl ?_; rw [← hw0]; clear hw0 TB)
  obtain ⟨w1, hw1⟩ : ∃ w1, w1 = w0.alloc (.cells #[.slice sa sn sc, .int .i64 f, .int .i64 p, .int .i64 bu, .int .i64 bl, .int .i64 ro] 24) := ⟨_, rfl⟩
  rw [← hw1]
  have hk1 : Kept No w0 w1 := by rw [hw1]; exact (Kept.refl No w0).alloc _
  have HC1 : Hid (Box w1 w0.heap.size 24 #[.slice sa sn sc, .int .i64 f, .int .i64 p, .int .i64 bu, .int .i64 bl, .int .i64 ro]) := by rw [hw1]; exact Box.new _ _ _
  have HK1 : Hid (Kept No w w1) := HK0.out.then hk1
  have HM1 : Hid (Box w1 w.heap.size 78 cs) := HM0.out.kept hk1 (fun e => e)
  clear hw1 hk1 HM0 HK0
  have q0 := HC1.out.cell 0
  have q1 := HC1.out.cell 1
  have q2 := HC1.out.cell 2
  have q3 := HC1.out.cell 3
  have q4 := HC1.out.cell 4
  have q5 := HC1.out.cell 5
  simp at q0 q1 q2 q3 q4 q5
  go_wp2_with fail
  refine ((HC.out.no HK1.out).right f p bu bl ro).mono ?_
  rintro e w2 ⟨rfl, hk2⟩
  have HK2 : Hid (Kept No w w2) := HK1.out.then hk2
  clear hk2 q0 q1 q2 q3 q4 q5
  rw [HN.out]
  clear HN HC HC1 HM1
  go_wp2
  go_ret
  exact ⟨rfl, HK2.out⟩
set_option maxRecDepth 100000 in
set_option maxHeartbeats 2000000 in
theorem judgeInst_all (cs : Array Value) (hcs : cs.size = 14) (bb : Bool) (r : Int) (sa : Option Addr) (sn sc : Nat) (zs : List Int) (f p bu bl ro : Int) (w : World) (h : Cfg w sa sn sc zs) (hyes : cfgB zs f p bu bl ro = true)
    (hR : ∀ W, Kept No w W → Calls Tryz.prog 66 #[.agg cs, cfgV (.slice sa sn sc) f p bu bl ro] W fun e w' => e = .returned (.bool bb) ∧ Kept No W w') :
    Calls Tryz.prog 134 #[.agg cs, cfgV (.slice sa sn sc) f p bu bl ro, FV 66, .int .i64 r] w fun e w' => e = .returned (.int .i64 (if bb then 0 else r)) ∧ Kept No w w' := by
  have HC : Hid (Cfg w sa sn sc zs) := h
  have HN : Hid (cfgB zs f p bu bl ro = true) := hyes
  have HR : Hid (∀ W, Kept No w W → Calls Tryz.prog 66 #[.agg cs, cfgV (.slice sa sn sc) f p bu bl ro] W fun e w' => e = .returned (.bool bb) ∧ Kept No W w') := hR
  have HS : Hid (cs.size = 14) := hcs
  clear h hyes hR hcs
  have TB : Hid (1 = 1) := rfl
  obtain ⟨w0, hw0⟩ : ∃ w0, w0 = w.alloc (.cells cs 78) := ⟨_, rfl⟩
  have HK0 : Hid (Kept No w w0) := by rw [hw0]; exact (Kept.refl No w).alloc _
  have HM0 : Hid (Box w0 w.heap.size 78 cs) := by rw [hw0]; exact Box.new _ _ _
  go_enter Tryz.func134, Tryz.ntmps134
  go_upto_region 1 with (have hguard := TB; clear hguard; refine wp_boxV rfl 78 _ rfl cs rfl w.heap.size rfl ?_; rw [← hw0]; clear hw0 TB)
  obtain ⟨w1, hw1⟩ : ∃ w1, w1 = w0.alloc (.cells #[.slice sa sn sc, .int .i64 f, .int .i64 p, .int .i64 bu, .int .i64 bl, .int .i64 ro] 24) := ⟨_, rfl⟩
  rw [← hw1]
  have hk1 : Kept No w0 w1 := by rw [hw1]; exact (Kept.refl No w0).alloc _
  have HC1 : Hid (Box w1 w0.heap.size 24 #[.slice sa sn sc, .int .i64 f, .int .i64 p, .int .i64 bu, .int .i64 bl, .int .i64 ro]) := by rw [hw1]; exact Box.new _ _ _
  have HK1 : Hid (Kept No w w1) := HK0.out.then hk1
  have HM1 : Hid (Box w1 w.heap.size 78 cs) := HM0.out.kept hk1 (fun e => e)
  clear hw1 hk1 HM0 HK0
  have q0 := HC1.out.cell 0
  have q1 := HC1.out.cell 1
  have q2 := HC1.out.cell 2
  have q3 := HC1.out.cell 3
  have q4 := HC1.out.cell 4
  have q5 := HC1.out.cell 5
  simp at q0 q1 q2 q3 q4 q5
  go_wp2_with fail
  refine ((HC.out.no HK1.out).right f p bu bl ro).mono ?_
  rintro e w2 ⟨rfl, hk2⟩
  have HK2 : Hid (Kept No w w2) := HK1.out.then hk2
  have HM2 : Hid (Box w2 w.heap.size 78 cs) := HM1.out.kept hk2 (fun e => e)
  have HC2 : Hid (Box w2 w0.heap.size 24 #[.slice sa sn sc, .int .i64 f, .int .i64 p, .int .i64 bu, .int .i64 bl, .int .i64 ro]) := HC1.out.kept hk2 (fun e => e)
  clear hk2 q0 q1 q2 q3 q4 q5
  rw [HN.out]
  clear HN HC HC1 HM1
  have q0 := HC2.out.cell 0
  have q1 := HC2.out.cell 1
  have q2 := HC2.out.cell 2
  have q3 := HC2.out.cell 3
  have q4 := HC2.out.cell 4
  have q5 := HC2.out.cell 5
  simp at q0 q1 q2 q3 q4 q5
  have TL : Hid (1 = 1) := rfl
  cases bb with
  | true =>
    go_wp2_with (first
      | (have hguard := TL; clear hguard; refine wp_load47 rfl _ rfl w.heap.size cs rfl HS.out HM2.out ?_; clear TL)
      | (refine (HR.out _ HK2.out).mono ?_; rintro e w3 ⟨rfl, hk3⟩; have HK3 : Hid (Kept No w w3) := HK2.out.then hk3; clear hk3 q0 q1 q2 q3 q4 q5))
    go_ret
    exact ⟨rfl, HK3.out⟩
  | false =>
    go_wp2_with (first
      | (have hguard := TL; clear hguard; refine wp_load47 rfl _ rfl w.heap.size cs rfl HS.out HM2.out ?_; clear TL)
      | (refine (HR.out _ HK2.out).mono ?_; rintro e w3 ⟨rfl, hk3⟩; have HK3 : Hid (Kept No w w3) := HK2.out.then hk3; clear hk3 q0 q1 q2 q3 q4 q5))
    go_ret
    exact ⟨rfl, HK3.out⟩
set_option maxRecDepth 100000 in
set_option maxHeartbeats 2000000 in
theorem judgeBucket_no (cs : Array Value) (fv : Value) (r : Int) (sa : Option Addr) (sn sc : Nat) (zs : List Int) (f p bu bl ro : Int) (w : World) (h : Cfg w sa sn sc zs) (hno : cfgB zs f p bu bl ro = false) :
    Calls Tryz.prog 46 #[.agg cs, cfgV (.slice sa sn sc) f p bu bl ro, fv, .int .i64 r] w fun e w' => e = .returned (.int .i64 20) ∧ Kept No w w' := by
  have HC : Hid (Cfg w sa sn sc zs) := h
  have HN : Hid (cfgB zs f p bu bl ro = false) := hno
  clear h hno
  have TB : Hid (1 = 1) := rfl
  obtain ⟨w0, hw0⟩ : ∃ w0, w0 = w.alloc (.cells cs 43) := ⟨_, rfl⟩
  have HK0 : Hid (Kept No w w0) := by rw [hw0]; exact (Kept.refl No w).alloc _
  have HM0 : Hid (Box w0 w.heap.size 43 cs) := by rw [hw0]; exact Box.new _ _ _
  go_enter Tryz.func46, Tryz.ntmps46
  go_upto_region 1 with (have hguard := TB; clear hguard; refine wp_boxV rfl 43 _ rfl cs rfl w.heap.size rfl ?_; rw [← hw0]; clear hw0 TB)
  obtain ⟨w1, hw1⟩ : ∃ w1, w1 = w0.alloc (.cells #[.slice sa sn sc, .int .i64 f, .int .i64 p, .int .i64 bu, .int .i64 bl, .int .i64 ro] 24) := ⟨_, rfl⟩
  rw [← hw1]
  have hk1 : Kept No w0 w1 := by rw [hw1]; exact (Kept.refl No w0).alloc _
  have HC1 : Hid (Box w1 w0.heap.size 24 #[.slice sa sn sc, .int .i64 f, .int .i64 p, .int .i64 bu, .int .i64 bl, .int .i64 ro]) := by rw [hw1]; exact Box.new _ _ _
  have HK1 : Hid (Kept No w w1) := HK0.out.then hk1
  have HM1 : Hid (Box w1 w.heap.size 43 cs) := HM0.out.kept hk1 (fun e => e)
  clear hw1 hk1 HM0 HK0
  have q0 := HC1.out.cell 0
  have q1 := HC1.out.cell 1
  have q2 := HC1.out.cell 2
  have q3 := HC1.out.cell 3
  have q4 := HC1.out.cell 4
  have q5 := HC1.out.cell 5
  simp at q0 q1 q2 q3 q4 q5
  go_wp2_with fail
  refine ((HC.out.no HK1.out).right f p bu bl ro).mono ?_
  rintro e w2 ⟨rfl, hk2⟩
  have HK2 : Hid (Kept No w w2) := HK1.out.then hk2
  clear hk2 q0 q1 q2 q3 q4 q5
  rw [HN.out]
  clear HN HC HC1 HM1
  go_wp2
  go_ret
  exact ⟨rfl, HK2.out⟩
set_option maxRecDepth 100000 in
set_option maxHeartbeats 2000000 in
theorem judgeBucket_all (cs : Array Value) (hcs : cs.size = 3) (bb : Bool) (r : Int) (sa : Option Addr) (sn sc : Nat) (zs : List Int) (f p bu bl ro : Int) (w : World) (h : Cfg w sa sn sc zs) (hyes : cfgB zs f p bu bl ro = true)
    (hR : ∀ W, Kept No w W → Calls Tryz.prog 47 #[.agg cs, cfgV (.slice sa sn sc) f p bu bl ro] W fun e w' => e = .returned (.bool bb) ∧ Kept No W w') :
    Calls Tryz.prog 46 #[.agg cs, cfgV (.slice sa sn sc) f p bu bl ro, FV 47, .int .i64 r] w fun e w' => e = .returned (.int .i64 (if bb then 0 else r)) ∧ Kept No w w' := by
  have HC : Hid (Cfg w sa sn sc zs) := h
  have HN : Hid (cfgB zs f p bu bl ro = true) := hyes
  have HR : Hid (∀ W, Kept No w W → Calls Tryz.prog 47 #[.agg cs, cfgV (.slice sa sn sc) f p bu bl ro] W fun e w' => e = .returned (.bool bb) ∧ Kept No W w') := hR
  have HS : Hid (cs.size = 3) := hcs
  clear h hyes hR hcs
  have TB : Hid (1 = 1) := rfl
  obtain ⟨w0, hw0⟩ : ∃ w0, w0 = w.alloc (.cells cs 43) := ⟨_, rfl⟩
  have HK0 : Hid (Kept No w w0) := by rw [hw0]; exact (Kept.refl No w).alloc _
  have HM0 : Hid (Box w0 w.heap.size 43 cs) := by rw [hw0]; exact Box.new _ _ _
  go_enter Tryz.func46, Tryz.ntmps46
  go_upto_region 1 with (have hguard := TB; clear hguard; refine wp_boxV rfl 43 _ rfl cs rfl w.heap.size rfl ?_; rw [← hw0]; clear hw0 TB)
  obtain ⟨w1, hw1⟩ : ∃ w1, w1 = w0.alloc (.cells #[.slice sa sn sc, .int .i64 f, .int .i64 p, .int .i64 bu, .int .i64 bl, .int .i64 ro] 24) := ⟨_, rfl⟩
  rw [← hw1]
  have hk1 : Kept No w0 w1 := by rw [hw1]; exact (Kept.refl No w0).alloc _
  have HC1 : Hid (Box w1 w0.heap.size 24 #[.slice sa sn sc, .int .i64 f, .int .i64 p, .int .i64 bu, .int .i64 bl, .int .i64 ro]) := by rw [hw1]; exact Box.new _ _ _
  have HK1 : Hid (Kept No w w1) := HK0.out.then hk1
  have HM1 : Hid (Box w1 w.heap.size 43 cs) := HM0.out.kept hk1 (fun e => e)
  clear hw1 hk1 HM0 HK0
  have q0 := HC1.out.cell 0
  have q1 := HC1.out.cell 1
  have q2 := HC1.out.cell 2
  have q3 := HC1.out.cell 3
  have q4 := HC1.out.cell 4
  have q5 := HC1.out.cell 5
  simp at q0 q1 q2 q3 q4 q5
  go_wp2_with fail
  refine ((HC.out.no HK1.out).right f p bu bl ro).mono ?_
  rintro e w2 ⟨rfl, hk2⟩
  have HK2 : Hid (Kept No w w2) := HK1.out.then hk2
  have HM2 : Hid (Box w2 w.heap.size 43 cs) := HM1.out.kept hk2 (fun e => e)
  have HC2 : Hid (Box w2 w0.heap.size 24 #[.slice sa sn sc, .int .i64 f, .int .i64 p, .int .i64 bu, .int .i64 bl, .int .i64 ro]) := HC1.out.kept hk2 (fun e => e)
  clear hk2 q0 q1 q2 q3 q4 q5
  rw [HN.out]
  clear HN HC HC1 HM1
  have q0 := HC2.out.cell 0
  have q1 := HC2.out.cell 1
  have q2 := HC2.out.cell 2
  have q3 := HC2.out.cell 3
  have q4 := HC2.out.cell 4
  have q5 := HC2.out.cell 5
  simp at q0 q1 q2 q3 q4 q5
  have TL : Hid (1 = 1) := rfl
  cases bb with
  | true =>
    go_wp2_with (first
      | (have hguard := TL; clear hguard; refine wp_load54 rfl _ rfl w.heap.size cs rfl HS.out HM2.out ?_; clear TL)
      | (refine (HR.out _ HK2.out).mono ?_; rintro e w3 ⟨rfl, hk3⟩; have HK3 : Hid (Kept No w w3) := HK2.out.then hk3; clear hk3 q0 q1 q2 q3 q4 q5))
    go_ret
    exact ⟨rfl, HK3.out⟩
  | false =>
    go_wp2_with (first
      | (have hguard := TL; clear hguard; refine wp_load54 rfl _ rfl w.heap.size cs rfl HS.out HM2.out ?_; clear TL)
      | (refine (HR.out _ HK2.out).mono ?_; rintro e w3 ⟨rfl, hk3⟩; have HK3 : Hid (Kept No w w3) := HK2.out.then hk3; clear hk3 q0 q1 q2 q3 q4 q5))
    go_ret
    exact ⟨rfl, HK3.out⟩
set_option maxRecDepth 100000 in
set_option maxHeartbeats 2000000 in
theorem judgeCommand_all (cs : Array Value) (hcs : cs.size = 9) (bb : Bool) (r : Int) (sa : Option Addr) (sn sc : Nat) (zs : List Int) (f p bu bl ro : Int) (w : World) (h : Cfg w sa sn sc zs) (hyes : cfgB zs f p bu bl ro = true)
    (hR : ∀ W, Kept No w W → Calls Tryz.prog 44 #[.agg cs, cfgV (.slice sa sn sc) f p bu bl ro] W fun e w' => e = .returned (.bool bb) ∧ Kept No W w') :
    Calls Tryz.prog 43 #[.agg cs, cfgV (.slice sa sn sc) f p bu bl ro, FV 44, .int .i64 r] w fun e w' => e = .returned (.int .i64 (if bb then 0 else r)) ∧ Kept No w w' := by
  have HC : Hid (Cfg w sa sn sc zs) := h
  have HN : Hid (cfgB zs f p bu bl ro = true) := hyes
  have HR : Hid (∀ W, Kept No w W → Calls Tryz.prog 44 #[.agg cs, cfgV (.slice sa sn sc) f p bu bl ro] W fun e w' => e = .returned (.bool bb) ∧ Kept No W w') := hR
  have HS : Hid (cs.size = 9) := hcs
  clear h hyes hR hcs
  have TB : Hid (1 = 1) := rfl
  obtain ⟨w0, hw0⟩ : ∃ w0, w0 = w.alloc (.cells cs 39) := ⟨_, rfl⟩
  have HK0 : Hid (Kept No w w0) := by rw [hw0]; exact (Kept.refl No w).alloc _
  have HM0 : Hid (Box w0 w.heap.size 39 cs) := by rw [hw0]; exact Box.new _ _ _
  go_enter Tryz.func43, Tryz.ntmps43
  go_upto_region 1 with (have hguard := TB; clear hguard; refine wp_boxV rfl 39 _ rfl cs rfl w.heap.size rfl ?_; rw [← hw0]; clear hw0 TB)
  obtain ⟨w1, hw1⟩ : ∃ w1, w1 = w0.alloc (.cells #[.slice sa sn sc, .int .i64 f, .int .i64 p, .int .i64 bu, .int .i64 bl, .int .i64 ro] 24) := ⟨_, rfl⟩
  rw [← hw1]
  have hk1 : Kept No w0 w1 := by rw [hw1]; exact (Kept.refl No w0).alloc _
  have HC1 : Hid (Box w1 w0.heap.size 24 #[.slice sa sn sc, .int .i64 f, .int .i64 p, .int .i64 bu, .int .i64 bl, .int .i64 ro]) := by rw [hw1]; exact Box.new _ _ _
  have HK1 : Hid (Kept No w w1) := HK0.out.then hk1
  have HM1 : Hid (Box w1 w.heap.size 39 cs) := HM0.out.kept hk1 (fun e => e)
  clear hw1 hk1 HM0 HK0
  have q0 := HC1.out.cell 0
  have q1 := HC1.out.cell 1
  have q2 := HC1.out.cell 2
  have q3 := HC1.out.cell 3
  have q4 := HC1.out.cell 4
  have q5 := HC1.out.cell 5
  simp at q0 q1 q2 q3 q4 q5
  go_wp2_with fail
  refine ((HC.out.no HK1.out).right f p bu bl ro).mono ?_
  rintro e w2 ⟨rfl, hk2⟩
  have HK2 : Hid (Kept No w w2) := HK1.out.then hk2
  have HM2 : Hid (Box w2 w.heap.size 39 cs) := HM1.out.kept hk2 (fun e => e)
  have HC2 : Hid (Box w2 w0.heap.size 24 #[.slice sa sn sc, .int .i64 f, .int .i64 p, .int .i64 bu, .int .i64 bl, .int .i64 ro]) := HC1.out.kept hk2 (fun e => e)
  clear hk2 q0 q1 q2 q3 q4 q5
  rw [HN.out]
  clear HN HC HC1 HM1
  have q0 := HC2.out.cell 0
  have q1 := HC2.out.cell 1
  have q2 := HC2.out.cell 2
  have q3 := HC2.out.cell 3
  have q4 := HC2.out.cell 4
  have q5 := HC2.out.cell 5
  simp at q0 q1 q2 q3 q4 q5
  have TL : Hid (1 = 1) := rfl
  cases bb with
  | true =>
    go_wp2_with (first
      | (have hguard := TL; clear hguard; refine wp_load45 rfl _ rfl w.heap.size cs rfl HS.out HM2.out ?_; clear TL)
      | (refine (HR.out _ HK2.out).mono ?_; rintro e w3 ⟨rfl, hk3⟩; have HK3 : Hid (Kept No w w3) := HK2.out.then hk3; clear hk3 q0 q1 q2 q3 q4 q5))
    go_ret
    exact ⟨rfl, HK3.out⟩
  | false =>
    go_wp2_with (first
      | (have hguard := TL; clear hguard; refine wp_load45 rfl _ rfl w.heap.size cs rfl HS.out HM2.out ?_; clear TL)
      | (refine (HR.out _ HK2.out).mono ?_; rintro e w3 ⟨rfl, hk3⟩; have HK3 : Hid (Kept No w w3) := HK2.out.then hk3; clear hk3 q0 q1 q2 q3 q4 q5))
    go_ret
    exact ⟨rfl, HK3.out⟩
end Go.Proofs.YtgdnofacgfjaeaaGreat.Wi
namespace Go.Proofs.YtgdnofacgfjaeaaGreat.Md
open Go.RowKit
set_option linter.unusedVariables false
set_option linter.unusedSimpArgs false
theorem kw {w w' : World} (h : Wi.Kept Wi.No w w') : Kept No w w' := ⟨h.os, h.tape, h.output, h.size, fun k hk hS => h.block k hk hS⟩
theorem wk {w w' : World} (h : Kept No w w') : Wi.Kept Wi.No w w' := ⟨h.os, h.tape, h.output, h.size, fun k hk hS => h.block k hk hS⟩
theorem callw {f : FuncId} {args : Array Value} {w : World} {v : Value} (h : Calls Tryz.prog f args w fun e w' => e = .returned v ∧ Wi.Kept Wi.No w w') : Calls Tryz.prog f args w fun e w' => e = .returned v ∧ Kept No w w' :=
  h.mono (by rintro e w' ⟨h1, h2⟩; exact ⟨h1, kw h2⟩)
theorem wcall {f : FuncId} {args : Array Value} {w : World} {v : Value} (h : Calls Tryz.prog f args w fun e w' => e = .returned v ∧ Kept No w w') : Calls Tryz.prog f args w fun e w' => e = .returned v ∧ Wi.Kept Wi.No w w' :=
  h.mono (by rintro e w' ⟨h1, h2⟩; exact ⟨h1, wk h2⟩)
structure MgIn (w : World) (m : Mg) (zs : List Int) (es : List En) (ls : List La) (cs : List Cm) : Prop where
  b : RdB w m.bl zs
  e : RdE w m.bk.e es
  l : RdL w m.bk.l ls
  c : RdC w m.cm cs
  nb : m.bl.l ≤ 140737488351232
  ne : m.bk.e.l ≤ 3518437208780
  nl : m.bk.l.l ≤ 2513169434843
  nc : m.cm.l ≤ 1759218604390
  u : Wi.U8 zs
theorem MgIn.no {w w' : World} {m : Mg} {zs : List Int} {es : List En} {ls : List La} {cs : List Cm} (H : MgIn w m zs es ls cs) (hk : Kept No w w') : MgIn w' m zs es ls cs := ⟨H.b.no hk, H.e.no hk, H.l.no hk, H.c.no hk, H.nb, H.ne, H.nl, H.nc, H.u⟩
structure BkIn (w : World) (x : Bv) (es : List En) (ls : List La) : Prop where
  e : RdE w x.e es
  l : RdL w x.l ls
  ne : x.e.l ≤ 3518437208780
  nl : x.l.l ≤ 2513169434843
theorem BkIn.no {w w' : World} {x : Bv} {es : List En} {ls : List La} (H : BkIn w x es ls) (hk : Kept No w w') : BkIn w' x es ls := ⟨H.e.no hk, H.l.no hk, H.ne, H.nl⟩
structure CgIn (w : World) (c : Cg) (zs : List Int) : Prop where
  r : RdI w c.sv zs
  n : c.sv.l ≤ 17592186043904
theorem CgIn.no {w w' : World} {c : Cg} {zs : List Int} (H : CgIn w c zs) (hk : Kept No w w') : CgIn w' c zs := ⟨H.r.no hk, H.n⟩
noncomputable def cfgP (c : Cg) (zs : List Int) : Bool := Wi.cfgB zs c.f c.po c.bu c.bl c.rm
theorem inb {n lo hi : Int} (h : Wi.inB n lo hi = true) : lo ≤ n ∧ n ≤ hi := by simpa [Wi.inB] using h
theorem cfgP_bd {c : Cg} {zs : List Int} (h : cfgP c zs = true) : ((1 ≤ c.bl ∧ c.bl ≤ 4096) ∧ (1 ≤ c.bu ∧ c.bu ≤ 256)) ∧ 1 ≤ c.rm ∧ c.rm ≤ 256 := by
  unfold cfgP Wi.cfgB at h
  rw [Bool.and_eq_true, Bool.and_eq_true, Bool.and_eq_true, Bool.and_eq_true] at h
  obtain ⟨_, _, h1, h2, h3⟩ := h
  exact ⟨⟨inb h2, inb h1⟩, inb h3⟩
theorem cfg_bl {c : Cg} {zs : List Int} (h : cfgP c zs = true) : 0 ≤ c.bl ∧ c.bl ≤ 4096 := by have := (cfgP_bd h).1.1; omega
theorem cfg_is (c : Cg) (zs : List Int) (w : World) (h : CgIn w c zs) : Calls Tryz.prog 41 #[.agg (Cg.cells c)] w fun e w' => e = .returned (.bool (cfgP c zs)) ∧ Kept No w w' := by
  obtain ⟨⟨sa, sn, sc⟩, f, po, bu, bl, rm⟩ := c
  have hl : zs.length = sn := h.r.len
  have h2 := Wi.is_any sa sc zs f po bu bl rm w h.r.row
  rw [hl] at h2
  exact callw h2
theorem CgIn.wi {w : World} {c : Cg} {zs : List Int} (h : CgIn w c zs) : Wi.Cfg w c.sv.a c.sv.l c.sv.k zs := ⟨h.r.row, h.r.len, h.n⟩
def jdg (a b : Bool) (r : Int) : Int := bif a then (bif b then 0 else r) else 20
theorem jdg_if (b : Bool) (r : Int) : (if b then 0 else r) = jdg true b r := by cases b <;> rfl
theorem judgeK (x : Bv) (c : Cg) (zs : List Int) (es : List En) (ls : List La) (r : Int) (w : World) (hc : CgIn w c zs) (hm : BkIn w x es ls) :
    Calls Tryz.prog 46 #[.agg (Bv.cells x), .agg (Cg.cells c), .func (.func 47) #[] #[], .int .i64 r] w fun e w' => e = .returned (.int .i64 (jdg (cfgP c zs) (bktP c.bl c.rm x es ls) r)) ∧ Kept No w w' := by
  cases hq : cfgP c zs with
  | false => exact callw (Wi.judgeBucket_no (Bv.cells x) _ r c.sv.a c.sv.l c.sv.k zs c.f c.po c.bu c.bl c.rm w hc.wi hq)
  | true =>
    rw [← jdg_if]
    exact callw (Wi.judgeBucket_all (Bv.cells x) rfl _ r c.sv.a c.sv.l c.sv.k zs c.f c.po c.bu c.bl c.rm w hc.wi hq (fun W hk => wcall (p_rightBucket x es ls c W (cfg_bl hq) (hm.e.no (kw hk)) (hm.l.no (kw hk)) (by have := hm.ne; omega) (by have := hm.nl; omega))))
theorem jdgK (c : Cg) (zs : List Int) (x : Bv) (es : List En) (ls : List La) (r : Int) (he : es.length = x.e.l) (hl : ls.length = x.l.l) :
    jdg (cfgP c zs) (bktR c.bl c.rm x es ls) r = jdg (cfgP c zs) (bktP c.bl c.rm x es ls) r := by
  cases hq : cfgP c zs with
  | false => rfl
  | true => rw [bkt_eq (by have := (cfgP_bd hq).2; omega) he hl]
end Go.Proofs.YtgdnofacgfjaeaaGreat.Md
namespace Go.Proofs.YtgdnofacgfjaeaaGreat.Wi
open Go.RowKit
set_option linter.unusedVariables false
def headOf (zs : List Int) : List Int := fourOf zs.length ++ fourOf (sumOf (fourOf zs.length))
def sealOf (zs : List Int) : List Int := headOf zs ++ zs ++ fourOf (sumOf (headOf zs ++ zs))
theorem headOf_len (zs : List Int) : (headOf zs).length = 8 := rfl
theorem sealOf_len (zs : List Int) : (sealOf zs).length = zs.length + 12 := by simp [sealOf, headOf_len, fourOf_len]; omega
theorem headOf_u8 (zs : List Int) : U8 (headOf zs) := (fourOf_u8 _).append (fourOf_u8 _)
theorem sealOf_u8 {zs : List Int} (h : U8 zs) : U8 (sealOf zs) := ((headOf_u8 _).append h).append (fourOf_u8 _)
theorem at_some {b off k : Nat} (h : At (some ⟨b, off, none⟩) k) : k = b := by obtain ⟨ad, e, rfl⟩ := h; cases e; rfl
theorem Kept.fresh {w w1 w2 : World} {S : Nat → Prop} (h : Kept No w w1) (k : Kept S w1 w2) (hS : ∀ i, S i → w.heap.size ≤ i) : Kept No w w2 :=
  h.trans k (fun _ e => e) (fun i hi e => absurd hi (by have := hS i e; omega))
theorem ret_slice {a : Option Addr} {n m c : Nat} (h : n = m) : Ending.returned (.slice a n c) = .returned (.slice a m c) := by rw [h]
set_option maxRecDepth 1000000 in
set_option maxHeartbeats 1000000 in
theorem seal_any (a : Option Addr) (m cap : Nat) (zs : List Int) (w : World) (hz : zs.length = m) (hm : m ≤ 131072) (hb : Bytes w a zs) (h8 : U8 zs) (hc : a = none → cap = 0) :
    Calls Tryz.prog 38 #[.slice a m cap] w fun e w' => ∃ a' c', e = .returned (.slice a' (m + 12) c') ∧ OwnS w' w.heap.size a' c' (sealOf zs) ∧ Kept No w w' := by
  have HB : Hid (Bytes w a zs) := hb
  have H8 : Hid (U8 zs) := h8
  have HC : Hid (a = none → cap = 0) := hc
  have HZ : Hid (zs.length = m) := hz
  clear hb h8 hc hz
  obtain ⟨i0, hi, hz0, hz1, hz2⟩ := info_parts Tryz.info5
  go_enter Tryz.func38, Tryz.ntmps38
  go_wp2_with (at_make; go_must (refine wpList_make_own _ rfl _ (.tmp 10) 35 rfl w.heap.size 5 i0 (.int .u8 0) 1 Tryz.underlying35 hi hz0 hz1 .i64 .i64 _ (m + 12) rfl rfl (by omega) (by rw [hz2]; omega) (by unfold maxLen; omega) (Nat.le_refl _) ?_; intro w1 hown hgrow; have HO1 : Hid (OwnS w1 w.heap.size (some ⟨w.heap.size, 0, none⟩) (m + 12) []) := hown; have HK1 : Hid (Kept No w w1) := kept_grown hgrow; clear hown hgrow))
  refine (putFour_any w.heap.size _ _ _ [] _ _ rfl HO1.out HK1.out.size (by omega) (by omega) (by simp)).mono ?_
  rintro e w2 ⟨a2, c2, rfl, hO2, hK2⟩
  have HO2 : Hid (OwnS w2 w.heap.size a2 c2 (fourOf m)) := hO2
  have HK2 : Hid (Kept No w w2) := HK1.out.fresh hK2 (fun i e => HO1.out.base e)
  clear hO2 hK2 HO1 HK1
  go_wp2_with fail
  refine (sumN_any _ _ _ (fourOf m) _ (by simp [fourOf_len]) (by omega) HO2.out.bytes (fourOf_u8 _)).mono ?_
  rintro e w' ⟨rfl, rfl⟩
  have hs := sumOf_bd (fourOf m)
  go_wp2_with fail
  refine (putFour_any w.heap.size _ _ _ (fourOf m) _ _ (by simp [fourOf_len]) HO2.out HK2.out.size (by omega) (by omega) (by omega)).mono ?_
  rintro e w3 ⟨a3, c3, rfl, hO3, hK3⟩
  have HO3 : Hid (OwnS w3 w.heap.size a3 c3 (headOf zs)) := by unfold headOf; rw [HZ.out]; exact hO3
  have HK3 : Hid (Kept No w w3) := HK2.out.fresh hK3 (fun i e => HO2.out.base e)
  clear hO3 hK3 HO2 HK2 hs
  go_wp2_with (at_builtin; go_must (refine wp_app _ Tryz.underlying35 Tryz.info5 rfl _ _ rfl w.heap.size _ _ _ (headOf zs) rfl (by simp [headOf_len]) HO3.out _ _ _ zs rfl HZ.out (HB.out.no HK3.out) HC.out (by have := HZ.out; rw [headOf_len]; omega) HK3.out.size ?_; intro a4 c4 w4 HO4 HK4' HN'; have HK4 : Hid (Kept No w w4) := HK3.out.fresh HK4'.out (fun i e => HO3.out.base e); clear HK4' HN' HO3 HK3))
  refine (sumN_any _ _ _ (headOf zs ++ zs) _ (by have := HZ.out; simp [headOf_len]; omega) (by omega) HO4.out.bytes ((headOf_u8 _).append H8.out)).mono ?_
  rintro e w' ⟨rfl, rfl⟩
  have hs := sumOf_bd (headOf zs ++ zs)
  go_wp2_with fail
  refine (putFour_any w.heap.size _ _ _ (headOf zs ++ zs) _ _ (by have := HZ.out; simp [headOf_len]; omega) HO4.out HK4.out.size (by omega) (by omega) (by omega)).mono ?_
  rintro e w5 ⟨a5, c5, rfl, hO5, hK5⟩
  have HO5 : Hid (OwnS w5 w.heap.size a5 c5 (sealOf zs)) := hO5
  have HK5 : Hid (Kept No w w5) := HK4.out.fresh hK5 (fun i e => HO4.out.base e)
  clear hO5 hK5 HO4 HK4 hs
  go_wp2
  go_ret
  exact ⟨a5, c5, ret_slice (by omega), HO5.out, HK5.out⟩
set_option maxRecDepth 1000000 in
set_option maxHeartbeats 1000000 in
theorem rseal_any (a : Option Addr) (m cap : Nat) (zs : List Int) (w : World) (hz : zs.length = m) (hm : m ≤ 131072) (hb : Bytes w a zs) (h8 : U8 zs) (hc : a = none → cap = 0) :
    Calls Tryz.prog 26 #[.slice a m cap] w fun e w' => ∃ a' c', e = .returned (.slice a' (m + 12) c') ∧ OwnS w' w.heap.size a' c' (sealOf zs) ∧ Kept No w w' := by
  have HB : Hid (Bytes w a zs) := hb
  have H8 : Hid (U8 zs) := h8
  have HC : Hid (a = none → cap = 0) := hc
  have HZ : Hid (zs.length = m) := hz
  clear hb h8 hc hz
  go_enter Tryz.func26, Tryz.ntmps26
  go_wp2_with fail
  refine (Four_any _ _ (by omega) (by omega)).mono ?_
  rintro e w2 ⟨rfl, hO2, hK2⟩
  have HO2 : Hid (OwnS w2 w.heap.size (some ⟨w.heap.size, 0, none⟩) 4 (fourOf m)) := hO2
  have HK2 : Hid (Kept No w w2) := hK2
  clear hO2 hK2
  go_wp2_with fail
  refine (rsumN_any _ _ _ (fourOf m) _ (by simp [fourOf_len]) (by omega) HO2.out.bytes (fourOf_u8 _)).mono ?_
  rintro e w' ⟨rfl, rfl⟩
  have hs := sumOf_bd (fourOf m)
  go_wp2_with fail
  refine (Four_any _ _ (by omega) (by omega)).mono ?_
  rintro e w3 ⟨rfl, hO3, hK3⟩
  have HF3 : Hid (Bytes w3 (some ⟨w'.heap.size, 0, none⟩) (fourOf (sumOf (fourOf m)))) := hO3.bytes
  have HO3 : Hid (OwnS w3 w.heap.size (some ⟨w.heap.size, 0, none⟩) 4 (fourOf m)) := HO2.out.no hK3
  have HK3 : Hid (Kept No w w3) := HK2.out.then hK3
  clear hO3 hK3 HO2 HK2 hs
  go_wp2_with (first
    | (at_builtin; refine wp_app _ Tryz.underlying35 Tryz.info5 rfl (.tmp 13) (.tmp 15) rfl w.heap.size _ _ _ (fourOf m) rfl rfl HO3.out _ _ _ (fourOf (sumOf (fourOf m))) rfl rfl HF3.out (fun e => by cases e) (by simp [fourOf_len]) HK3.out.size ?_; intro a4 c4 w4 HO4' HK4' HN'; have HO4 : Hid (OwnS w4 w.heap.size a4 c4 (headOf zs)) := (by unfold headOf; rw [HZ.out]; exact HO4'.out); have HK4 : Hid (Kept No w w4) := HK3.out.fresh HK4'.out (fun i e => HO3.out.base e); clear HO4' HK4' HN' HO3 HK3 HF3)
    | (at_builtin; refine wp_app _ Tryz.underlying35 Tryz.info5 rfl (.tmp 17) (.tmp 18) rfl w.heap.size _ _ _ (headOf zs) rfl (by simp [headOf_len]) HO4.out _ _ _ zs rfl HZ.out (HB.out.no HK4.out) HC.out (by have := HZ.out; rw [headOf_len]; omega) HK4.out.size ?_; intro a5 c5 w5 HO5 HK5' HN'; have HK5 : Hid (Kept No w w5) := HK4.out.fresh HK5'.out (fun i e => HO4.out.base e); clear HK5' HN' HO4 HK4))
  refine (rsumN_any _ _ _ (headOf zs ++ zs) _ (by have := HZ.out; simp [headOf_len]; omega) (by omega) HO5.out.bytes ((headOf_u8 _).append H8.out)).mono ?_
  rintro e w' ⟨rfl, rfl⟩
  have hs := sumOf_bd (headOf zs ++ zs)
  go_wp2_with fail
  refine (Four_any _ _ (by omega) (by omega)).mono ?_
  rintro e w6 ⟨rfl, hO6, hK6⟩
  have HF6 : Hid (Bytes w6 (some ⟨w'.heap.size, 0, none⟩) (fourOf (sumOf (headOf zs ++ zs)))) := hO6.bytes
  have HO6 : Hid (OwnS w6 w.heap.size a5 c5 (headOf zs ++ zs)) := HO5.out.no hK6
  have HK6 : Hid (Kept No w w6) := HK5.out.then hK6
  clear hO6 hK6 HO5 HK5 hs
  go_wp2_with (at_builtin; go_must (refine wp_app _ Tryz.underlying35 Tryz.info5 rfl (.tmp 22) (.tmp 24) rfl w.heap.size _ _ _ (headOf zs ++ zs) rfl (by have := HZ.out; simp [headOf_len]; omega) HO6.out _ _ _ (fourOf (sumOf (headOf zs ++ zs))) rfl rfl HF6.out (fun e => by cases e) (by have := HZ.out; simp [fourOf_len, headOf_len]; omega) HK6.out.size ?_; intro a7 c7 w7 HO7 HK7' HN'; have HK7 : Hid (Kept No w w7) := HK6.out.fresh HK7'.out (fun i e => HO6.out.base e); clear HK7' HN' HO6 HK6 HF6))
  go_ret
  exact ⟨a7, c7, ret_slice (by omega), HO7.out, HK7.out⟩
theorem Bytes.drop {w : World} {b off : Nat} {zs : List Int} (h : Bytes w (some ⟨b, off, none⟩) zs) (k : Nat) : Bytes w (some ⟨b, off + k, none⟩) (zs.drop k) := by
  intro i hi
  simp only [List.length_drop] at hi
  obtain ⟨b', off', e, hc⟩ := h (k + i) (by omega)
  cases e
  refine ⟨b, off + k, rfl, ?_⟩
  rw [List.getElem?_drop, Nat.add_assoc]
  exact hc
theorem Bytes.take {w : World} {a : Option Addr} {zs : List Int} (h : Bytes w a zs) (k : Nat) : Bytes w a (zs.take k) := by
  intro i hi
  simp only [List.length_take] at hi
  rw [List.getElem?_take, if_pos (by omega)]
  exact h i (by omega)
theorem Bytes.drewN {w : World} {a : Option Addr} {zs : List Int} (h : Bytes w a zs) (n : Nat) : Bytes (w.drewN n) a zs := h
theorem four_n (N : Int) (a : Option Addr) (m cap : Nat) (zs : List Int) (w : World) (hN : numOf zs = N) (hm : zs.length = m) (h4 : 4 ≤ m) (hb : Bytes w a zs) (h8 : U8 zs) :
    Calls Tryz.prog 199 #[.slice a m cap] w fun e w' => e = .returned (.int .i64 N) ∧ ∃ n, w' = w.drewN n := by
  subst hN; exact four_any a m cap zs w hm h4 hb h8
theorem sum_n (N : Int) (a : Option Addr) (m cap : Nat) (zs : List Int) (w : World) (hN : sumOf zs = N) (hz : zs.length = m) (hm : m ≤ 140737488355328) (hb : Bytes w a zs) (h8 : U8 zs) :
    Calls Tryz.prog 84 #[.slice a m cap] w fun e w' => e = .returned (.int .i64 N) ∧ w' = w := by
  subst hN; exact sumN_any a m cap zs w hz hm hb h8
def openOf (zs : List Int) : List Int × Int :=
  if zs.length < 8 then ([], 10)
  else if numOf (zs.drop 4) ≠ sumOf (zs.take 4) then ([], 12)
  else if 131072 < numOf zs then ([], 2)
  else if (zs.length : Int) < numOf zs + 12 then ([], 10)
  else if numOf zs + 12 < (zs.length : Int) then ([], 11)
  else if numOf (zs.drop ((numOf zs).toNat + 8)) ≠ sumOf (zs.take ((numOf zs).toNat + 8)) then ([], 12)
  else ((zs.drop 8).take (numOf zs).toNat, 0)
def Opens (w : World) (zs : List Int) (e : Ending) (w' : World) : Prop :=
  ∃ a' n' c', e = .returned (.tuple #[.slice a' n' c', .int .i64 (openOf zs).2]) ∧ n' = (openOf zs).1.length ∧ OwnS w' w.heap.size a' c' (openOf zs).1 ∧ Kept No w w'
theorem opens_no {w : World} {zs : List Int} {w' : World} (x : Int) (h : openOf zs = ([], x)) (k : Kept No w w') : Opens w zs (.returned (.tuple #[.slice none 0 0, .int .i64 x])) w' :=
  ⟨none, 0, 0, by rw [h], by rw [h]; rfl, by rw [h]; exact OwnS.nil _ _, k⟩
theorem numOf_bd {zs : List Int} (h : U8 zs) : 0 ≤ numOf zs ∧ numOf zs ≤ 4294967295 := by
  have a := h 0; have b := h 1; have c := h 2; have d := h 3
  unfold numOf; omega
set_option maxRecDepth 1000000 in
set_option maxHeartbeats 400000 in
theorem open_cut (a : Option Addr) (m cap : Nat) (zs : List Int) (w : World) (hz : zs.length = m) (hl : m < 8) :
    Calls Tryz.prog 157 #[.slice a m cap] w (Opens w zs) := by
  have HO : Hid (openOf zs = ([], 10)) := by unfold Hid openOf; rw [if_pos (by omega)]
  clear hz
  go_enter Tryz.func157, Tryz.ntmps157
  go_wp2
  go_ret2
  exact opens_no 10 HO.out (Kept.refl _ _)
set_option maxRecDepth 1000000 in
set_option maxHeartbeats 1000000 in
theorem open_any (b off m cap : Nat) (zs : List Int) (w : World) (hz : zs.length = m) (hm : m ≤ 140737488355328) (hcm : cap ≤ 9223372036854775807) (hcap : m ≤ cap) (hb : Bytes w (some ⟨b, off, none⟩) zs) (h8 : U8 zs) (hl : 8 ≤ m) :
    Calls Tryz.prog 157 #[.slice (some ⟨b, off, none⟩) m cap] w (Opens w zs) := by
  have HB : Hid (Bytes w (some ⟨b, off, none⟩) zs) := hb
  have H8 : Hid (U8 zs) := h8
  have HZ : Hid (zs.length = m) := hz
  obtain ⟨n, hn⟩ : ∃ n : Nat, numOf zs = n := ⟨(numOf zs).toNat, by have := numOf_bd h8; omega⟩
  have hn2 : n ≤ 4294967295 := by have := numOf_bd h8; omega
  obtain ⟨P, hP⟩ : ∃ P, numOf (zs.drop 4) = P := ⟨_, rfl⟩
  obtain ⟨S, hS⟩ : ∃ S, sumOf (zs.take 4) = S := ⟨_, rfl⟩
  have HN : Hid (numOf zs = n) := hn
  have HP : Hid (numOf (zs.drop 4) = P) := hP
  have HS : Hid (sumOf (zs.take 4) = S) := hS
  clear hb h8 hz hn hP hS
  have g1 : (4 : Int) ≤ (m : Int) := by omega
  have g2 : (m : Int) ≤ (cap : Int) := by omega
  have g3 : ¬ (cap = 4) := by omega
  have g4 : (4 : Int) ≤ (cap : Int) := by omega
  have g5 : ¬ ((cap : Int) = 4) := by omega
  by_cases hps : P = S
  · have hps' : (P == S) = true := by simpa using hps
    by_cases h1 : 131072 < n
    · have HO : Hid (openOf zs = ([], 2)) := by unfold Hid openOf; rw [HP.out, HS.out, HZ.out, HN.out, if_neg (by omega), if_neg (by simpa using hps), if_pos (by omega)]
      clear hps
      go_enter Tryz.func157, Tryz.ntmps157
      go_wp2
      go_quiet ((first
        | (go_at_call 199; exact Calls.quiet_of (four_n P _ _ _ (zs.drop 4) _ HP.out (by have := HZ.out; simp; omega) (by omega) ((HB.out.drop 4).drewN _) (H8.out.drop 4)))
        | (go_at_call 84; exact Calls.quiet_of_same (sum_n S _ _ _ (zs.take 4) _ HS.out (by have := HZ.out; simp; omega) (by omega) ((HB.out.take 4).drewN _) (H8.out.take 4)))))
      go_wp2_with fail
      refine (four_n n _ _ _ zs _ HN.out HZ.out (by omega) (HB.out.drewN _) H8.out).mono ?_
      rintro e w1 ⟨rfl, n1, hw1⟩
      have HB2 : Hid (Bytes w1 (some ⟨b, off, none⟩) zs) := by rw [hw1]; exact HB.out
      have HK2 : Hid (Kept No w w1) := by rw [hw1]; exact (Kept.no_drewN _ _).drewN _
      clear hw1
      go_wp2
      go_ret2
      exact opens_no 2 HO.out HK2.out
    by_cases h2 : m < n + 12
    · have HO : Hid (openOf zs = ([], 10)) := by unfold Hid openOf; rw [HP.out, HS.out, HZ.out, HN.out, if_neg (by omega), if_neg (by simpa using hps), if_neg (by omega), if_pos (by omega)]
      clear hps
      go_enter Tryz.func157, Tryz.ntmps157
      go_wp2
      go_quiet ((first
        | (go_at_call 199; exact Calls.quiet_of (four_n P _ _ _ (zs.drop 4) _ HP.out (by have := HZ.out; simp; omega) (by omega) ((HB.out.drop 4).drewN _) (H8.out.drop 4)))
        | (go_at_call 84; exact Calls.quiet_of_same (sum_n S _ _ _ (zs.take 4) _ HS.out (by have := HZ.out; simp; omega) (by omega) ((HB.out.take 4).drewN _) (H8.out.take 4)))))
      go_wp2_with fail
      refine (four_n n _ _ _ zs _ HN.out HZ.out (by omega) (HB.out.drewN _) H8.out).mono ?_
      rintro e w1 ⟨rfl, n1, hw1⟩
      have HB2 : Hid (Bytes w1 (some ⟨b, off, none⟩) zs) := by rw [hw1]; exact HB.out
      have HK2 : Hid (Kept No w w1) := by rw [hw1]; exact (Kept.no_drewN _ _).drewN _
      clear hw1
      go_wp2
      go_ret2
      exact opens_no 10 HO.out HK2.out
    by_cases h3 : n + 12 < m
    · have HO : Hid (openOf zs = ([], 11)) := by unfold Hid openOf; rw [HP.out, HS.out, HZ.out, HN.out, if_neg (by omega), if_neg (by simpa using hps), if_neg (by omega), if_neg (by omega), if_pos (by omega)]
      clear hps
      go_enter Tryz.func157, Tryz.ntmps157
      go_wp2
      go_quiet ((first
        | (go_at_call 199; exact Calls.quiet_of (four_n P _ _ _ (zs.drop 4) _ HP.out (by have := HZ.out; simp; omega) (by omega) ((HB.out.drop 4).drewN _) (H8.out.drop 4)))
        | (go_at_call 84; exact Calls.quiet_of_same (sum_n S _ _ _ (zs.take 4) _ HS.out (by have := HZ.out; simp; omega) (by omega) ((HB.out.take 4).drewN _) (H8.out.take 4)))))
      go_wp2_with fail
      refine (four_n n _ _ _ zs _ HN.out HZ.out (by omega) (HB.out.drewN _) H8.out).mono ?_
      rintro e w1 ⟨rfl, n1, hw1⟩
      have HB2 : Hid (Bytes w1 (some ⟨b, off, none⟩) zs) := by rw [hw1]; exact HB.out
      have HK2 : Hid (Kept No w w1) := by rw [hw1]; exact (Kept.no_drewN _ _).drewN _
      clear hw1
      go_wp2
      go_ret2
      exact opens_no 11 HO.out HK2.out
    obtain rfl : m = n + 12 := by omega
    obtain ⟨P2, hP2⟩ : ∃ P, numOf (zs.drop (n + 8)) = P := ⟨_, rfl⟩
    obtain ⟨S2, hS2⟩ : ∃ S, sumOf (zs.take (n + 8)) = S := ⟨_, rfl⟩
    have HP2 : Hid (numOf (zs.drop (n + 8)) = P2) := hP2
    have HS2 : Hid (sumOf (zs.take (n + 8)) = S2) := hS2
    clear hP2 hS2
    have q0 : (0 : Int) ≤ 8 + (n : Int) := by omega
    have q1 : (8 : Int) + (n : Int) ≤ (n : Int) + 12 := by omega
    have q2 : ((8 : Int) + (n : Int)).toNat = n + 8 := by omega
    have q3 : ¬ (cap = n + 8) := by omega
    have k6 : ¬ (cap = 8) := by omega
    clear h2 h3
    by_cases hq : P2 = S2
    · have hq' : (P2 == S2) = true := by simpa using hq
      have HO : Hid (openOf zs = ((zs.drop 8).take n, 0)) := by unfold Hid openOf; rw [HP.out, HS.out, HZ.out, HN.out, if_neg (by omega), if_neg (by simpa using hps), if_neg (by omega), if_neg (by omega), if_neg (by omega), Int.toNat_natCast, HP2.out, HS2.out, if_neg (by simpa using hq)]
      clear hps hq
      go_enter Tryz.func157, Tryz.ntmps157
      go_wp2
      go_quiet ((first
        | (go_at_call 199; exact Calls.quiet_of (four_n P _ _ _ (zs.drop 4) _ HP.out (by have := HZ.out; simp; omega) (by omega) ((HB.out.drop 4).drewN _) (H8.out.drop 4)))
        | (go_at_call 84; exact Calls.quiet_of_same (sum_n S _ _ _ (zs.take 4) _ HS.out (by have := HZ.out; simp; omega) (by omega) ((HB.out.take 4).drewN _) (H8.out.take 4)))))
      go_wp2_with fail
      refine (four_n n _ _ _ zs _ HN.out HZ.out (by omega) (HB.out.drewN _) H8.out).mono ?_
      rintro e w1 ⟨rfl, n1, hw1⟩
      have HB2 : Hid (Bytes w1 (some ⟨b, off, none⟩) zs) := by rw [hw1]; exact HB.out
      have HK2 : Hid (Kept No w w1) := by rw [hw1]; exact (Kept.no_drewN _ _).drewN _
      clear hw1
      go_wp2_with fail
      go_quiet ((first
        | (go_at_call 199; exact Calls.quiet_of (four_n P2 _ _ _ (zs.drop (n + 8)) _ HP2.out (by have := HZ.out; simp; omega) (by omega) ((HB2.out.drop (n + 8)).drewN _) (H8.out.drop _)))
        | (go_at_call 84; exact Calls.quiet_of_same (sum_n S2 _ _ _ (zs.take (n + 8)) _ HS2.out (by have := HZ.out; simp; omega) (by omega) ((HB2.out.take (n + 8)).drewN _) (H8.out.take _)))))
      go_wp2_with fail
      refine (clone_any _ _ _ ((zs.drop 8).take n) _ (by have := HZ.out; simp; omega) (((HB2.out.drop 8).take n).drewN _) (fun e => by cases e) (by omega)).mono ?_
      rintro e w3 ⟨a3, c3, rfl, hO3, hK3, -⟩
      have HO3 : Hid (OwnS w3 w.heap.size a3 c3 ((zs.drop 8).take n)) := hO3.lower HK2.out.size
      have HK3 : Hid (Kept No w w3) := (HK2.out.drewN _).then hK3
      clear hO3 hK3
      go_wp2
      go_ret2
      exact ⟨a3, n, c3, by rw [HO.out]; rfl, by rw [HO.out]; have := HZ.out; simp; omega, by rw [HO.out]; exact HO3.out, HK3.out⟩
    · have hq' : (P2 == S2) = false := by simpa using hq
      have HO : Hid (openOf zs = ([], 12)) := by unfold Hid openOf; rw [HP.out, HS.out, HZ.out, HN.out, if_neg (by omega), if_neg (by simpa using hps), if_neg (by omega), if_neg (by omega), if_neg (by omega), Int.toNat_natCast, HP2.out, HS2.out, if_pos (by simpa using hq)]
      clear hps hq
      go_enter Tryz.func157, Tryz.ntmps157
      go_wp2
      go_quiet ((first
        | (go_at_call 199; exact Calls.quiet_of (four_n P _ _ _ (zs.drop 4) _ HP.out (by have := HZ.out; simp; omega) (by omega) ((HB.out.drop 4).drewN _) (H8.out.drop 4)))
        | (go_at_call 84; exact Calls.quiet_of_same (sum_n S _ _ _ (zs.take 4) _ HS.out (by have := HZ.out; simp; omega) (by omega) ((HB.out.take 4).drewN _) (H8.out.take 4)))))
      go_wp2_with fail
      refine (four_n n _ _ _ zs _ HN.out HZ.out (by omega) (HB.out.drewN _) H8.out).mono ?_
      rintro e w1 ⟨rfl, n1, hw1⟩
      have HB2 : Hid (Bytes w1 (some ⟨b, off, none⟩) zs) := by rw [hw1]; exact HB.out
      have HK2 : Hid (Kept No w w1) := by rw [hw1]; exact (Kept.no_drewN _ _).drewN _
      clear hw1
      go_wp2_with fail
      go_quiet ((first
        | (go_at_call 199; exact Calls.quiet_of (four_n P2 _ _ _ (zs.drop (n + 8)) _ HP2.out (by have := HZ.out; simp; omega) (by omega) ((HB2.out.drop (n + 8)).drewN _) (H8.out.drop _)))
        | (go_at_call 84; exact Calls.quiet_of_same (sum_n S2 _ _ _ (zs.take (n + 8)) _ HS2.out (by have := HZ.out; simp; omega) (by omega) ((HB2.out.take (n + 8)).drewN _) (H8.out.take _)))))
      go_wp2
      go_ret2
      exact opens_no 12 HO.out (HK2.out.drewN _)
  · have hps' : (P == S) = false := by simpa using hps
    have HO : Hid (openOf zs = ([], 12)) := by unfold Hid openOf; rw [HP.out, HS.out, HZ.out, if_neg (by omega), if_pos hps]
    clear hps
    go_enter Tryz.func157, Tryz.ntmps157
    go_wp2
    go_quiet ((first
      | (go_at_call 199; exact Calls.quiet_of (four_n P _ _ _ (zs.drop 4) _ HP.out (by have := HZ.out; simp; omega) (by omega) ((HB.out.drop 4).drewN _) (H8.out.drop 4)))
      | (go_at_call 84; exact Calls.quiet_of_same (sum_n S _ _ _ (zs.take 4) _ HS.out (by have := HZ.out; simp; omega) (by omega) ((HB.out.take 4).drewN _) (H8.out.take 4)))))
    go_wp2
    go_ret2
    exact opens_no 12 HO.out (Kept.no_drewN _ _)
structure Sl (w : World) (a : Option Addr) (m cap : Nat) (zs : List Int) : Prop where
  len : zs.length = m
  bytes : Bytes w a zs
  u8 : U8 zs
  le : m ≤ cap
  cm : cap ≤ 9223372036854775807
  bd : m ≤ 140737488351232
  nil : a = none → cap = 0
theorem Sl.kept {S : Nat → Prop} {w w' : World} {a : Option Addr} {m cap : Nat} {zs : List Int} (h : Sl w a m cap zs) (hk : Kept S w w') (hS : ∀ k, k < w.heap.size → ¬ S k) : Sl w' a m cap zs :=
  ⟨h.len, fun i hi => by
    obtain ⟨b, off, rfl, hc⟩ := h.bytes i hi
    exact ⟨b, off, rfl, hk.cell hc (hS b (World.block_lt_of_cell? w _ hc))⟩, h.u8, h.le, h.cm, h.bd, h.nil⟩
theorem Sl.no {w w' : World} {a : Option Addr} {m cap : Nat} {zs : List Int} (h : Sl w a m cap zs) (hk : Kept No w w') : Sl w' a m cap zs := h.kept hk (fun _ _ e => e)
theorem Sl.off {S : Nat → Prop} {w w' : World} {a : Option Addr} {m cap : Nat} {zs : List Int} (h : Sl w a m cap zs) (hk : Kept S w w') (hS : ∀ k, At a k → ¬ S k) : Sl w' a m cap zs :=
  ⟨h.len, h.bytes.kept hk (fun b off e => hS b ⟨_, e, rfl⟩), h.u8, h.le, h.cm, h.bd, h.nil⟩
theorem OwnS.sl {w : World} {base : Nat} {a : Option Addr} {m cap : Nat} {zs : List Int} (h : OwnS w base a cap zs) (hm : zs.length = m) (h8 : U8 zs) (hb : m ≤ 140737488351232) : Sl w a m cap zs := by
  refine ⟨hm, h.bytes, h8, by rw [← hm]; exact h.len, ?_, hb, h.nilcap⟩
  rcases h.cases with ⟨_, rfl, _⟩ | ⟨g, _, _, _, _, hc⟩
  · omega
  · unfold maxLen at hc; omega
theorem open_sl {a : Option Addr} {m cap : Nat} {zs : List Int} {w : World} (h : Sl w a m cap zs) : Calls Tryz.prog 157 #[.slice a m cap] w (Opens w zs) := by
  by_cases hl : m < 8
  · exact open_cut a m cap zs w h.len hl
  · obtain ⟨b, off, rfl, _⟩ := h.bytes 0 (by rw [h.len]; omega)
    exact open_any b off m cap zs w h.len (by have := h.bd; omega) h.cm h.le h.bytes h.u8 (by omega)
theorem Sl.nilS (w : World) : Sl w none 0 0 [] := ⟨rfl, fun i hi => absurd hi (Nat.not_lt_zero _), U8.nil, Nat.le_refl _, by omega, by omega, fun _ => rfl⟩
theorem and127 (v : Nat) (h : W64 v) : bits .and .u64 (v : Int) 127 = (v : Int) % 128 := by
  unfold W64 at h
  exact bits_mask .u64 64 (by decide) (fun n a b => by simp [IntKind.wrap, IntKind.bits, IntKind.signed]; omega) 7 (by decide) (v : Int) (by omega) (by omega)
set_option maxRecDepth 1000000 in
set_option maxHeartbeats 1000000 in
theorem rvarint_any (u : Nat) (w : World) (hu : W64 u) :
    Calls Tryz.prog 230 #[.int .u64 (u : Int)] w fun e w' => ∃ a' n' c', e = .returned (.slice a' n' c') ∧ n' = (vint u).length ∧ OwnS w' w.heap.size a' c' (vint u) ∧ Kept No w w' := by
  have HU : Hid (W64 u) := hu
  have HV : Hid ((vint u).length ≤ 10) := vint_len10 u hu
  clear hu
  go_enter Tryz.func230, Tryz.ntmps230
  go_wp2
  go_loopw [0, 3] (fun s o wr => ∃ v : Nat, ∃ a' n' c', Hid (W64 v) ∧ s = .int .u64 (v : Int) ∧ o = .slice a' n' c' ∧ Hid (∃ zs', n' = zs'.length ∧ OwnS wr w.heap.size a' c' zs' ∧ zs' ++ vint v = vint u) ∧ Hid (Kept No w wr)) (fun s _ _ => (intOf s).toNat)
  case atStart => exact ⟨u, none, 0, 0, HU, rfl, rfl, ⟨[], rfl, OwnS.nil _ _, rfl⟩, Kept.refl _ _⟩
  case round =>
    obtain ⟨v, a1, n1, c1, HV2, rfl, rfl, HR, HK⟩ := hrel
    obtain ⟨zs1, hn1, ho1, he1⟩ := HR.out
    have HN1 : Hid (n1 = zs1.length) := hn1
    have HO1 : Hid (OwnS wr w.heap.size a1 c1 zs1) := ho1
    have HE1 : Hid (zs1 ++ vint v = vint u) := he1
    clear hn1 ho1 he1 HR
    by_cases hlt : v < 128
    · have h2 : ¬ (127 : Int) < (v : Int) := by omega
      have hn : n1 ≤ 10 := by have h1 := congrArg List.length HE1.out; have := HV.out; have := HN1.out; rw [List.length_append] at h1; omega
      go_wp2_with (at_builtin; go_must (refine wp_appB _ Tryz.underlying35 Tryz.info5 rfl _ _ rfl w.heap.size _ _ _ zs1 rfl HN1.out.symm (HO1.out.no ((Kept.refl _ _).alloc _)) _ _ _ [(v : Int)] rfl rfl (one_own _ _).bytes (fun e => by cases e) (by omega) (by have := HK.out.size; simp; omega) ?_; intro a2 c2 w2 HO2 HK2 HM2))
      go_ret
      exact ⟨a2, _, c2, rfl, by rw [← HE1.out, vint_lo hlt, HN1.out]; simp, by rw [← HE1.out, vint_lo hlt]; exact HO2.out, (HK.out.alloc _).fresh HK2.out (fun i e => HO1.out.base e)⟩
    · have h2 : (127 : Int) < (v : Int) := by omega
      have h3 : (v : Int) ≤ 18446744073709551615 := by have := HV2.out; unfold W64 at this; omega
      have hb := and127 v HV2.out
      have hn : n1 ≤ 10 := by have h1 := congrArg List.length HE1.out; have := HV.out; have := HN1.out; rw [List.length_append] at h1; omega
      go_wp2_with (at_builtin; go_must (refine wp_appB _ Tryz.underlying35 Tryz.info5 rfl _ _ rfl w.heap.size _ _ _ zs1 rfl HN1.out.symm (HO1.out.no ((Kept.refl _ _).alloc _)) _ _ _ [(v : Int) % 128 + 128] rfl rfl (one_own _ _).bytes (fun e => by cases e) (by omega) (by have := HK.out.size; simp; omega) ?_; intro a2 c2 w2 HO2 HK2 HM2))
      have HF : Hid (∃ zs', n1 + 1 = zs'.length ∧ OwnS w2 w.heap.size a2 c2 zs' ∧ zs' ++ vint (v / 128) = vint u) := ⟨_, by rw [HN1.out]; simp, HO2.out, by rw [← HE1.out, vint_hi hlt]; simp⟩
      have HK3 : Hid (Kept No w w2) := (HK.out.alloc _).fresh HK2.out (fun i e => HO1.out.base e)
      go_roundw
      case rel => exact ⟨v / 128, a2, n1 + 1, c2, HV2.out.div 128, by go_num, rfl, HF, HK3⟩
      case measure => simp [intOf]; omega
structure Item where
  k : Int
  n : Int
  a : Option Addr
  m : Nat
  c : Nat
  zs : List Int
def Item.val (x : Item) : Value := .agg #[.int .i64 x.k, .int .i64 x.n, .slice x.a x.m x.c]
structure ItOk (w : World) (x : Item) : Prop where
  sl : Sl w x.a x.m x.c x.zs
  lo : -9223372036854775808 ≤ x.n
  hi : x.n ≤ 9223372036854775807
theorem ItOk.no {w w' : World} {x : Item} (h : ItOk w x) (hk : Kept No w w') : ItOk w' x := ⟨h.sl.no hk, h.lo, h.hi⟩
def Its (w : World) (a : Option Addr) (xs : List Item) : Prop := ∀ (i : Nat) x, xs[i]? = some x → ∃ b off, a = some ⟨b, off, none⟩ ∧
  w.cell? ⟨b, off + i * 3, none⟩ = some (.int .i64 x.k) ∧ w.cell? ⟨b, off + i * 3 + 1, none⟩ = some (.int .i64 x.n) ∧ w.cell? ⟨b, off + i * 3 + 2, none⟩ = some (.slice x.a x.m x.c)
theorem Its.kept {S : Nat → Prop} {w w' : World} {a : Option Addr} {xs : List Item} (h : Its w a xs) (hk : Kept S w w') (hS : ∀ k, At a k → ¬ S k) : Its w' a xs := by
  intro i x hx
  obtain ⟨b, off, rfl, h1, h2, h3⟩ := h i x hx
  exact ⟨b, off, rfl, hk.cell h1 (hS b ⟨_, rfl, rfl⟩), hk.cell h2 (hS b ⟨_, rfl, rfl⟩), hk.cell h3 (hS b ⟨_, rfl, rfl⟩)⟩
theorem Its.no {w w' : World} {a : Option Addr} {xs : List Item} (h : Its w a xs) (hk : Kept No w w') : Its w' a xs := h.kept hk (fun _ _ e => e)
def putOf (x : Item) : List Int := if x.k = 1 then vint x.n.toNat else if x.k = 2 then vint (zz x.n) else vint x.zs.length ++ x.zs
end Go.Proofs.YtgdnofacgfjaeaaGreat.Wi
