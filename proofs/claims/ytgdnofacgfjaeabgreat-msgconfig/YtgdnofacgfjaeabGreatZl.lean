import Derived.Test.YtgdnofacgfjaeabGreatZk
import Derived.Test.YtgdnofacgfjaeabGreatT
import Derived.Test.YtgdnofacgfjaeabGreatCh
namespace Go.Proofs.YtgdnofacgfjaeabGreat
open Go.RowKit
set_option linter.unusedVariables false

set_option maxRecDepth 100000 in
set_option maxHeartbeats 2000000 in
/-- What is refused. -/
theorem packMsg_no (cs : Array Value) (hcs : cs.size = 30) (gv : Value) (r e0 : Int) (he0 : e0 ≠ 0) (sa : Option Addr) (sn sc : Nat) (zs : List Int) (f p bu bl ro : Int) (w : World)
    (hJ : ∀ W, Kept No w W → Calls Tryz.prog 62 #[.agg cs, cfgV (.slice sa sn sc) f p bu bl ro, FV 55, .int .i64 r] W fun e w' => e = .returned (.int .i64 e0) ∧ Kept No W w') :
    Calls Tryz.prog 54 #[.agg cs, cfgV (.slice sa sn sc) f p bu bl ro, FV 55, gv, .int .i64 r] w fun e w' => e = .returned (.tuple #[.slice none 0 0, .int .i64 e0]) ∧ Kept No w w' := by
  have HJ : Hid (∀ W, Kept No w W → Calls Tryz.prog 62 #[.agg cs, cfgV (.slice sa sn sc) f p bu bl ro, FV 55, .int .i64 r] W fun e w' => e = .returned (.int .i64 e0) ∧ Kept No W w') := hJ
  have HS : Hid (cs.size = 30) := hcs
  clear hJ hcs
  have TB : Hid (1 = 1) := rfl
  obtain ⟨w0, hw0⟩ : ∃ w0, w0 = w.alloc (.cells cs 71) := ⟨_, rfl⟩
  have HK0 : Hid (Kept No w w0) := by rw [hw0]; exact (Kept.refl No w).alloc _
  have HM0 : Hid (Box w0 w.heap.size 71 cs) := by rw [hw0]; exact Box.new _ _ _
  go_enter Tryz.func54, Tryz.ntmps54
  go_upto_region 1 with (have hguard := TB; clear hguard; refine wp_boxV rfl 71 _ rfl cs rfl w.heap.size rfl ?_; rw [← hw0]; clear hw0 TB)
  obtain ⟨w1, hw1⟩ : ∃ w1, w1 = w0.alloc (.cells #[.slice sa sn sc, .int .i64 f, .int .i64 p, .int .i64 bu, .int .i64 bl, .int .i64 ro] 24) := ⟨_, rfl⟩
  rw [← hw1]
  have hk1 : Kept No w0 w1 := by rw [hw1]; exact (Kept.refl No w0).alloc _
  have HC1 : Hid (Box w1 w0.heap.size 24 #[.slice sa sn sc, .int .i64 f, .int .i64 p, .int .i64 bu, .int .i64 bl, .int .i64 ro]) := by rw [hw1]; exact Box.new _ _ _
  have HK1 : Hid (Kept No w w1) := HK0.out.then hk1
  have HM1 : Hid (Box w1 w.heap.size 71 cs) := HM0.out.kept hk1 (fun e => e)
  clear hw1 hk1 HM0 HK0
  have q0 := HC1.out.cell 0
  have q1 := HC1.out.cell 1
  have q2 := HC1.out.cell 2
  have q3 := HC1.out.cell 3
  have q4 := HC1.out.cell 4
  have q5 := HC1.out.cell 5
  simp at q0 q1 q2 q3 q4 q5
  have TL : Hid (1 = 1) := rfl
  go_wp2_with (have hguard := TL; clear hguard; refine wp_load71 rfl _ rfl w.heap.size cs rfl HS.out HM1.out ?_; clear TL)
  refine (HJ.out _ HK1.out).mono ?_
  rintro e w2 ⟨rfl, hk2⟩
  have HK2 : Hid (Kept No w w2) := HK1.out.then hk2
  clear hk2 q0 q1 q2 q3 q4 q5 HC1 HM1
  go_wp2
  go_ret2
  exact ⟨rfl, HK2.out⟩

set_option maxRecDepth 100000 in
set_option maxHeartbeats 4000000 in
theorem packMsg_all (cs : Array Value) (hcs : cs.size = 30) (r : Int) (sa : Option Addr) (sn sc : Nat) (zs : List Int) (f p bu bl ro : Int) (body : List Int) (w : World) (hbl : body.length ≤ 131072) (hb8 : U8 body)
    (hJ : ∀ W, Kept No w W → Calls Tryz.prog 62 #[.agg cs, cfgV (.slice sa sn sc) f p bu bl ro, FV 55, .int .i64 r] W fun e w' => e = .returned (.int .i64 0) ∧ Kept No W w')
    (hP : ∀ W g, Kept No w W → Ws W w.heap.size g none 0 (some []) → Calls Tryz.prog 56 #[.pointer (some ⟨g, 0, none⟩), .agg cs] W (Puts W w.heap.size g none (some body))) :
    Calls Tryz.prog 54 #[.agg cs, cfgV (.slice sa sn sc) f p bu bl ro, FV 55, FV 56, .int .i64 r] w fun e w' => ∃ a' c', e = .returned (.tuple #[.slice a' (body.length + 12) c', .int .i64 0]) ∧ OwnS w' w.heap.size a' c' (sealOf body) ∧ Kept No w w' := by
  have HJ : Hid (∀ W, Kept No w W → Calls Tryz.prog 62 #[.agg cs, cfgV (.slice sa sn sc) f p bu bl ro, FV 55, .int .i64 r] W fun e w' => e = .returned (.int .i64 0) ∧ Kept No W w') := hJ
  have HP : Hid (∀ W g, Kept No w W → Ws W w.heap.size g none 0 (some []) → Calls Tryz.prog 56 #[.pointer (some ⟨g, 0, none⟩), .agg cs] W (Puts W w.heap.size g none (some body))) := hP
  have HS : Hid (cs.size = 30) := hcs
  have HB : Hid (body.length ≤ 131072 ∧ U8 body) := ⟨hbl, hb8⟩
  clear hJ hcs hP hbl hb8
  have TB : Hid (1 = 1) := rfl
  obtain ⟨w0, hw0⟩ : ∃ w0, w0 = w.alloc (.cells cs 71) := ⟨_, rfl⟩
  have HK0 : Hid (Kept No w w0) := by rw [hw0]; exact (Kept.refl No w).alloc _
  have HM0 : Hid (Box w0 w.heap.size 71 cs) := by rw [hw0]; exact Box.new _ _ _
  go_enter Tryz.func54, Tryz.ntmps54
  go_upto_region 1 with (have hguard := TB; clear hguard; refine wp_boxV rfl 71 _ rfl cs rfl w.heap.size rfl ?_; rw [← hw0]; clear hw0 TB)
  obtain ⟨w1, hw1⟩ : ∃ w1, w1 = w0.alloc (.cells #[.slice sa sn sc, .int .i64 f, .int .i64 p, .int .i64 bu, .int .i64 bl, .int .i64 ro] 24) := ⟨_, rfl⟩
  rw [← hw1]
  have hk1 : Kept No w0 w1 := by rw [hw1]; exact (Kept.refl No w0).alloc _
  have HC1 : Hid (Box w1 w0.heap.size 24 #[.slice sa sn sc, .int .i64 f, .int .i64 p, .int .i64 bu, .int .i64 bl, .int .i64 ro]) := by rw [hw1]; exact Box.new _ _ _
  have HK1 : Hid (Kept No w w1) := HK0.out.then hk1
  have HM1 : Hid (Box w1 w.heap.size 71 cs) := HM0.out.kept hk1 (fun e => e)
  clear hw1 hk1 HM0 HK0
  have q0 := HC1.out.cell 0
  have q1 := HC1.out.cell 1
  have q2 := HC1.out.cell 2
  have q3 := HC1.out.cell 3
  have q4 := HC1.out.cell 4
  have q5 := HC1.out.cell 5
  simp at q0 q1 q2 q3 q4 q5
  have TL : Hid (1 = 1) := rfl
  go_wp2_with (have hguard := TL; clear hguard; refine wp_load71 rfl _ rfl w.heap.size cs rfl HS.out HM1.out ?_; clear TL)
  refine (HJ.out _ HK1.out).mono ?_
  rintro e w2 ⟨rfl, hk2⟩
  have HK2 : Hid (Kept No w w2) := HK1.out.then hk2
  have HM2 : Hid (Box w2 w.heap.size 71 cs) := HM1.out.kept hk2 (fun e => e)
  clear hk2 q0 q1 q2 q3 q4 q5 HC1 HM1 HJ
  -- the writer
  obtain ⟨w3, hw3⟩ : ∃ w3, w3 = w2.alloc (.cells #[.slice none 0 0, .bool false] 128) := ⟨_, rfl⟩
  have hk3 : Kept No w2 w3 := by rw [hw3]; exact (Kept.refl No w2).alloc _
  have hB3 : Box w3 w2.heap.size 128 #[.slice none 0 0, .bool false] := by rw [hw3]; exact Box.new _ _ _
  have HK3 : Hid (Kept No w w3) := HK2.out.then hk3
  have HM3 : Hid (Box w3 w.heap.size 71 cs) := HM2.out.kept hk3 (fun e => e)
  have HW3 : Hid (Ws w3 w.heap.size w2.heap.size none 0 (some [])) := by
    show Wr _ _ _ _ _ _ _
    exact ⟨hB3, OwnS.nil _ _, HK2.out.size⟩
  have TL : Hid (1 = 1) := rfl
  clear hk3 hB3 HM2
  go_upto_region 5 with fail
  rw [← hw3]
  clear hw3
  go_wp2_with (have hguard := TL; clear hguard; refine wp_load71 rfl _ rfl w.heap.size cs rfl HS.out HM3.out ?_; clear TL)
  refine (HP.out w3 _ HK3.out HW3.out).mono ?_
  rintro e w4 ⟨rfl, a4, c4, hw4, hk4, hm4⟩
  have HK4 : Hid (Kept No w w4) := HK3.out.fresh hk4 (fun i hi => HW3.out.base hi)
  have HD : Hid (Calls Tryz.prog 72 #[.pointer (some ⟨w2.heap.size, 0, none⟩)] w4 fun e w' => ∃ a' n' c', e = .returned (.tuple #[.slice a' n' c', .int .i64 0]) ∧ n' = body.length ∧ OwnS w' w4.heap.size a' c' body ∧ Kept No w4 w') :=
    Done_all w.heap.size w2.heap.size a4 c4 (some body) w4 hw4 (by have := HB.out.1; show body.length ≤ _; omega)
  clear hw4 hk4 hm4 HW3 HM3 HP HK3 HK2
  go_wp2_with fail
  refine HD.out.mono ?_
  rintro e w5 ⟨a5, n5, c5, rfl, hn5, hO5, hk5⟩
  have HS5 : Hid (Calls Tryz.prog 18 #[.slice a5 n5 c5] w5 fun e w' => ∃ a' c', e = .returned (.slice a' (n5 + 12) c') ∧ OwnS w' w5.heap.size a' c' (sealOf body) ∧ Kept No w5 w') :=
    seal_any a5 n5 c5 body w5 hn5.symm (by have := HB.out.1; omega) hO5.bytes HB.out.2 hO5.nilcap
  have HK5 : Hid (Kept No w w5) := HK4.out.then hk5
  have HN5 : Hid (n5 = body.length) := hn5
  clear hn5 hO5 hk5 HK4 HD
  go_wp2_with fail
  refine HS5.out.mono ?_
  rintro e w6 ⟨a6, c6, rfl, hO6, hk6⟩
  have HF : Hid (OwnS w6 w.heap.size a6 c6 (sealOf body) ∧ Kept No w w6) := ⟨hO6.lower HK5.out.size, HK5.out.then hk6⟩
  clear hO6 hk6
  go_wp2
  go_ret2
  exact ⟨a6, c6, by rw [HN5.out]; rfl, HF.out.1, HF.out.2⟩

set_option maxRecDepth 100000 in
set_option maxHeartbeats 2000000 in
/-- What is refused. -/
theorem packBlock_no (cs : Array Value) (hcs : cs.size = 3) (gv : Value) (r e0 : Int) (he0 : e0 ≠ 0) (sa : Option Addr) (sn sc : Nat) (zs : List Int) (f p bu bl ro : Int) (w : World)
    (hJ : ∀ W, Kept No w W → Calls Tryz.prog 71 #[.agg cs, cfgV (.slice sa sn sc) f p bu bl ro, FV 37, .int .i64 r] W fun e w' => e = .returned (.int .i64 e0) ∧ Kept No W w') :
    Calls Tryz.prog 36 #[.agg cs, cfgV (.slice sa sn sc) f p bu bl ro, FV 37, gv, .int .i64 r] w fun e w' => e = .returned (.tuple #[.slice none 0 0, .int .i64 e0]) ∧ Kept No w w' := by
  have HJ : Hid (∀ W, Kept No w W → Calls Tryz.prog 71 #[.agg cs, cfgV (.slice sa sn sc) f p bu bl ro, FV 37, .int .i64 r] W fun e w' => e = .returned (.int .i64 e0) ∧ Kept No W w') := hJ
  have HS : Hid (cs.size = 3) := hcs
  clear hJ hcs
  have TB : Hid (1 = 1) := rfl
  obtain ⟨w0, hw0⟩ : ∃ w0, w0 = w.alloc (.cells cs 37) := ⟨_, rfl⟩
  have HK0 : Hid (Kept No w w0) := by rw [hw0]; exact (Kept.refl No w).alloc _
  have HM0 : Hid (Box w0 w.heap.size 37 cs) := by rw [hw0]; exact Box.new _ _ _
  go_enter Tryz.func36, Tryz.ntmps36
  go_upto_region 1 with (have hguard := TB; clear hguard; refine wp_boxV rfl 37 _ rfl cs rfl w.heap.size rfl ?_; rw [← hw0]; clear hw0 TB)
  obtain ⟨w1, hw1⟩ : ∃ w1, w1 = w0.alloc (.cells #[.slice sa sn sc, .int .i64 f, .int .i64 p, .int .i64 bu, .int .i64 bl, .int .i64 ro] 24) := ⟨_, rfl⟩
  rw [← hw1]
  have hk1 : Kept No w0 w1 := by rw [hw1]; exact (Kept.refl No w0).alloc _
  have HC1 : Hid (Box w1 w0.heap.size 24 #[.slice sa sn sc, .int .i64 f, .int .i64 p, .int .i64 bu, .int .i64 bl, .int .i64 ro]) := by rw [hw1]; exact Box.new _ _ _
  have HK1 : Hid (Kept No w w1) := HK0.out.then hk1
  have HM1 : Hid (Box w1 w.heap.size 37 cs) := HM0.out.kept hk1 (fun e => e)
  clear hw1 hk1 HM0 HK0
  have q0 := HC1.out.cell 0
  have q1 := HC1.out.cell 1
  have q2 := HC1.out.cell 2
  have q3 := HC1.out.cell 3
  have q4 := HC1.out.cell 4
  have q5 := HC1.out.cell 5
  simp at q0 q1 q2 q3 q4 q5
  have TL : Hid (1 = 1) := rfl
  go_wp2_with (have hguard := TL; clear hguard; refine wp_load37 rfl _ rfl w.heap.size cs rfl HS.out HM1.out ?_; clear TL)
  refine (HJ.out _ HK1.out).mono ?_
  rintro e w2 ⟨rfl, hk2⟩
  have HK2 : Hid (Kept No w w2) := HK1.out.then hk2
  clear hk2 q0 q1 q2 q3 q4 q5 HC1 HM1
  go_wp2
  go_ret2
  exact ⟨rfl, HK2.out⟩

set_option maxRecDepth 100000 in
set_option maxHeartbeats 4000000 in
theorem packBlock_all (cs : Array Value) (hcs : cs.size = 3) (r : Int) (sa : Option Addr) (sn sc : Nat) (zs : List Int) (f p bu bl ro : Int) (body : List Int) (w : World) (hbl : body.length ≤ 131072) (hb8 : U8 body)
    (hJ : ∀ W, Kept No w W → Calls Tryz.prog 71 #[.agg cs, cfgV (.slice sa sn sc) f p bu bl ro, FV 37, .int .i64 r] W fun e w' => e = .returned (.int .i64 0) ∧ Kept No W w')
    (hP : ∀ W g, Kept No w W → Ws W w.heap.size g none 0 (some []) → Calls Tryz.prog 38 #[.pointer (some ⟨g, 0, none⟩), .agg cs] W (Puts W w.heap.size g none (some body))) :
    Calls Tryz.prog 36 #[.agg cs, cfgV (.slice sa sn sc) f p bu bl ro, FV 37, FV 38, .int .i64 r] w fun e w' => ∃ a' c', e = .returned (.tuple #[.slice a' (body.length + 12) c', .int .i64 0]) ∧ OwnS w' w.heap.size a' c' (sealOf body) ∧ Kept No w w' := by
  have HJ : Hid (∀ W, Kept No w W → Calls Tryz.prog 71 #[.agg cs, cfgV (.slice sa sn sc) f p bu bl ro, FV 37, .int .i64 r] W fun e w' => e = .returned (.int .i64 0) ∧ Kept No W w') := hJ
  have HP : Hid (∀ W g, Kept No w W → Ws W w.heap.size g none 0 (some []) → Calls Tryz.prog 38 #[.pointer (some ⟨g, 0, none⟩), .agg cs] W (Puts W w.heap.size g none (some body))) := hP
  have HS : Hid (cs.size = 3) := hcs
  have HB : Hid (body.length ≤ 131072 ∧ U8 body) := ⟨hbl, hb8⟩
  clear hJ hcs hP hbl hb8
  have TB : Hid (1 = 1) := rfl
  obtain ⟨w0, hw0⟩ : ∃ w0, w0 = w.alloc (.cells cs 37) := ⟨_, rfl⟩
  have HK0 : Hid (Kept No w w0) := by rw [hw0]; exact (Kept.refl No w).alloc _
  have HM0 : Hid (Box w0 w.heap.size 37 cs) := by rw [hw0]; exact Box.new _ _ _
  go_enter Tryz.func36, Tryz.ntmps36
  go_upto_region 1 with (have hguard := TB; clear hguard; refine wp_boxV rfl 37 _ rfl cs rfl w.heap.size rfl ?_; rw [← hw0]; clear hw0 TB)
  obtain ⟨w1, hw1⟩ : ∃ w1, w1 = w0.alloc (.cells #[.slice sa sn sc, .int .i64 f, .int .i64 p, .int .i64 bu, .int .i64 bl, .int .i64 ro] 24) := ⟨_, rfl⟩
  rw [← hw1]
  have hk1 : Kept No w0 w1 := by rw [hw1]; exact (Kept.refl No w0).alloc _
  have HC1 : Hid (Box w1 w0.heap.size 24 #[.slice sa sn sc, .int .i64 f, .int .i64 p, .int .i64 bu, .int .i64 bl, .int .i64 ro]) := by rw [hw1]; exact Box.new _ _ _
  have HK1 : Hid (Kept No w w1) := HK0.out.then hk1
  have HM1 : Hid (Box w1 w.heap.size 37 cs) := HM0.out.kept hk1 (fun e => e)
  clear hw1 hk1 HM0 HK0
  have q0 := HC1.out.cell 0
  have q1 := HC1.out.cell 1
  have q2 := HC1.out.cell 2
  have q3 := HC1.out.cell 3
  have q4 := HC1.out.cell 4
  have q5 := HC1.out.cell 5
  simp at q0 q1 q2 q3 q4 q5
  have TL : Hid (1 = 1) := rfl
  go_wp2_with (have hguard := TL; clear hguard; refine wp_load37 rfl _ rfl w.heap.size cs rfl HS.out HM1.out ?_; clear TL)
  refine (HJ.out _ HK1.out).mono ?_
  rintro e w2 ⟨rfl, hk2⟩
  have HK2 : Hid (Kept No w w2) := HK1.out.then hk2
  have HM2 : Hid (Box w2 w.heap.size 37 cs) := HM1.out.kept hk2 (fun e => e)
  clear hk2 q0 q1 q2 q3 q4 q5 HC1 HM1 HJ
  -- the writer
  obtain ⟨w3, hw3⟩ : ∃ w3, w3 = w2.alloc (.cells #[.slice none 0 0, .bool false] 128) := ⟨_, rfl⟩
  have hk3 : Kept No w2 w3 := by rw [hw3]; exact (Kept.refl No w2).alloc _
  have hB3 : Box w3 w2.heap.size 128 #[.slice none 0 0, .bool false] := by rw [hw3]; exact Box.new _ _ _
  have HK3 : Hid (Kept No w w3) := HK2.out.then hk3
  have HM3 : Hid (Box w3 w.heap.size 37 cs) := HM2.out.kept hk3 (fun e => e)
  have HW3 : Hid (Ws w3 w.heap.size w2.heap.size none 0 (some [])) := by
    show Wr _ _ _ _ _ _ _
    exact ⟨hB3, OwnS.nil _ _, HK2.out.size⟩
  have TL : Hid (1 = 1) := rfl
  clear hk3 hB3 HM2
  go_upto_region 5 with fail
  rw [← hw3]
  clear hw3
  go_wp2_with (have hguard := TL; clear hguard; refine wp_load37 rfl _ rfl w.heap.size cs rfl HS.out HM3.out ?_; clear TL)
  refine (HP.out w3 _ HK3.out HW3.out).mono ?_
  rintro e w4 ⟨rfl, a4, c4, hw4, hk4, hm4⟩
  have HK4 : Hid (Kept No w w4) := HK3.out.fresh hk4 (fun i hi => HW3.out.base hi)
  have HD : Hid (Calls Tryz.prog 72 #[.pointer (some ⟨w2.heap.size, 0, none⟩)] w4 fun e w' => ∃ a' n' c', e = .returned (.tuple #[.slice a' n' c', .int .i64 0]) ∧ n' = body.length ∧ OwnS w' w4.heap.size a' c' body ∧ Kept No w4 w') :=
    Done_all w.heap.size w2.heap.size a4 c4 (some body) w4 hw4 (by have := HB.out.1; show body.length ≤ _; omega)
  clear hw4 hk4 hm4 HW3 HM3 HP HK3 HK2
  go_wp2_with fail
  refine HD.out.mono ?_
  rintro e w5 ⟨a5, n5, c5, rfl, hn5, hO5, hk5⟩
  have HS5 : Hid (Calls Tryz.prog 18 #[.slice a5 n5 c5] w5 fun e w' => ∃ a' c', e = .returned (.slice a' (n5 + 12) c') ∧ OwnS w' w5.heap.size a' c' (sealOf body) ∧ Kept No w5 w') :=
    seal_any a5 n5 c5 body w5 hn5.symm (by have := HB.out.1; omega) hO5.bytes HB.out.2 hO5.nilcap
  have HK5 : Hid (Kept No w w5) := HK4.out.then hk5
  have HN5 : Hid (n5 = body.length) := hn5
  clear hn5 hO5 hk5 HK4 HD
  go_wp2_with fail
  refine HS5.out.mono ?_
  rintro e w6 ⟨a6, c6, rfl, hO6, hk6⟩
  have HF : Hid (OwnS w6 w.heap.size a6 c6 (sealOf body) ∧ Kept No w w6) := ⟨hO6.lower HK5.out.size, HK5.out.then hk6⟩
  clear hO6 hk6
  go_wp2
  go_ret2
  exact ⟨a6, c6, by rw [HN5.out]; rfl, HF.out.1, HF.out.2⟩

set_option maxRecDepth 100000 in
set_option maxHeartbeats 2000000 in
/-- What is refused. -/
theorem packInst_no (cs : Array Value) (hcs : cs.size = 14) (gv : Value) (r e0 : Int) (he0 : e0 ≠ 0) (sa : Option Addr) (sn sc : Nat) (zs : List Int) (f p bu bl ro : Int) (w : World)
    (hJ : ∀ W, Kept No w W → Calls Tryz.prog 84 #[.agg cs, cfgV (.slice sa sn sc) f p bu bl ro, FV 42, .int .i64 r] W fun e w' => e = .returned (.int .i64 e0) ∧ Kept No W w') :
    Calls Tryz.prog 41 #[.agg cs, cfgV (.slice sa sn sc) f p bu bl ro, FV 42, gv, .int .i64 r] w fun e w' => e = .returned (.tuple #[.slice none 0 0, .int .i64 e0]) ∧ Kept No w w' := by
  have HJ : Hid (∀ W, Kept No w W → Calls Tryz.prog 84 #[.agg cs, cfgV (.slice sa sn sc) f p bu bl ro, FV 42, .int .i64 r] W fun e w' => e = .returned (.int .i64 e0) ∧ Kept No W w') := hJ
  have HS : Hid (cs.size = 14) := hcs
  clear hJ hcs
  have TB : Hid (1 = 1) := rfl
  obtain ⟨w0, hw0⟩ : ∃ w0, w0 = w.alloc (.cells cs 47) := ⟨_, rfl⟩
  have HK0 : Hid (Kept No w w0) := by rw [hw0]; exact (Kept.refl No w).alloc _
  have HM0 : Hid (Box w0 w.heap.size 47 cs) := by rw [hw0]; exact Box.new _ _ _
  go_enter Tryz.func41, Tryz.ntmps41
  go_upto_region 1 with (have hguard := TB; clear hguard; refine wp_boxV rfl 47 _ rfl cs rfl w.heap.size rfl ?_; rw [← hw0]; clear hw0 TB)
  obtain ⟨w1, hw1⟩ : ∃ w1, w1 = w0.alloc (.cells #[.slice sa sn sc, .int .i64 f, .int .i64 p, .int .i64 bu, .int .i64 bl, .int .i64 ro] 24) := ⟨_, rfl⟩
  rw [← hw1]
  have hk1 : Kept No w0 w1 := by rw [hw1]; exact (Kept.refl No w0).alloc _
  have HC1 : Hid (Box w1 w0.heap.size 24 #[.slice sa sn sc, .int .i64 f, .int .i64 p, .int .i64 bu, .int .i64 bl, .int .i64 ro]) := by rw [hw1]; exact Box.new _ _ _
  have HK1 : Hid (Kept No w w1) := HK0.out.then hk1
  have HM1 : Hid (Box w1 w.heap.size 47 cs) := HM0.out.kept hk1 (fun e => e)
  clear hw1 hk1 HM0 HK0
  have q0 := HC1.out.cell 0
  have q1 := HC1.out.cell 1
  have q2 := HC1.out.cell 2
  have q3 := HC1.out.cell 3
  have q4 := HC1.out.cell 4
  have q5 := HC1.out.cell 5
  simp at q0 q1 q2 q3 q4 q5
  have TL : Hid (1 = 1) := rfl
  go_wp2_with (have hguard := TL; clear hguard; refine wp_load47 rfl _ rfl w.heap.size cs rfl HS.out HM1.out ?_; clear TL)
  refine (HJ.out _ HK1.out).mono ?_
  rintro e w2 ⟨rfl, hk2⟩
  have HK2 : Hid (Kept No w w2) := HK1.out.then hk2
  clear hk2 q0 q1 q2 q3 q4 q5 HC1 HM1
  go_wp2
  go_ret2
  exact ⟨rfl, HK2.out⟩

set_option maxRecDepth 100000 in
set_option maxHeartbeats 4000000 in
theorem packInst_all (cs : Array Value) (hcs : cs.size = 14) (r : Int) (sa : Option Addr) (sn sc : Nat) (zs : List Int) (f p bu bl ro : Int) (body : List Int) (w : World) (hbl : body.length ≤ 131072) (hb8 : U8 body)
    (hJ : ∀ W, Kept No w W → Calls Tryz.prog 84 #[.agg cs, cfgV (.slice sa sn sc) f p bu bl ro, FV 42, .int .i64 r] W fun e w' => e = .returned (.int .i64 0) ∧ Kept No W w')
    (hP : ∀ W g, Kept No w W → Ws W w.heap.size g none 0 (some []) → Calls Tryz.prog 43 #[.pointer (some ⟨g, 0, none⟩), .agg cs] W (Puts W w.heap.size g none (some body))) :
    Calls Tryz.prog 41 #[.agg cs, cfgV (.slice sa sn sc) f p bu bl ro, FV 42, FV 43, .int .i64 r] w fun e w' => ∃ a' c', e = .returned (.tuple #[.slice a' (body.length + 12) c', .int .i64 0]) ∧ OwnS w' w.heap.size a' c' (sealOf body) ∧ Kept No w w' := by
  have HJ : Hid (∀ W, Kept No w W → Calls Tryz.prog 84 #[.agg cs, cfgV (.slice sa sn sc) f p bu bl ro, FV 42, .int .i64 r] W fun e w' => e = .returned (.int .i64 0) ∧ Kept No W w') := hJ
  have HP : Hid (∀ W g, Kept No w W → Ws W w.heap.size g none 0 (some []) → Calls Tryz.prog 43 #[.pointer (some ⟨g, 0, none⟩), .agg cs] W (Puts W w.heap.size g none (some body))) := hP
  have HS : Hid (cs.size = 14) := hcs
  have HB : Hid (body.length ≤ 131072 ∧ U8 body) := ⟨hbl, hb8⟩
  clear hJ hcs hP hbl hb8
  have TB : Hid (1 = 1) := rfl
  obtain ⟨w0, hw0⟩ : ∃ w0, w0 = w.alloc (.cells cs 47) := ⟨_, rfl⟩
  have HK0 : Hid (Kept No w w0) := by rw [hw0]; exact (Kept.refl No w).alloc _
  have HM0 : Hid (Box w0 w.heap.size 47 cs) := by rw [hw0]; exact Box.new _ _ _
  go_enter Tryz.func41, Tryz.ntmps41
  go_upto_region 1 with (have hguard := TB; clear hguard; refine wp_boxV rfl 47 _ rfl cs rfl w.heap.size rfl ?_; rw [← hw0]; clear hw0 TB)
  obtain ⟨w1, hw1⟩ : ∃ w1, w1 = w0.alloc (.cells #[.slice sa sn sc, .int .i64 f, .int .i64 p, .int .i64 bu, .int .i64 bl, .int .i64 ro] 24) := ⟨_, rfl⟩
  rw [← hw1]
  have hk1 : Kept No w0 w1 := by rw [hw1]; exact (Kept.refl No w0).alloc _
  have HC1 : Hid (Box w1 w0.heap.size 24 #[.slice sa sn sc, .int .i64 f, .int .i64 p, .int .i64 bu, .int .i64 bl, .int .i64 ro]) := by rw [hw1]; exact Box.new _ _ _
  have HK1 : Hid (Kept No w w1) := HK0.out.then hk1
  have HM1 : Hid (Box w1 w.heap.size 47 cs) := HM0.out.kept hk1 (fun e => e)
  clear hw1 hk1 HM0 HK0
  have q0 := HC1.out.cell 0
  have q1 := HC1.out.cell 1
  have q2 := HC1.out.cell 2
  have q3 := HC1.out.cell 3
  have q4 := HC1.out.cell 4
  have q5 := HC1.out.cell 5
  simp at q0 q1 q2 q3 q4 q5
  have TL : Hid (1 = 1) := rfl
  go_wp2_with (have hguard := TL; clear hguard; refine wp_load47 rfl _ rfl w.heap.size cs rfl HS.out HM1.out ?_; clear TL)
  refine (HJ.out _ HK1.out).mono ?_
  rintro e w2 ⟨rfl, hk2⟩
  have HK2 : Hid (Kept No w w2) := HK1.out.then hk2
  have HM2 : Hid (Box w2 w.heap.size 47 cs) := HM1.out.kept hk2 (fun e => e)
  clear hk2 q0 q1 q2 q3 q4 q5 HC1 HM1 HJ
  -- the writer
  obtain ⟨w3, hw3⟩ : ∃ w3, w3 = w2.alloc (.cells #[.slice none 0 0, .bool false] 128) := ⟨_, rfl⟩
  have hk3 : Kept No w2 w3 := by rw [hw3]; exact (Kept.refl No w2).alloc _
  have hB3 : Box w3 w2.heap.size 128 #[.slice none 0 0, .bool false] := by rw [hw3]; exact Box.new _ _ _
  have HK3 : Hid (Kept No w w3) := HK2.out.then hk3
  have HM3 : Hid (Box w3 w.heap.size 47 cs) := HM2.out.kept hk3 (fun e => e)
  have HW3 : Hid (Ws w3 w.heap.size w2.heap.size none 0 (some [])) := by
    show Wr _ _ _ _ _ _ _
    exact ⟨hB3, OwnS.nil _ _, HK2.out.size⟩
  have TL : Hid (1 = 1) := rfl
  clear hk3 hB3 HM2
  go_upto_region 5 with fail
  rw [← hw3]
  clear hw3
  go_wp2_with (have hguard := TL; clear hguard; refine wp_load47 rfl _ rfl w.heap.size cs rfl HS.out HM3.out ?_; clear TL)
  refine (HP.out w3 _ HK3.out HW3.out).mono ?_
  rintro e w4 ⟨rfl, a4, c4, hw4, hk4, hm4⟩
  have HK4 : Hid (Kept No w w4) := HK3.out.fresh hk4 (fun i hi => HW3.out.base hi)
  have HD : Hid (Calls Tryz.prog 72 #[.pointer (some ⟨w2.heap.size, 0, none⟩)] w4 fun e w' => ∃ a' n' c', e = .returned (.tuple #[.slice a' n' c', .int .i64 0]) ∧ n' = body.length ∧ OwnS w' w4.heap.size a' c' body ∧ Kept No w4 w') :=
    Done_all w.heap.size w2.heap.size a4 c4 (some body) w4 hw4 (by have := HB.out.1; show body.length ≤ _; omega)
  clear hw4 hk4 hm4 HW3 HM3 HP HK3 HK2
  go_wp2_with fail
  refine HD.out.mono ?_
  rintro e w5 ⟨a5, n5, c5, rfl, hn5, hO5, hk5⟩
  have HS5 : Hid (Calls Tryz.prog 18 #[.slice a5 n5 c5] w5 fun e w' => ∃ a' c', e = .returned (.slice a' (n5 + 12) c') ∧ OwnS w' w5.heap.size a' c' (sealOf body) ∧ Kept No w5 w') :=
    seal_any a5 n5 c5 body w5 hn5.symm (by have := HB.out.1; omega) hO5.bytes HB.out.2 hO5.nilcap
  have HK5 : Hid (Kept No w w5) := HK4.out.then hk5
  have HN5 : Hid (n5 = body.length) := hn5
  clear hn5 hO5 hk5 HK4 HD
  go_wp2_with fail
  refine HS5.out.mono ?_
  rintro e w6 ⟨a6, c6, rfl, hO6, hk6⟩
  have HF : Hid (OwnS w6 w.heap.size a6 c6 (sealOf body) ∧ Kept No w w6) := ⟨hO6.lower HK5.out.size, HK5.out.then hk6⟩
  clear hO6 hk6
  go_wp2
  go_ret2
  exact ⟨a6, c6, by rw [HN5.out]; rfl, HF.out.1, HF.out.2⟩

set_option maxRecDepth 100000 in
set_option maxHeartbeats 2000000 in
/-- What is refused. -/
theorem packBucket_no (cs : Array Value) (hcs : cs.size = 3) (gv : Value) (r e0 : Int) (he0 : e0 ≠ 0) (sa : Option Addr) (sn sc : Nat) (zs : List Int) (f p bu bl ro : Int) (w : World)
    (hJ : ∀ W, Kept No w W → Calls Tryz.prog 49 #[.agg cs, cfgV (.slice sa sn sc) f p bu bl ro, FV 47, .int .i64 r] W fun e w' => e = .returned (.int .i64 e0) ∧ Kept No W w') :
    Calls Tryz.prog 46 #[.agg cs, cfgV (.slice sa sn sc) f p bu bl ro, FV 47, gv, .int .i64 r] w fun e w' => e = .returned (.tuple #[.slice none 0 0, .int .i64 e0]) ∧ Kept No w w' := by
  have HJ : Hid (∀ W, Kept No w W → Calls Tryz.prog 49 #[.agg cs, cfgV (.slice sa sn sc) f p bu bl ro, FV 47, .int .i64 r] W fun e w' => e = .returned (.int .i64 e0) ∧ Kept No W w') := hJ
  have HS : Hid (cs.size = 3) := hcs
  clear hJ hcs
  have TB : Hid (1 = 1) := rfl
  obtain ⟨w0, hw0⟩ : ∃ w0, w0 = w.alloc (.cells cs 54) := ⟨_, rfl⟩
  have HK0 : Hid (Kept No w w0) := by rw [hw0]; exact (Kept.refl No w).alloc _
  have HM0 : Hid (Box w0 w.heap.size 54 cs) := by rw [hw0]; exact Box.new _ _ _
  go_enter Tryz.func46, Tryz.ntmps46
  go_upto_region 1 with (have hguard := TB; clear hguard; refine wp_boxV rfl 54 _ rfl cs rfl w.heap.size rfl ?_; rw [← hw0]; clear hw0 TB)
  obtain ⟨w1, hw1⟩ : ∃ w1, w1 = w0.alloc (.cells #[.slice sa sn sc, .int .i64 f, .int .i64 p, .int .i64 bu, .int .i64 bl, .int .i64 ro] 24) := ⟨_, rfl⟩
  rw [← hw1]
  have hk1 : Kept No w0 w1 := by rw [hw1]; exact (Kept.refl No w0).alloc _
  have HC1 : Hid (Box w1 w0.heap.size 24 #[.slice sa sn sc, .int .i64 f, .int .i64 p, .int .i64 bu, .int .i64 bl, .int .i64 ro]) := by rw [hw1]; exact Box.new _ _ _
  have HK1 : Hid (Kept No w w1) := HK0.out.then hk1
  have HM1 : Hid (Box w1 w.heap.size 54 cs) := HM0.out.kept hk1 (fun e => e)
  clear hw1 hk1 HM0 HK0
  have q0 := HC1.out.cell 0
  have q1 := HC1.out.cell 1
  have q2 := HC1.out.cell 2
  have q3 := HC1.out.cell 3
  have q4 := HC1.out.cell 4
  have q5 := HC1.out.cell 5
  simp at q0 q1 q2 q3 q4 q5
  have TL : Hid (1 = 1) := rfl
  go_wp2_with (have hguard := TL; clear hguard; refine wp_load54 rfl _ rfl w.heap.size cs rfl HS.out HM1.out ?_; clear TL)
  refine (HJ.out _ HK1.out).mono ?_
  rintro e w2 ⟨rfl, hk2⟩
  have HK2 : Hid (Kept No w w2) := HK1.out.then hk2
  clear hk2 q0 q1 q2 q3 q4 q5 HC1 HM1
  go_wp2
  go_ret2
  exact ⟨rfl, HK2.out⟩

set_option maxRecDepth 100000 in
set_option maxHeartbeats 4000000 in
theorem packBucket_all (cs : Array Value) (hcs : cs.size = 3) (r : Int) (sa : Option Addr) (sn sc : Nat) (zs : List Int) (f p bu bl ro : Int) (body : List Int) (w : World) (hbl : body.length ≤ 131072) (hb8 : U8 body)
    (hJ : ∀ W, Kept No w W → Calls Tryz.prog 49 #[.agg cs, cfgV (.slice sa sn sc) f p bu bl ro, FV 47, .int .i64 r] W fun e w' => e = .returned (.int .i64 0) ∧ Kept No W w')
    (hP : ∀ W g, Kept No w W → Ws W w.heap.size g none 0 (some []) → Calls Tryz.prog 48 #[.pointer (some ⟨g, 0, none⟩), .agg cs] W (Puts W w.heap.size g none (some body))) :
    Calls Tryz.prog 46 #[.agg cs, cfgV (.slice sa sn sc) f p bu bl ro, FV 47, FV 48, .int .i64 r] w fun e w' => ∃ a' c', e = .returned (.tuple #[.slice a' (body.length + 12) c', .int .i64 0]) ∧ OwnS w' w.heap.size a' c' (sealOf body) ∧ Kept No w w' := by
  have HJ : Hid (∀ W, Kept No w W → Calls Tryz.prog 49 #[.agg cs, cfgV (.slice sa sn sc) f p bu bl ro, FV 47, .int .i64 r] W fun e w' => e = .returned (.int .i64 0) ∧ Kept No W w') := hJ
  have HP : Hid (∀ W g, Kept No w W → Ws W w.heap.size g none 0 (some []) → Calls Tryz.prog 48 #[.pointer (some ⟨g, 0, none⟩), .agg cs] W (Puts W w.heap.size g none (some body))) := hP
  have HS : Hid (cs.size = 3) := hcs
  have HB : Hid (body.length ≤ 131072 ∧ U8 body) := ⟨hbl, hb8⟩
  clear hJ hcs hP hbl hb8
  have TB : Hid (1 = 1) := rfl
  obtain ⟨w0, hw0⟩ : ∃ w0, w0 = w.alloc (.cells cs 54) := ⟨_, rfl⟩
  have HK0 : Hid (Kept No w w0) := by rw [hw0]; exact (Kept.refl No w).alloc _
  have HM0 : Hid (Box w0 w.heap.size 54 cs) := by rw [hw0]; exact Box.new _ _ _
  go_enter Tryz.func46, Tryz.ntmps46
  go_upto_region 1 with (have hguard := TB; clear hguard; refine wp_boxV rfl 54 _ rfl cs rfl w.heap.size rfl ?_; rw [← hw0]; clear hw0 TB)
  obtain ⟨w1, hw1⟩ : ∃ w1, w1 = w0.alloc (.cells #[.slice sa sn sc, .int .i64 f, .int .i64 p, .int .i64 bu, .int .i64 bl, .int .i64 ro] 24) := ⟨_, rfl⟩
  rw [← hw1]
  have hk1 : Kept No w0 w1 := by rw [hw1]; exact (Kept.refl No w0).alloc _
  have HC1 : Hid (Box w1 w0.heap.size 24 #[.slice sa sn sc, .int .i64 f, .int .i64 p, .int .i64 bu, .int .i64 bl, .int .i64 ro]) := by rw [hw1]; exact Box.new _ _ _
  have HK1 : Hid (Kept No w w1) := HK0.out.then hk1
  have HM1 : Hid (Box w1 w.heap.size 54 cs) := HM0.out.kept hk1 (fun e => e)
  clear hw1 hk1 HM0 HK0
  have q0 := HC1.out.cell 0
  have q1 := HC1.out.cell 1
  have q2 := HC1.out.cell 2
  have q3 := HC1.out.cell 3
  have q4 := HC1.out.cell 4
  have q5 := HC1.out.cell 5
  simp at q0 q1 q2 q3 q4 q5
  have TL : Hid (1 = 1) := rfl
  go_wp2_with (have hguard := TL; clear hguard; refine wp_load54 rfl _ rfl w.heap.size cs rfl HS.out HM1.out ?_; clear TL)
  refine (HJ.out _ HK1.out).mono ?_
  rintro e w2 ⟨rfl, hk2⟩
  have HK2 : Hid (Kept No w w2) := HK1.out.then hk2
  have HM2 : Hid (Box w2 w.heap.size 54 cs) := HM1.out.kept hk2 (fun e => e)
  clear hk2 q0 q1 q2 q3 q4 q5 HC1 HM1 HJ
  -- the writer
  obtain ⟨w3, hw3⟩ : ∃ w3, w3 = w2.alloc (.cells #[.slice none 0 0, .bool false] 128) := ⟨_, rfl⟩
  have hk3 : Kept No w2 w3 := by rw [hw3]; exact (Kept.refl No w2).alloc _
  have hB3 : Box w3 w2.heap.size 128 #[.slice none 0 0, .bool false] := by rw [hw3]; exact Box.new _ _ _
  have HK3 : Hid (Kept No w w3) := HK2.out.then hk3
  have HM3 : Hid (Box w3 w.heap.size 54 cs) := HM2.out.kept hk3 (fun e => e)
  have HW3 : Hid (Ws w3 w.heap.size w2.heap.size none 0 (some [])) := by
    show Wr _ _ _ _ _ _ _
    exact ⟨hB3, OwnS.nil _ _, HK2.out.size⟩
  have TL : Hid (1 = 1) := rfl
  clear hk3 hB3 HM2
  go_upto_region 5 with fail
  rw [← hw3]
  clear hw3
  go_wp2_with (have hguard := TL; clear hguard; refine wp_load54 rfl _ rfl w.heap.size cs rfl HS.out HM3.out ?_; clear TL)
  refine (HP.out w3 _ HK3.out HW3.out).mono ?_
  rintro e w4 ⟨rfl, a4, c4, hw4, hk4, hm4⟩
  have HK4 : Hid (Kept No w w4) := HK3.out.fresh hk4 (fun i hi => HW3.out.base hi)
  have HD : Hid (Calls Tryz.prog 72 #[.pointer (some ⟨w2.heap.size, 0, none⟩)] w4 fun e w' => ∃ a' n' c', e = .returned (.tuple #[.slice a' n' c', .int .i64 0]) ∧ n' = body.length ∧ OwnS w' w4.heap.size a' c' body ∧ Kept No w4 w') :=
    Done_all w.heap.size w2.heap.size a4 c4 (some body) w4 hw4 (by have := HB.out.1; show body.length ≤ _; omega)
  clear hw4 hk4 hm4 HW3 HM3 HP HK3 HK2
  go_wp2_with fail
  refine HD.out.mono ?_
  rintro e w5 ⟨a5, n5, c5, rfl, hn5, hO5, hk5⟩
  have HS5 : Hid (Calls Tryz.prog 18 #[.slice a5 n5 c5] w5 fun e w' => ∃ a' c', e = .returned (.slice a' (n5 + 12) c') ∧ OwnS w' w5.heap.size a' c' (sealOf body) ∧ Kept No w5 w') :=
    seal_any a5 n5 c5 body w5 hn5.symm (by have := HB.out.1; omega) hO5.bytes HB.out.2 hO5.nilcap
  have HK5 : Hid (Kept No w w5) := HK4.out.then hk5
  have HN5 : Hid (n5 = body.length) := hn5
  clear hn5 hO5 hk5 HK4 HD
  go_wp2_with fail
  refine HS5.out.mono ?_
  rintro e w6 ⟨a6, c6, rfl, hO6, hk6⟩
  have HF : Hid (OwnS w6 w.heap.size a6 c6 (sealOf body) ∧ Kept No w w6) := ⟨hO6.lower HK5.out.size, HK5.out.then hk6⟩
  clear hO6 hk6
  go_wp2
  go_ret2
  exact ⟨a6, c6, by rw [HN5.out]; rfl, HF.out.1, HF.out.2⟩

end Go.Proofs.YtgdnofacgfjaeabGreat
