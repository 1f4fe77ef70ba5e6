import Derived.Test.YtgdnofacgfjaeabGreatZx
namespace Go.Proofs.YtgdnofacgfjaeabGreat
open Go.RowKit
set_option linter.unusedVariables false

set_option maxRecDepth 100000 in
set_option maxHeartbeats 16000000 in
theorem config_any (m : MsgD) (sa : Option Addr) (sn sc : Nat) (zs : List Int) (f p bu bl ro : Int) (ba : Option Addr) (bn bc : Nat) (w : World) (h : Cfg w sa sn sc zs) :
    Calls Tryz.prog 5 #[cfgV (.slice sa sn sc) f p bu bl ro, .agg m.cells, .slice ba bn bc] w fun e w' => e = .returned (.bool true) ∧ Kept No w w' := by
  have HC : Hid (Cfg w sa sn sc zs) := h
  clear h
  have TB : Hid (1 = 1) := rfl
  go_enter Tryz.func5, Tryz.ntmps5
  go_upto_region 1 with (have hguard := TB; clear hguard; refine wp_boxV rfl 71 _ rfl m.cells rfl (w.heap.size + 1) (by simp) ?_; clear TB)
  obtain ⟨w0, hw0⟩ : ∃ w0, w0 = (w.alloc (.cells #[.slice sa sn sc, .int .i64 f, .int .i64 p, .int .i64 bu, .int .i64 bl, .int .i64 ro] 24)).alloc (.cells m.cells 71) := ⟨_, rfl⟩
  rw [← hw0]
  have HK0 : Hid (Kept No w w0) := by rw [hw0]; exact ((Kept.refl No w).alloc _).alloc _
  have HG0 : Hid (Box w0 w.heap.size 24 #[.slice sa sn sc, .int .i64 f, .int .i64 p, .int .i64 bu, .int .i64 bl, .int .i64 ro]) := by rw [hw0]; exact (Box.new w 24 _).alloc _
  have HM0 : Hid (MsgAt w0 (w.heap.size + 1) m) := by
    show MsgAt _ _ _
    rw [hw0]
    have := MsgAt.new (w.alloc (.cells #[.slice sa sn sc, .int .i64 f, .int .i64 p, .int .i64 bu, .int .i64 bl, .int .i64 ro] 24)) m
    simpa using this
  clear hw0
  try simp only [Act.put, List.setIfInBounds_toArray, List.set_cons_zero, List.set_cons_succ]
  go_wp2_with fail
  refine (known_any w0).mono ?_
  rintro e w1 ⟨rfl, hk⟩
  have HK1 : Hid (Kept No w w1) := HK0.out.then hk
  have HG1 : Hid (Box w1 w.heap.size 24 #[.slice sa sn sc, .int .i64 f, .int .i64 p, .int .i64 bu, .int .i64 bl, .int .i64 ro]) := HG0.out.kept hk (fun e => e)
  have HM1 : Hid (MsgAt w1 (w.heap.size + 1) m) := HM0.out.no hk
  clear hk HK0 HG0 HM0
  have q0 := HG1.out.cell 0
  have q1 := HG1.out.cell 1
  have q2 := HG1.out.cell 2
  have q3 := HG1.out.cell 3
  have q4 := HG1.out.cell 4
  have q5 := HG1.out.cell 5
  simp at q0 q1 q2 q3 q4 q5
  have HFi : Hid (Calls Tryz.prog 27 #[cfgV (.slice sa sn sc) f p bu bl ro] w1 fun e w' => e = .returned (.bool (cfgB zs f p bu bl ro)) ∧ Kept No w1 w') := by
    have hc := HC.out.no HK1.out
    have := fits_any sa sc zs f p bu bl ro w1 hc.nums
    rw [hc.len] at this
    exact this
  go_wp2_with fail
  refine HFi.out.mono ?_
  rintro e w2 ⟨rfl, hk⟩
  have HK2 : Hid (Kept No w w2) := HK1.out.then hk
  have HG2 : Hid (Box w2 w.heap.size 24 #[.slice sa sn sc, .int .i64 f, .int .i64 p, .int .i64 bu, .int .i64 bl, .int .i64 ro]) := HG1.out.kept hk (fun e => e)
  have HM2 : Hid (MsgAt w2 (w.heap.size + 1) m) := HM1.out.no hk
  clear hk q0 q1 q2 q3 q4 q5 HK1 HG1 HM1
  clear HFi
  obtain ⟨cb, hcb⟩ : ∃ cb, cfgB zs f p bu bl ro = cb := ⟨_, rfl⟩
  rw [hcb]
  cases cb with
  | true =>
    go_wp2
    go_ret
    exact ⟨rfl, HK2.out⟩
  | false =>
  have HNo : Hid (cfgB zs f p bu bl ro = false) := hcb
  clear hcb
  have q0 := HG2.out.cell 0
  have q1 := HG2.out.cell 1
  have q2 := HG2.out.cell 2
  have q3 := HG2.out.cell 3
  have q4 := HG2.out.cell 4
  have q5 := HG2.out.cell 5
  simp at q0 q1 q2 q3 q4 q5
  have TL : Hid (1 = 1) := rfl
  have HE : Hid (Calls Tryz.prog 19 #[.agg m.cells, cfgV (.slice sa sn sc) f p bu bl ro] w2 fun e w' => e = .returned (.tuple #[.slice none 0 0, .int .i64 20]) ∧ Kept No w2 w') := eNoPackMsg m.cells m.size sa sn sc zs f p bu bl ro w2 (HC.out.no HK2.out) HNo.out
  go_wp2_with (have hguard := TL; clear hguard; refine wp_load71 rfl _ rfl (w.heap.size + 1) m.cells rfl m.size HM2.out.box ?_; clear TL)
  refine HE.out.mono ?_
  rintro e w3 ⟨rfl, hk⟩
  have HK3 : Hid (Kept No w w3) := HK2.out.then hk
  have HG3 : Hid (Box w3 w.heap.size 24 #[.slice sa sn sc, .int .i64 f, .int .i64 p, .int .i64 bu, .int .i64 bl, .int .i64 ro]) := HG2.out.kept hk (fun e => e)
  have HM3 : Hid (MsgAt w3 (w.heap.size + 1) m) := HM2.out.no hk
  clear hk q0 q1 q2 q3 q4 q5 HK2 HG2 HM2
  clear HE
  have q0 := HG3.out.cell 0
  have q1 := HG3.out.cell 1
  have q2 := HG3.out.cell 2
  have q3 := HG3.out.cell 3
  have q4 := HG3.out.cell 4
  have q5 := HG3.out.cell 5
  simp at q0 q1 q2 q3 q4 q5
  have HE : Hid (Calls Tryz.prog 21 #[.slice ba bn bc, cfgV (.slice sa sn sc) f p bu bl ro] w3 fun e w' => e = .returned (.tuple #[.agg mZ.cells, .int .i64 20]) ∧ Kept No w3 w') := eNoReadMsg ba bn bc sa sn sc zs f p bu bl ro w3 (HC.out.no HK3.out) HNo.out
  go_wp2_with fail
  refine HE.out.mono ?_
  rintro e w4 ⟨rfl, hk⟩
  have HK4 : Hid (Kept No w w4) := HK3.out.then hk
  have HG4 : Hid (Box w4 w.heap.size 24 #[.slice sa sn sc, .int .i64 f, .int .i64 p, .int .i64 bu, .int .i64 bl, .int .i64 ro]) := HG3.out.kept hk (fun e => e)
  have HM4 : Hid (MsgAt w4 (w.heap.size + 1) m) := HM3.out.no hk
  clear hk q0 q1 q2 q3 q4 q5 HK3 HG3 HM3
  clear HE
  have TA : Hid (1 = 1) := rfl
  have TS : Hid (1 = 1) := rfl
  have HN : Hid (Box (w4.alloc (.cells mZ.cells 71)) w4.heap.size 71 mZ.cells) := Box.new _ _ _
  go_upto_region 8 with (first
    | (have hguard := TA; clear hguard; refine wp_allocT rfl 71 rfl mZ.cells Tryz.info71z w4.heap.size rfl ?_; clear TA)
    | (have hguard := TS; clear hguard; refine wpList_store_row rfl 71 _ _ rfl w4.heap.size mZ.cells (by rfl) (by rfl) 71 mZ.cells HN.out Tryz.size71 (by rfl) mZ.one ?_; clear TS))
  obtain ⟨w5, hw⟩ : ∃ w5, w5 = (w4.alloc (.cells mZ.cells 71)).setRow w4.heap.size mZ.cells := ⟨_, rfl⟩
  rw [← hw]
  have hk : Kept No w4 w5 := by rw [hw]; exact ((Kept.refl No w4).alloc _).fresh (Kept.setRow _ _ _) (fun i e => by unfold Only at e; omega)
  have HK5 : Hid (Kept No w w5) := HK4.out.then hk
  have HG5 : Hid (Box w5 w.heap.size 24 #[.slice sa sn sc, .int .i64 f, .int .i64 p, .int .i64 bu, .int .i64 bl, .int .i64 ro]) := HG4.out.kept hk (fun e => e)
  have HM5 : Hid (MsgAt w5 (w.heap.size + 1) m) := HM4.out.no hk
  clear hk HK4 HG4 HM4
  clear hw HN
  try simp only [Act.put, List.setIfInBounds_toArray, List.set_cons_zero, List.set_cons_succ]
  have q0 := HG5.out.cell 0
  have q1 := HG5.out.cell 1
  have q2 := HG5.out.cell 2
  have q3 := HG5.out.cell 3
  have q4 := HG5.out.cell 4
  have q5 := HG5.out.cell 5
  simp at q0 q1 q2 q3 q4 q5
  have HE : Hid (Calls Tryz.prog 8 #[.agg zB, cfgV (.slice sa sn sc) f p bu bl ro] w5 fun e w' => e = .returned (.tuple #[.slice none 0 0, .int .i64 20]) ∧ Kept No w5 w') := eNoPackBlock zB rfl sa sn sc zs f p bu bl ro w5 (HC.out.no HK5.out) HNo.out
  go_wp2_with fail
  refine HE.out.mono ?_
  rintro e w6 ⟨rfl, hk⟩
  have HK6 : Hid (Kept No w w6) := HK5.out.then hk
  have HG6 : Hid (Box w6 w.heap.size 24 #[.slice sa sn sc, .int .i64 f, .int .i64 p, .int .i64 bu, .int .i64 bl, .int .i64 ro]) := HG5.out.kept hk (fun e => e)
  have HM6 : Hid (MsgAt w6 (w.heap.size + 1) m) := HM5.out.no hk
  clear hk q0 q1 q2 q3 q4 q5 HK5 HG5 HM5
  clear HE
  have q0 := HG6.out.cell 0
  have q1 := HG6.out.cell 1
  have q2 := HG6.out.cell 2
  have q3 := HG6.out.cell 3
  have q4 := HG6.out.cell 4
  have q5 := HG6.out.cell 5
  simp at q0 q1 q2 q3 q4 q5
  have HE : Hid (Calls Tryz.prog 9 #[.slice ba bn bc, cfgV (.slice sa sn sc) f p bu bl ro] w6 fun e w' => e = .returned (.tuple #[.agg zB, .int .i64 20]) ∧ Kept No w6 w') := eNoReadBlock ba bn bc sa sn sc zs f p bu bl ro w6 (HC.out.no HK6.out) HNo.out
  go_wp2_with fail
  refine HE.out.mono ?_
  rintro e w7 ⟨rfl, hk⟩
  have HK7 : Hid (Kept No w w7) := HK6.out.then hk
  have HG7 : Hid (Box w7 w.heap.size 24 #[.slice sa sn sc, .int .i64 f, .int .i64 p, .int .i64 bu, .int .i64 bl, .int .i64 ro]) := HG6.out.kept hk (fun e => e)
  have HM7 : Hid (MsgAt w7 (w.heap.size + 1) m) := HM6.out.no hk
  clear hk q0 q1 q2 q3 q4 q5 HK6 HG6 HM6
  clear HE
  have TA : Hid (1 = 1) := rfl
  have TS : Hid (1 = 1) := rfl
  have HN : Hid (Box (w7.alloc (.cells zB 37)) w7.heap.size 37 zB) := Box.new _ _ _
  go_upto_region 10 with (first
    | (have hguard := TA; clear hguard; refine wp_allocT rfl 37 rfl zB Tryz.info37z w7.heap.size rfl ?_; clear TA)
    | (have hguard := TS; clear hguard; refine wpList_store_row rfl 37 _ _ rfl w7.heap.size zB (by rfl) (by rfl) 37 zB HN.out Tryz.size37 (by rfl) zB_one ?_; clear TS))
  obtain ⟨w8, hw⟩ : ∃ w8, w8 = (w7.alloc (.cells zB 37)).setRow w7.heap.size zB := ⟨_, rfl⟩
  rw [← hw]
  have hk : Kept No w7 w8 := by rw [hw]; exact ((Kept.refl No w7).alloc _).fresh (Kept.setRow _ _ _) (fun i e => by unfold Only at e; omega)
  have HK8 : Hid (Kept No w w8) := HK7.out.then hk
  have HG8 : Hid (Box w8 w.heap.size 24 #[.slice sa sn sc, .int .i64 f, .int .i64 p, .int .i64 bu, .int .i64 bl, .int .i64 ro]) := HG7.out.kept hk (fun e => e)
  have HM8 : Hid (MsgAt w8 (w.heap.size + 1) m) := HM7.out.no hk
  clear hk HK7 HG7 HM7
  clear hw HN
  try simp only [Act.put, List.setIfInBounds_toArray, List.set_cons_zero, List.set_cons_succ]
  have q0 := HG8.out.cell 0
  have q1 := HG8.out.cell 1
  have q2 := HG8.out.cell 2
  have q3 := HG8.out.cell 3
  have q4 := HG8.out.cell 4
  have q5 := HG8.out.cell 5
  simp at q0 q1 q2 q3 q4 q5
  have HE : Hid (Calls Tryz.prog 11 #[.agg zI, cfgV (.slice sa sn sc) f p bu bl ro] w8 fun e w' => e = .returned (.tuple #[.slice none 0 0, .int .i64 20]) ∧ Kept No w8 w') := eNoPackInst zI rfl sa sn sc zs f p bu bl ro w8 (HC.out.no HK8.out) HNo.out
  go_wp2_with fail
  refine HE.out.mono ?_
  rintro e w9 ⟨rfl, hk⟩
  have HK9 : Hid (Kept No w w9) := HK8.out.then hk
  have HG9 : Hid (Box w9 w.heap.size 24 #[.slice sa sn sc, .int .i64 f, .int .i64 p, .int .i64 bu, .int .i64 bl, .int .i64 ro]) := HG8.out.kept hk (fun e => e)
  have HM9 : Hid (MsgAt w9 (w.heap.size + 1) m) := HM8.out.no hk
  clear hk q0 q1 q2 q3 q4 q5 HK8 HG8 HM8
  clear HE
  have q0 := HG9.out.cell 0
  have q1 := HG9.out.cell 1
  have q2 := HG9.out.cell 2
  have q3 := HG9.out.cell 3
  have q4 := HG9.out.cell 4
  have q5 := HG9.out.cell 5
  simp at q0 q1 q2 q3 q4 q5
  have HE : Hid (Calls Tryz.prog 12 #[.slice ba bn bc, cfgV (.slice sa sn sc) f p bu bl ro] w9 fun e w' => e = .returned (.tuple #[.agg zI, .int .i64 20]) ∧ Kept No w9 w') := eNoReadInst ba bn bc sa sn sc zs f p bu bl ro w9 (HC.out.no HK9.out) HNo.out
  go_wp2_with fail
  refine HE.out.mono ?_
  rintro e w10 ⟨rfl, hk⟩
  have HK10 : Hid (Kept No w w10) := HK9.out.then hk
  have HG10 : Hid (Box w10 w.heap.size 24 #[.slice sa sn sc, .int .i64 f, .int .i64 p, .int .i64 bu, .int .i64 bl, .int .i64 ro]) := HG9.out.kept hk (fun e => e)
  have HM10 : Hid (MsgAt w10 (w.heap.size + 1) m) := HM9.out.no hk
  clear hk q0 q1 q2 q3 q4 q5 HK9 HG9 HM9
  clear HE
  have TA : Hid (1 = 1) := rfl
  have TS : Hid (1 = 1) := rfl
  have HN : Hid (Box (w10.alloc (.cells zI 47)) w10.heap.size 47 zI) := Box.new _ _ _
  go_upto_region 12 with (first
    | (have hguard := TA; clear hguard; refine wp_allocT rfl 47 rfl zI Tryz.info47z w10.heap.size rfl ?_; clear TA)
    | (have hguard := TS; clear hguard; refine wpList_store_row rfl 47 _ _ rfl w10.heap.size zI (by rfl) (by rfl) 47 zI HN.out Tryz.size47 (by rfl) zI_one ?_; clear TS))
  obtain ⟨w11, hw⟩ : ∃ w11, w11 = (w10.alloc (.cells zI 47)).setRow w10.heap.size zI := ⟨_, rfl⟩
  rw [← hw]
  have hk : Kept No w10 w11 := by rw [hw]; exact ((Kept.refl No w10).alloc _).fresh (Kept.setRow _ _ _) (fun i e => by unfold Only at e; omega)
  have HK11 : Hid (Kept No w w11) := HK10.out.then hk
  have HG11 : Hid (Box w11 w.heap.size 24 #[.slice sa sn sc, .int .i64 f, .int .i64 p, .int .i64 bu, .int .i64 bl, .int .i64 ro]) := HG10.out.kept hk (fun e => e)
  have HM11 : Hid (MsgAt w11 (w.heap.size + 1) m) := HM10.out.no hk
  clear hk HK10 HG10 HM10
  clear hw HN
  try simp only [Act.put, List.setIfInBounds_toArray, List.set_cons_zero, List.set_cons_succ]
  have q0 := HG11.out.cell 0
  have q1 := HG11.out.cell 1
  have q2 := HG11.out.cell 2
  have q3 := HG11.out.cell 3
  have q4 := HG11.out.cell 4
  have q5 := HG11.out.cell 5
  simp at q0 q1 q2 q3 q4 q5
  obtain ⟨k0, k1, k2⟩ := HM11.out.bkt
  have HE : Hid (Calls Tryz.prog 13 #[.agg #[.int .i64 m.up, .slice m.ea m.el m.ep, .slice m.la m.ll m.lp], cfgV (.slice sa sn sc) f p bu bl ro] w11 fun e w' => e = .returned (.tuple #[.slice none 0 0, .int .i64 20]) ∧ Kept No w11 w') := eNoPackBucket #[.int .i64 m.up, .slice m.ea m.el m.ep, .slice m.la m.ll m.lp] rfl sa sn sc zs f p bu bl ro w11 (HC.out.no HK11.out) HNo.out
  go_wp2_with fail
  refine HE.out.mono ?_
  rintro e w12 ⟨rfl, hk⟩
  have HK12 : Hid (Kept No w w12) := HK11.out.then hk
  have HG12 : Hid (Box w12 w.heap.size 24 #[.slice sa sn sc, .int .i64 f, .int .i64 p, .int .i64 bu, .int .i64 bl, .int .i64 ro]) := HG11.out.kept hk (fun e => e)
  have HM12 : Hid (MsgAt w12 (w.heap.size + 1) m) := HM11.out.no hk
  clear hk q0 q1 q2 q3 q4 q5 HK11 HG11 HM11
  clear HE k0 k1 k2
  have q0 := HG12.out.cell 0
  have q1 := HG12.out.cell 1
  have q2 := HG12.out.cell 2
  have q3 := HG12.out.cell 3
  have q4 := HG12.out.cell 4
  have q5 := HG12.out.cell 5
  simp at q0 q1 q2 q3 q4 q5
  have HE : Hid (Calls Tryz.prog 15 #[.slice ba bn bc, cfgV (.slice sa sn sc) f p bu bl ro] w12 fun e w' => e = .returned (.tuple #[.agg zK, .int .i64 20]) ∧ Kept No w12 w') := eNoReadBucket ba bn bc sa sn sc zs f p bu bl ro w12 (HC.out.no HK12.out) HNo.out
  go_wp2_with fail
  refine HE.out.mono ?_
  rintro e w13 ⟨rfl, hk⟩
  have HK13 : Hid (Kept No w w13) := HK12.out.then hk
  have HG13 : Hid (Box w13 w.heap.size 24 #[.slice sa sn sc, .int .i64 f, .int .i64 p, .int .i64 bu, .int .i64 bl, .int .i64 ro]) := HG12.out.kept hk (fun e => e)
  have HM13 : Hid (MsgAt w13 (w.heap.size + 1) m) := HM12.out.no hk
  clear hk q0 q1 q2 q3 q4 q5 HK12 HG12 HM12
  clear HE
  have TA : Hid (1 = 1) := rfl
  have TS : Hid (1 = 1) := rfl
  have HN : Hid (Box (w13.alloc (.cells zK 54)) w13.heap.size 54 zK) := Box.new _ _ _
  go_upto_region 14 with (first
    | (have hguard := TA; clear hguard; refine wp_allocT rfl 54 rfl zK Tryz.info54z w13.heap.size rfl ?_; clear TA)
    | (have hguard := TS; clear hguard; refine wpList_store_row rfl 54 _ _ rfl w13.heap.size zK (by rfl) (by rfl) 54 zK HN.out Tryz.size54 (by rfl) zK_one ?_; clear TS))
  obtain ⟨w14, hw⟩ : ∃ w14, w14 = (w13.alloc (.cells zK 54)).setRow w13.heap.size zK := ⟨_, rfl⟩
  rw [← hw]
  have hk : Kept No w13 w14 := by rw [hw]; exact ((Kept.refl No w13).alloc _).fresh (Kept.setRow _ _ _) (fun i e => by unfold Only at e; omega)
  have HK14 : Hid (Kept No w w14) := HK13.out.then hk
  have HG14 : Hid (Box w14 w.heap.size 24 #[.slice sa sn sc, .int .i64 f, .int .i64 p, .int .i64 bu, .int .i64 bl, .int .i64 ro]) := HG13.out.kept hk (fun e => e)
  have HM14 : Hid (MsgAt w14 (w.heap.size + 1) m) := HM13.out.no hk
  clear hk HK13 HG13 HM13
  clear hw HN
  try simp only [Act.put, List.setIfInBounds_toArray, List.set_cons_zero, List.set_cons_succ]
  have q0 := HG14.out.cell 0
  have q1 := HG14.out.cell 1
  have q2 := HG14.out.cell 2
  have q3 := HG14.out.cell 3
  have q4 := HG14.out.cell 4
  have q5 := HG14.out.cell 5
  simp at q0 q1 q2 q3 q4 q5
  have TL : Hid (1 = 1) := rfl
  have HE : Hid (Calls Tryz.prog 28 #[.agg m.cells, cfgV (.slice sa sn sc) f p bu bl ro] w14 fun e w' => e = .returned (.int .i64 20) ∧ Kept No w14 w') := eNoJudgeMsg m.cells m.size sa sn sc zs f p bu bl ro w14 (HC.out.no HK14.out) HNo.out
  go_wp2_with (have hguard := TL; clear hguard; refine wp_load71 rfl _ rfl (w.heap.size + 1) m.cells rfl m.size HM14.out.box ?_; clear TL)
  refine HE.out.mono ?_
  rintro e w15 ⟨rfl, hk⟩
  have HK15 : Hid (Kept No w w15) := HK14.out.then hk
  have HG15 : Hid (Box w15 w.heap.size 24 #[.slice sa sn sc, .int .i64 f, .int .i64 p, .int .i64 bu, .int .i64 bl, .int .i64 ro]) := HG14.out.kept hk (fun e => e)
  have HM15 : Hid (MsgAt w15 (w.heap.size + 1) m) := HM14.out.no hk
  clear hk q0 q1 q2 q3 q4 q5 HK14 HG14 HM14
  clear HE
  have q0 := HG15.out.cell 0
  have q1 := HG15.out.cell 1
  have q2 := HG15.out.cell 2
  have q3 := HG15.out.cell 3
  have q4 := HG15.out.cell 4
  have q5 := HG15.out.cell 5
  simp at q0 q1 q2 q3 q4 q5
  obtain ⟨c0, c1, c2, c3, c4, c5, c6, c7, c8⟩ := HM15.out.cmd
  have HE : Hid (Calls Tryz.prog 29 #[.agg #[.int .i64 m.ck, .int .i64 m.cc, .int .i64 m.co, .string m.cn, .int .i64 m.fc1, .int .i64 m.fo1, .int .i64 m.fc2, .int .i64 m.fo2, .int .i64 m.cz], cfgV (.slice sa sn sc) f p bu bl ro] w15 fun e w' => e = .returned (.int .i64 20) ∧ Kept No w15 w') := eNoJudgeCommand #[.int .i64 m.ck, .int .i64 m.cc, .int .i64 m.co, .string m.cn, .int .i64 m.fc1, .int .i64 m.fo1, .int .i64 m.fc2, .int .i64 m.fo2, .int .i64 m.cz] rfl sa sn sc zs f p bu bl ro w15 (HC.out.no HK15.out) HNo.out
  go_wp2_with fail
  refine HE.out.mono ?_
  rintro e w16 ⟨rfl, hk⟩
  have HK16 : Hid (Kept No w w16) := HK15.out.then hk
  have HG16 : Hid (Box w16 w.heap.size 24 #[.slice sa sn sc, .int .i64 f, .int .i64 p, .int .i64 bu, .int .i64 bl, .int .i64 ro]) := HG15.out.kept hk (fun e => e)
  have HM16 : Hid (MsgAt w16 (w.heap.size + 1) m) := HM15.out.no hk
  clear hk q0 q1 q2 q3 q4 q5 HK15 HG15 HM15
  clear HE c0 c1 c2 c3 c4 c5 c6 c7 c8
  have q0 := HG16.out.cell 0
  have q1 := HG16.out.cell 1
  have q2 := HG16.out.cell 2
  have q3 := HG16.out.cell 3
  have q4 := HG16.out.cell 4
  have q5 := HG16.out.cell 5
  simp at q0 q1 q2 q3 q4 q5
  obtain ⟨k0, k1, k2⟩ := HM16.out.bkt
  have HE : Hid (Calls Tryz.prog 14 #[.agg #[.int .i64 m.up, .slice m.ea m.el m.ep, .slice m.la m.ll m.lp], cfgV (.slice sa sn sc) f p bu bl ro] w16 fun e w' => e = .returned (.int .i64 20) ∧ Kept No w16 w') := eNoJudgeBucket #[.int .i64 m.up, .slice m.ea m.el m.ep, .slice m.la m.ll m.lp] rfl sa sn sc zs f p bu bl ro w16 (HC.out.no HK16.out) HNo.out
  go_wp2_with fail
  refine HE.out.mono ?_
  rintro e w17 ⟨rfl, hk⟩
  have HK17 : Hid (Kept No w w17) := HK16.out.then hk
  have HG17 : Hid (Box w17 w.heap.size 24 #[.slice sa sn sc, .int .i64 f, .int .i64 p, .int .i64 bu, .int .i64 bl, .int .i64 ro]) := HG16.out.kept hk (fun e => e)
  have HM17 : Hid (MsgAt w17 (w.heap.size + 1) m) := HM16.out.no hk
  clear hk q0 q1 q2 q3 q4 q5 HK16 HG16 HM16
  clear HE k0 k1 k2
  go_wp2
  go_ret
  exact ⟨rfl, HK17.out⟩

end Go.Proofs.YtgdnofacgfjaeabGreat
