import Derived.Test.YtpapbleabjpbfaaRn
import Derived.Test.YtpapbleabjpbfaaFo
namespace Go.Proofs.Ytpapbleabjpbfaa
open Go.RowKit
set_option linter.unusedVariables false
set_option linter.unusedSimpArgs false

theorem RingAt.no {w w' : World} {base r : Nat} {zs : List Int} {f : Int} {p : Nat} {bu bl ro : Int} {ps : List (Int × Int)} (h : RingAt w base r zs f p bu bl ro ps) (hk : Kept No w w') : RingAt w' base r zs f p bu bl ro ps := by
  obtain ⟨sg, sc, pg, pc, n, m, hn, hm, hb, ho, hp, h0⟩ := h
  exact ⟨sg, sc, pg, pc, n, m, hn, hm, hb.kept hk (fun e => e), ho.no hk, Own.no hp hk, h0⟩
theorem RingAt.lower {w : World} {base base' r : Nat} {zs : List Int} {f : Int} {p : Nat} {bu bl ro : Int} {ps : List (Int × Int)} (h : RingAt w base r zs f p bu bl ro ps) (hb' : base' ≤ base) : RingAt w base' r zs f p bu bl ro ps := by
  obtain ⟨sg, sc, pg, pc, n, m, hn, hm, hb, ho, hp, h0⟩ := h
  exact ⟨sg, sc, pg, pc, n, m, hn, hm, hb, ho.lower hb', Own.lower hp hb', by omega⟩
theorem RefAt.lower {w : World} {base base' r : Nat} {zs : List Int} {f : Int} {p : Nat} {bu bl ro : Int} {ps : List (Int × Int)} (h : RefAt w base r zs f p bu bl ro ps) (hb' : base' ≤ base) : RefAt w base' r zs f p bu bl ro ps := by
  obtain ⟨sv, v, L, h1, h2, h3, h4, h5⟩ := h
  exact ⟨sv, v, L, h1, Own.lower' h2 hb', Own.lower' h3 hb', h4, by omega⟩
theorem pts_le {zs : List Int} {f : Int} {p : Nat} {bu bl ro : Int} (hc : cfgB zs f p bu bl ro = true) : (ptsOf (sortI zs) p).length ≤ 4096 := by
  obtain ⟨⟨_, _, _, h64⟩, _, ⟨_, hp⟩, _⟩ := cfgB_true hc
  rw [ptsOf_len, sortI_len]
  have : zs.length * p ≤ 64 * 64 := Nat.mul_le_mul h64 (by omega)
  omega

set_option maxRecDepth 100000 in
set_option maxHeartbeats 4000000 in
theorem bothNo_any (a : Option Addr) (cap : Nat) (zs : List Int) (f : Int) (p : Int) (bu bl ro : Int) (w : World) (hb : Nums .i64 w a zs) (hI : AllI zs) (hm : zs.length ≤ 17592186043904) (hc : cfgB zs f p bu bl ro = false) :
    Calls Try.prog 9 #[cfgV (.slice a zs.length cap) f p bu bl ro] w fun e w' => e = .returned (.tuple #[.pointer none, .pointer none, .bool true]) ∧ Kept No w w' := by
  have HB : Hid (Nums .i64 w a zs) := hb
  have HI : Hid (AllI zs) := hI
  have HM : Hid (zs.length ≤ 17592186043904) := hm
  have HC : Hid (cfgB zs f p bu bl ro = false) := hc
  clear hb hI hm hc
  go_enter Try.func9, Try.ntmps9
  go_wp2_with fail
  obtain ⟨w0, hw0⟩ : ∃ w0, w0 = w.alloc (.cells #[.slice a zs.length cap, .int .i64 f, .int .i64 p, .int .i64 bu, .int .i64 bl, .int .i64 ro] 29) := ⟨_, rfl⟩
  rw [← hw0]
  obtain ⟨cb, hcb⟩ : ∃ cb, cb = w.heap.size := ⟨_, rfl⟩
  have HC0 : Hid (Box w0 cb 29 #[.slice a zs.length cap, .int .i64 f, .int .i64 p, .int .i64 bu, .int .i64 bl, .int .i64 ro]) := by rw [hw0, hcb]; exact Box.new _ _ _
  have HK0 : Hid (Kept No w w0) := by rw [hw0]; exact (Kept.refl No w).alloc _
  rw [← hcb]
  have HCw : Hid (cb = w.heap.size) := hcb
  clear hw0 hcb
  refine Calls.mono (lend_any a cap zs f p bu bl ro w0 HM.out (HB.out.no HK0.out)) ?_
  rintro e w1 ⟨rfl, hb1, hk1⟩
  obtain ⟨gl, hgl⟩ : ∃ gl, gl = w0.heap.size + 2 := ⟨_, rfl⟩
  rw [← hgl] at hb1 ⊢
  have HL1 : Hid (Box w1 gl 3 ((zs ++ [-77]).map (Value.int .i64)).toArray) := hb1
  have HC1 : Hid (Box w1 cb 29 _) := HC0.out.kept hk1 (fun e => e)
  have HK1 : Hid (Kept No w w1) := HK0.out.then hk1
  clear hb1 hk1 HC0 HK0 hgl
  go_wp2_with fail
  obtain ⟨w3, hw3⟩ : ∃ w3, w3 = w1.alloc (.cells #[.slice (some ⟨gl, 0, none⟩) zs.length (zs.length + 1), .int .i64 f, .int .i64 p, .int .i64 bu, .int .i64 bl, .int .i64 ro] 29) := ⟨_, rfl⟩
  rw [← hw3]
  obtain ⟨mb, hmb⟩ : ∃ mb, mb = w1.heap.size := ⟨_, rfl⟩
  have HM3 : Hid (Box w3 mb 29 #[.slice (some ⟨gl, 0, none⟩) zs.length (zs.length + 1), .int .i64 f, .int .i64 p, .int .i64 bu, .int .i64 bl, .int .i64 ro]) := by rw [hw3, hmb]; exact Box.new _ _ _
  have HL3 : Hid (Box w3 gl 3 ((zs ++ [-77]).map (Value.int .i64)).toArray) := by rw [hw3]; exact HL1.out.alloc _
  have HC3 : Hid (Box w3 cb 29 #[.slice a zs.length cap, .int .i64 f, .int .i64 p, .int .i64 bu, .int .i64 bl, .int .i64 ro]) := by rw [hw3]; exact HC1.out.alloc _
  have HK3 : Hid (Kept No w w3) := by rw [hw3]; exact HK1.out.alloc _
  have HN3 : Hid (Nums .i64 w3 (some ⟨gl, 0, none⟩) zs) := by have := HL3.out.nums zs.length; rw [lent_take] at this; exact this
  rw [← hmb]
  clear hw3 hmb HL1 HC1 HK1
  refine Calls.mono (newNo_any _ (zs.length + 1) zs.length zs f p bu bl ro w3 rfl HN3.out HI.out HM.out HC.out) ?_
  rintro e w4 ⟨rfl, hk4⟩
  have HK4 : Hid (Kept No w w4) := HK3.out.then hk4
  have HM4 : Hid (Box w4 mb 29 #[.slice (some ⟨gl, 0, none⟩) zs.length (zs.length + 1), .int .i64 f, .int .i64 p, .int .i64 bu, .int .i64 bl, .int .i64 ro]) := HM3.out.kept hk4 (fun e => e)
  have HL4 : Hid (Box w4 gl 3 ((zs ++ [-77]).map (Value.int .i64)).toArray) := HL3.out.kept hk4 (fun e => e)
  have HC4 : Hid (Box w4 cb 29 #[.slice a zs.length cap, .int .i64 f, .int .i64 p, .int .i64 bu, .int .i64 bl, .int .i64 ro]) := HC3.out.kept hk4 (fun e => e)
  clear hk4 HM3 HL3 HC3 HK3 HN3 
  have c0 := HC4.out.cell 0
  have c1 := HC4.out.cell 1
  have c2 := HC4.out.cell 2
  have c3 := HC4.out.cell 3
  have c4 := HC4.out.cell 4
  have c5 := HC4.out.cell 5
  simp only [List.getElem?_toArray, List.getElem?_cons_zero, List.getElem?_cons_succ] at c0 c1 c2 c3 c4 c5
  go_wp2_with fail
  refine Calls.mono (refNo_any a cap zs f p bu bl ro w4 (HB.out.no HK4.out) HC.out) ?_
  rintro e w5 ⟨rfl, hk5⟩
  have HK5 : Hid (Kept No w w5) := HK4.out.then hk5
  have HM5 : Hid (Box w5 mb 29 #[.slice (some ⟨gl, 0, none⟩) zs.length (zs.length + 1), .int .i64 f, .int .i64 p, .int .i64 bu, .int .i64 bl, .int .i64 ro]) := HM4.out.kept hk5 (fun e => e)
  have HL5 : Hid (Box w5 gl 3 ((zs ++ [-77]).map (Value.int .i64)).toArray) := HL4.out.kept hk5 (fun e => e)
  have HC5 : Hid (Box w5 cb 29 #[.slice a zs.length cap, .int .i64 f, .int .i64 p, .int .i64 bu, .int .i64 bl, .int .i64 ro]) := HC4.out.kept hk5 (fun e => e)
  clear hk5 HM4 HL4 HC4 HK4 c0 c1 c2 c3 c4 c5
  have c0 := HC5.out.cell 0
  have c1 := HC5.out.cell 1
  have c2 := HC5.out.cell 2
  have c3 := HC5.out.cell 3
  have c4 := HC5.out.cell 4
  have c5 := HC5.out.cell 5
  have m0 := HM5.out.cell 0
  have m1 := HM5.out.cell 1
  have m2 := HM5.out.cell 2
  have m3 := HM5.out.cell 3
  have m4 := HM5.out.cell 4
  have m5 := HM5.out.cell 5
  simp only [List.getElem?_toArray, List.getElem?_cons_zero, List.getElem?_cons_succ] at c0 c1 c2 c3 c4 c5 m0 m1 m2 m3 m4 m5
  have HKf : Hid _ := keptf_any gl a cap zs f p bu bl ro f p bu bl ro w5 HM.out HL5.out (HB.out.no HK5.out)
  go_wp2_with (go_at_call 28
               refine Calls.mono HKf.out ?_
               rintro e w6 ⟨rfl, hk6⟩
               have HK56 : Hid (Kept No w5 w6) := hk6
               clear hk6)
  go_ret3
  exact ⟨rfl, HK5.out.then HK56.out⟩

set_option maxRecDepth 100000 in
set_option maxHeartbeats 4000000 in
theorem bothYes_any (a : Option Addr) (cap : Nat) (zs : List Int) (f : Int) (p : Nat) (bu bl ro : Int) (w : World) (hb : Nums .i64 w a zs) (hI : AllI zs) (hm : zs.length ≤ 17592186043904) (hc : cfgB zs f p bu bl ro = true) :
    Calls Try.prog 9 #[cfgV (.slice a zs.length cap) f p bu bl ro] w fun e w' => ∃ r q, e = .returned (.tuple #[.pointer (some ⟨r, 0, none⟩), .pointer (some ⟨q, 0, none⟩), .bool true]) ∧ RingAt w' w.heap.size r (sortI zs) f p bu bl ro (sortP (ptsOf (sortI zs) p)) ∧ RefAt w' w.heap.size q (sortI zs) f p bu bl ro (sortP (ptsOf (sortI zs) p)) ∧ Kept No w w' := by
  have HB : Hid (Nums .i64 w a zs) := hb
  have HI : Hid (AllI zs) := hI
  have HM : Hid (zs.length ≤ 17592186043904) := hm
  have HC : Hid (cfgB zs f p bu bl ro = true) := hc
  clear hb hI hm hc
  go_enter Try.func9, Try.ntmps9
  go_wp2_with fail
  obtain ⟨w0, hw0⟩ : ∃ w0, w0 = w.alloc (.cells #[.slice a zs.length cap, .int .i64 f, .int .i64 p, .int .i64 bu, .int .i64 bl, .int .i64 ro] 29) := ⟨_, rfl⟩
  rw [← hw0]
  obtain ⟨cb, hcb⟩ : ∃ cb, cb = w.heap.size := ⟨_, rfl⟩
  have HC0 : Hid (Box w0 cb 29 #[.slice a zs.length cap, .int .i64 f, .int .i64 p, .int .i64 bu, .int .i64 bl, .int .i64 ro]) := by rw [hw0, hcb]; exact Box.new _ _ _
  have HK0 : Hid (Kept No w w0) := by rw [hw0]; exact (Kept.refl No w).alloc _
  rw [← hcb]
  have HCw : Hid (cb = w.heap.size) := hcb
  clear hw0 hcb
  refine Calls.mono (lend_any a cap zs f p bu bl ro w0 HM.out (HB.out.no HK0.out)) ?_
  rintro e w1 ⟨rfl, hb1, hk1⟩
  obtain ⟨gl, hgl⟩ : ∃ gl, gl = w0.heap.size + 2 := ⟨_, rfl⟩
  rw [← hgl] at hb1 ⊢
  have HL1 : Hid (Box w1 gl 3 ((zs ++ [-77]).map (Value.int .i64)).toArray) := hb1
  have HC1 : Hid (Box w1 cb 29 _) := HC0.out.kept hk1 (fun e => e)
  have HK1 : Hid (Kept No w w1) := HK0.out.then hk1
  clear hb1 hk1 HC0 HK0 hgl
  go_wp2_with fail
  obtain ⟨w3, hw3⟩ : ∃ w3, w3 = w1.alloc (.cells #[.slice (some ⟨gl, 0, none⟩) zs.length (zs.length + 1), .int .i64 f, .int .i64 p, .int .i64 bu, .int .i64 bl, .int .i64 ro] 29) := ⟨_, rfl⟩
  rw [← hw3]
  obtain ⟨mb, hmb⟩ : ∃ mb, mb = w1.heap.size := ⟨_, rfl⟩
  have HM3 : Hid (Box w3 mb 29 #[.slice (some ⟨gl, 0, none⟩) zs.length (zs.length + 1), .int .i64 f, .int .i64 p, .int .i64 bu, .int .i64 bl, .int .i64 ro]) := by rw [hw3, hmb]; exact Box.new _ _ _
  have HL3 : Hid (Box w3 gl 3 ((zs ++ [-77]).map (Value.int .i64)).toArray) := by rw [hw3]; exact HL1.out.alloc _
  have HC3 : Hid (Box w3 cb 29 #[.slice a zs.length cap, .int .i64 f, .int .i64 p, .int .i64 bu, .int .i64 bl, .int .i64 ro]) := by rw [hw3]; exact HC1.out.alloc _
  have HK3 : Hid (Kept No w w3) := by rw [hw3]; exact HK1.out.alloc _
  have HN3 : Hid (Nums .i64 w3 (some ⟨gl, 0, none⟩) zs) := by have := HL3.out.nums zs.length; rw [lent_take] at this; exact this
  rw [← hmb]
  clear hw3 hmb HL1 HC1 HK1
  refine Calls.mono (newYes_any _ (zs.length + 1) zs.length zs f p bu bl ro w3 rfl HN3.out HI.out HC.out (sorts_all _ (pts_le HC.out))) ?_
  rintro e w4 ⟨r, rfl, hr4, hk4⟩
  have HRa : Hid (RingAt w4 w.heap.size r (sortI zs) f p bu bl ro (sortP (ptsOf (sortI zs) p))) := hr4.lower HK3.out.size
  have HK4 : Hid (Kept No w w4) := HK3.out.then hk4
  have HM4 : Hid (Box w4 mb 29 #[.slice (some ⟨gl, 0, none⟩) zs.length (zs.length + 1), .int .i64 f, .int .i64 p, .int .i64 bu, .int .i64 bl, .int .i64 ro]) := HM3.out.kept hk4 (fun e => e)
  have HL4 : Hid (Box w4 gl 3 ((zs ++ [-77]).map (Value.int .i64)).toArray) := HL3.out.kept hk4 (fun e => e)
  have HC4 : Hid (Box w4 cb 29 #[.slice a zs.length cap, .int .i64 f, .int .i64 p, .int .i64 bu, .int .i64 bl, .int .i64 ro]) := HC3.out.kept hk4 (fun e => e)
  clear hk4 HM3 HL3 HC3 HK3 HN3 hr4
  have c0 := HC4.out.cell 0
  have c1 := HC4.out.cell 1
  have c2 := HC4.out.cell 2
  have c3 := HC4.out.cell 3
  have c4 := HC4.out.cell 4
  have c5 := HC4.out.cell 5
  simp only [List.getElem?_toArray, List.getElem?_cons_zero, List.getElem?_cons_succ] at c0 c1 c2 c3 c4 c5
  go_wp2_with fail
  refine Calls.mono (refYes_any a cap zs f p bu bl ro w4 (HB.out.no HK4.out) HC.out) ?_
  rintro e w5 ⟨q, rfl, hq5, hk5⟩
  have HRb : Hid (RingAt w5 w.heap.size r (sortI zs) f p bu bl ro (sortP (ptsOf (sortI zs) p))) := HRa.out.no hk5
  have HQb : Hid (RefAt w5 w.heap.size q (sortI zs) f p bu bl ro (sortP (ptsOf (sortI zs) p))) := hq5.lower HK4.out.size
  clear hq5 HRa
  have HK5 : Hid (Kept No w w5) := HK4.out.then hk5
  have HM5 : Hid (Box w5 mb 29 #[.slice (some ⟨gl, 0, none⟩) zs.length (zs.length + 1), .int .i64 f, .int .i64 p, .int .i64 bu, .int .i64 bl, .int .i64 ro]) := HM4.out.kept hk5 (fun e => e)
  have HL5 : Hid (Box w5 gl 3 ((zs ++ [-77]).map (Value.int .i64)).toArray) := HL4.out.kept hk5 (fun e => e)
  have HC5 : Hid (Box w5 cb 29 #[.slice a zs.length cap, .int .i64 f, .int .i64 p, .int .i64 bu, .int .i64 bl, .int .i64 ro]) := HC4.out.kept hk5 (fun e => e)
  clear hk5 HM4 HL4 HC4 HK4 c0 c1 c2 c3 c4 c5
  have c0 := HC5.out.cell 0
  have c1 := HC5.out.cell 1
  have c2 := HC5.out.cell 2
  have c3 := HC5.out.cell 3
  have c4 := HC5.out.cell 4
  have c5 := HC5.out.cell 5
  have m0 := HM5.out.cell 0
  have m1 := HM5.out.cell 1
  have m2 := HM5.out.cell 2
  have m3 := HM5.out.cell 3
  have m4 := HM5.out.cell 4
  have m5 := HM5.out.cell 5
  simp only [List.getElem?_toArray, List.getElem?_cons_zero, List.getElem?_cons_succ] at c0 c1 c2 c3 c4 c5 m0 m1 m2 m3 m4 m5
  have HKf : Hid _ := keptf_any gl a cap zs f p bu bl ro f p bu bl ro w5 HM.out HL5.out (HB.out.no HK5.out)
  go_wp2_with (go_at_call 28
               refine Calls.mono HKf.out ?_
               rintro e w6 ⟨rfl, hk6⟩
               have HK56 : Hid (Kept No w5 w6) := hk6
               clear hk6)
  go_ret3
  exact ⟨r, q, rfl, HRb.out.no HK56.out, HQb.out.no HK56.out, HK5.out.then HK56.out⟩

end Go.Proofs.Ytpapbleabjpbfaa
