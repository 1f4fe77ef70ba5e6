import Derived.Test.YtpapbleabjpbfabPo
import Derived.Test.YtpapbleabjpbfabRc
import Derived.Deep.RegionWith
namespace Go.Proofs.Ytpapbleabjpbfab
open Go.RowKit
set_option linter.unusedVariables false

/-- A ring of the program's: its servers rising, its points. -/
def RingAt (w : World) (base r : Nat) (zs : List Int) (f : Int) (p : Nat) (bu bl ro : Int) (ps : List (Int × Int)) : Prop :=
  ∃ sg sc pg pc n m, zs.length = n ∧ ps.length = m ∧ Box w r 65 #[.slice (some ⟨sg, 0, none⟩) n sc, .int .i64 f, .int .i64 p, .int .i64 bu, .int .i64 bl, .int .i64 ro, .slice (some ⟨pg, 0, none⟩) m pc] ∧
    Own 3 1 w base (some ⟨sg, 0, none⟩) sc n (zs.map (Value.int .i64)) ∧ OwnP w base pg pc ps ∧ base ≤ r

theorem cfgB_true {zs : List Int} {f p bu bl ro : Int} (h : cfgB zs f p bu bl ro = true) : HeadOk zs f ∧ Good zs zs.length ∧ (1 ≤ p ∧ p ≤ 64) ∧ (1 ≤ bu ∧ bu ≤ 256) ∧ (1 ≤ bl ∧ bl ≤ 4096) ∧ (1 ≤ ro ∧ ro ≤ 256) := by
  by_cases hg : HeadOk zs f ∧ Good zs zs.length
  · rw [← cfgB_yes hg] at h
    simp only [Bool.and_eq_true, inB_iff] at h
    exact ⟨hg.1, hg.2, h.1, h.2.1, h.2.2.1, h.2.2.2⟩
  · rw [← cfgB_no hg] at h; cases h

set_option maxRecDepth 100000 in
set_option maxHeartbeats 4000000 in
theorem newNo_any (a : Option Addr) (cap n : Nat) (zs : List Int) (f p bu bl ro : Int) (w : World) (hnl : zs.length = n) (hb : Nums .i64 w a zs) (hI : AllI zs) (hm : zs.length ≤ 17592186043904) (hc : cfgB zs f p bu bl ro = false) :
    Calls Try.prog 24 #[cfgV (.slice a n cap) f p bu bl ro] w fun e w' => e = .returned (.tuple #[.pointer none, .int .i64 20]) ∧ Kept No w w' := by
  subst hnl
  have HR := rightConfig_any a cap zs f p bu bl ro (w.alloc (.cells #[.slice a zs.length cap, .int .i64 f, .int .i64 p, .int .i64 bu, .int .i64 bl, .int .i64 ro] 24)) (hb.no ((Kept.refl No w).alloc _)) hI hm
  rw [hc] at HR
  have HR' : Hid _ := HR
  clear HR hb hI hm
  go_enter Try.func24, Try.ntmps24
  go_wp2_with (go_at_call 36; refine Calls.mono HR'.out ?_; rintro e w2 ⟨rfl, hk2⟩)
  go_ret2
  exact ⟨rfl, ((Kept.refl No w).alloc _).then hk2⟩

set_option maxRecDepth 100000 in
set_option maxHeartbeats 4000000 in
theorem newYes_any (a : Option Addr) (cap n : Nat) (zs : List Int) (f : Int) (p : Nat) (bu bl ro : Int) (w : World) (hnl : zs.length = n) (hb : Nums .i64 w a zs) (hI : AllI zs) (hc : cfgB zs f p bu bl ro = true) (hS : Sorts (ptsOf (sortI zs) p)) :
    Calls Try.prog 24 #[cfgV (.slice a n cap) f p bu bl ro] w fun e w' => ∃ r, e = .returned (.tuple #[.pointer (some ⟨r, 0, none⟩), .int .i64 0]) ∧ RingAt w' w.heap.size r (sortI zs) f p bu bl ro (sortP (ptsOf (sortI zs) p)) ∧ Kept No w w' := by
  subst hnl
  obtain ⟨⟨hf0, hf3, hf1, h64⟩, hg, hp, _⟩ := cfgB_true hc
  have h1n : 1 ≤ zs.length := by omega
  have HR := rightConfig_any a cap zs f p bu bl ro (w.alloc (.cells #[.slice a zs.length cap, .int .i64 f, .int .i64 p, .int .i64 bu, .int .i64 bl, .int .i64 ro] 24)) (hb.no ((Kept.refl No w).alloc _)) hI (by omega)
  rw [hc] at HR
  have HR' : Hid _ := HR
  have HB : Hid (Nums .i64 w a zs) := hb
  have HSo : Hid (Sorts (ptsOf (sortI zs) p)) := hS
  clear HR hb hI hc hg hf0 hf3 hf1 hS
  go_enter Try.func24, Try.ntmps24
  go_wp2_with (first
    | (go_at_call 36
       refine Calls.mono HR'.out ?_
       rintro e w2 ⟨rfl, hk2⟩
       have HK2 : Hid (Kept No w w2) := ((Kept.refl No w).alloc _).then hk2
       have HC2 : Hid (Box w2 w.heap.size 24 #[.slice a zs.length cap, .int .i64 f, .int .i64 p, .int .i64 bu, .int .i64 bl, .int .i64 ro]) := (Box.new _ _ _).kept hk2 (fun e => e)
       have c0 := HC2.out.cell 0
       simp only [List.getElem?_toArray, List.getElem?_cons_zero] at c0
       clear hk2 HR')
    | (go_at_call 34
       refine Calls.mono (clone_any a cap zs w2 h1n h64 (HB.out.no HK2.out)) ?_
       rintro e w3 ⟨sg, sc, rfl, ho3, hk3⟩
       have HK3 : Hid (Kept No w w3) := HK2.out.then hk3
       have HC3 : Hid (Box w3 w.heap.size 24 #[.slice a zs.length cap, .int .i64 f, .int .i64 p, .int .i64 bu, .int .i64 bl, .int .i64 ro]) := HC2.out.kept hk3 (fun e => e)
       have HO3 : Hid _ := ho3
       have hle : Hid (w.heap.size < w2.heap.size) := HC2.out.lt
       clear c0
       have c0 := HC3.out.cell 0
       simp only [List.getElem?_toArray, List.getElem?_cons_zero] at c0
       have f0 := HC3.out.frozen 0
       clear ho3 hk3 HK2 HC2)
    | fail)
  obtain ⟨w4, hw4⟩ : ∃ w4, w4 = w3.setCell ⟨w.heap.size, 0, none⟩ (.slice (some ⟨sg, 0, none⟩) zs.length sc) := ⟨_, rfl⟩
  rw [← hw4]
  have hsg : w.heap.size < sg := Nat.lt_of_lt_of_le hle.out (Own.base HO3.out ⟨_, rfl, rfl⟩)
  have HC4 : Hid (Box w4 w.heap.size 24 #[.slice (some ⟨sg, 0, none⟩) zs.length sc, .int .i64 f, .int .i64 p, .int .i64 bu, .int .i64 bl, .int .i64 ro]) := by
    rw [hw4]; exact HC3.out.set 0 _
  have HK34 : Hid (Kept (Only w.heap.size) w3 w4) := by rw [hw4]; exact (Kept.refl (Only w.heap.size) w3).setCell (p := ⟨w.heap.size, 0, none⟩) (fun _ => (rfl : w.heap.size = w.heap.size)) _
  have HO4 : Hid (Own 3 1 w4 w2.heap.size (some ⟨sg, 0, none⟩) sc zs.length (zs.map (Value.int .i64))) := Own.kept HO3.out HK34.out (by rintro k ⟨ad, e, rfl⟩; cases e; show ¬ (sg = w.heap.size); omega)
  have HK4 : Hid (Kept No w w4) := HK3.out.trans HK34.out (fun _ e => e) (fun i hi e => by have : i = w.heap.size := e; omega)
  clear hw4 HC3 HK3 HK34 HO3 c0 f0
  refine Calls.mono (sortInts_any sg sc zs w2.heap.size w4 h64 HO4.out) ?_
  rintro e w5 ⟨rfl, ho5, hk5⟩
  have HO5 : Hid (Own 3 1 w5 (w.heap.size + 1) (some ⟨sg, 0, none⟩) sc zs.length ((sortI zs).map (Value.int .i64))) := Own.lower ho5 (by have := hle.out; omega)
  have HC5 : Hid (Box w5 w.heap.size 24 #[.slice (some ⟨sg, 0, none⟩) zs.length sc, .int .i64 f, .int .i64 p, .int .i64 bu, .int .i64 bl, .int .i64 ro]) := HC4.out.kept hk5 (by show ¬ (w.heap.size = sg); omega)
  have HK5 : Hid (Kept No w w5) := HK4.out.trans hk5 (fun _ e => e) (fun i hi e => by have : i = sg := e; omega)
  clear ho5 hk5 HO4 HC4 HK4 hle hsg
  have HP5 : Hid (∀ w6, Kept No w5 w6 → Calls Try.prog 38 #[cfgV (.slice (some ⟨sg, 0, none⟩) zs.length sc) f p bu bl ro] w6 fun e w' => e = .returned (.slice (some ⟨w6.heap.size + 1, 0, none⟩) (zs.length * p) (zs.length * p)) ∧ OwnP w' w6.heap.size (w6.heap.size + 1) (zs.length * p) (sortP (ptsOf (sortI zs) p)) ∧ Kept No w6 w') := fun w6 hk =>
    pointsOf_any (some ⟨sg, 0, none⟩) sc zs.length (sortI zs) f bu bl ro p w6 (sortI_len zs) h1n h64 (by omega) (by omega) ((Own.nums HO5.out (sortI_len zs)).no hk) HSo.out
  have HPL : Hid ((sortP (ptsOf (sortI zs) p)).length = zs.length * p) := by show _ = _; rw [sortP_len, ptsOf_len, sortI_len]
  generalize hq : zs.length * p = q at HP5 HPL
  clear hq
  have c0 := HC5.out.cell 0
  have c1 := HC5.out.cell 1
  have c2 := HC5.out.cell 2
  have c3 := HC5.out.cell 3
  have c4 := HC5.out.cell 4
  have c5 := HC5.out.cell 5
  simp only [List.getElem?_toArray, List.getElem?_cons_zero, List.getElem?_cons_succ] at c0 c1 c2 c3 c4 c5
  go_wp2
  go_region_with (go_at_call 38
                  refine Calls.mono (HP5.out _ (by first | exact (Kept.refl No w5).drew | exact (Kept.refl No w5).drewN _)) ?_
                  rintro e w6 ⟨rfl, ho6, hk6⟩
                  have HK56 : Hid (Kept No w5 w6) := by first | exact (Kept.refl No w5).drew.then hk6 | exact ((Kept.refl No w5).drewN _).then hk6
                  have HO6 : Hid _ := ho6
                  have HC6 : Hid (Box w6 w.heap.size 24 _) := HC5.out.kept HK56.out (fun e => e)
                  have c0 := HC6.out.cell 0
                  have c1 := HC6.out.cell 1
                  have c2 := HC6.out.cell 2
                  have c3 := HC6.out.cell 3
                  have c4 := HC6.out.cell 4
                  have c5 := HC6.out.cell 5
                  simp only [List.getElem?_toArray, List.getElem?_cons_zero, List.getElem?_cons_succ] at c0 c1 c2 c3 c4 c5
                  clear ho6 hk6 HC6)
  all_goals go_wp2
  all_goals go_ret2
  all_goals have hz5 := HK5.out.size
  all_goals have hz6 := HK56.out.size
  all_goals exact ⟨w6.heap.size, rfl, ⟨sg, sc, w5.heap.size + 1, q, zs.length, q, sortI_len zs, HPL.out, Box.new _ _ _, (HO5.out.no (HK56.out.alloc _)).lower (by omega), Own.lower (Own.no HO6.out ((Kept.refl No w6).alloc _)) hz5, by omega⟩, (HK5.out.then HK56.out).alloc _⟩

end Go.Proofs.Ytpapbleabjpbfab
