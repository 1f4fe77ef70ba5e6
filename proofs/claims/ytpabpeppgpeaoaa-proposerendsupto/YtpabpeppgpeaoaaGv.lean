import Derived.Deep.Cut
import Derived.Deep.CutRange
import Derived.Deep.RegionHeld3
import Derived.StillTailTactics
import Derived.RangeFuncNested
import Derived.RangeFuncBound
import Derived.RangeFuncCalls
import Derived.RangeFuncLeaves
import Derived.RangeFuncBox
import Derived.Shelf.Abstract
import Derived.Sort.QuietTacIn
import Derived.Shelf.RegionOpen
import Derived.OwnWalkIn
import Derived.TacticsInMore
import Derived.LoopNIn
import Derived.LoopIn
import Derived.Test.YtpabpeppgpeaoaaGa
namespace Go.Proofs.Ytpabpeppgpeaoaa
open Go.RowKit Go.Shelf
set_option linter.unusedVariables false
set_option linter.unusedSimpArgs false
attribute [local go_sem] Oper.semAt_some
namespace Gt
namespace V

theorem Try.und168 : Try.prog.underlying 168 = some (.map 3 172) := by kernel_rfl
theorem Try.info172 : (Try.prog.info? 172).map (fun i => (i.zero, i.size, i.bytes)) = some (some (.agg #[.bool false, .int .i64 0, .int .i64 0, .int .i64 0, .int .i64 0, .int .i64 0, .string ⟨#[]⟩, .int .i64 0, .int .i64 0, .int .i64 0, .int .i64 0, .int .i64 0]), 12, 104) := by kernel_rfl
theorem Try.zero172 (w : World) : (zeroValue 172).run Try.prog w = .ok (.agg #[.bool false, .int .i64 0, .int .i64 0, .int .i64 0, .int .i64 0, .int .i64 0, .string ⟨#[]⟩, .int .i64 0, .int .i64 0, .int .i64 0, .int .i64 0, .int .i64 0]) w := by
  obtain ⟨i0, hi, hz0, hz1, hz2⟩ := info_parts Try.info172
  simp [zeroValue, typeInfo, hi, hz0]
structure Vt where
  n : Int
  b : Int
  k : Int
  cl : Int
  op : Int
  nm : ByteArray
  f0 : Int
  f1 : Int
  g0 : Int
  g1 : Int
  sz : Int
instance : Inhabited Vt := ⟨⟨0, 0, 0, 0, 0, ⟨#[]⟩, 0, 0, 0, 0, 0⟩⟩
def ans : Option Vt → Value
  | none => .agg #[.bool false, .int .i64 0, .int .i64 0, .int .i64 0, .int .i64 0, .int .i64 0, .string ⟨#[]⟩, .int .i64 0, .int .i64 0, .int .i64 0, .int .i64 0, .int .i64 0]
  | some b => .agg #[.bool true, .int .i64 b.n, .int .i64 b.b, .int .i64 b.k, .int .i64 b.cl, .int .i64 b.op, .string b.nm, .int .i64 b.f0, .int .i64 b.f1, .int .i64 b.g0, .int .i64 b.g1, .int .i64 b.sz]
theorem enough_any (t b cap : Nat) (a : Option Addr) (x : TS Vt) (w : World) (h : Tal 170 ans w t b a cap x) :
    Calls Try.prog 91 #[.pointer (some ⟨t, 0, none⟩)] w fun e w' => e = .returned (.bool (enB x)) ∧ ∃ n, w' = w.drewN n := by
  obtain ⟨c0, c1, c2, c3⟩ := h.cells
  have HE : Hid (enB x = decide (x.need ≤ cnt x)) := rfl
  generalize enB x = E at HE
  have hc := cnt_le x
  have hl := h.len
  generalize cnt x = n at c2 HE hc
  generalize x.need = m at c1 HE
  generalize x.g.length = l at c0 hc hl
  clear h
  go_enter Try.func91, Try.ntmps91
  go_wp2
  go_quiet (fail)
  go_wp2
  all_goals go_ret
  all_goals refine ⟨ret_bool ?_, ⟨_, rfl⟩⟩
  all_goals rw [HE.out]
  all_goals simp_all

theorem tmap_no {x : TS Vt} {s : Int} (h : s ∉ x.g) : tmap ans x s = none := if_neg h
theorem tmap_some {x : TS Vt} {s : Int} {v : Vt} (h : s ∈ x.g) (hv : x.v s = some v) : tmap ans x s = some (.agg #[.bool true, .int .i64 v.n, .int .i64 v.b, .int .i64 v.k, .int .i64 v.cl, .int .i64 v.op, .string v.nm, .int .i64 v.f0, .int .i64 v.f1, .int .i64 v.g0, .int .i64 v.g1, .int .i64 v.sz]) := by unfold tmap; rw [if_pos h, hv]; rfl
theorem tmap_none {x : TS Vt} {s : Int} (h : s ∈ x.g) (hv : x.v s = none) : tmap ans x s = some (.agg #[.bool false, .int .i64 0, .int .i64 0, .int .i64 0, .int .i64 0, .int .i64 0, .string ⟨#[]⟩, .int .i64 0, .int .i64 0, .int .i64 0, .int .i64 0, .int .i64 0]) := by unfold tmap; rw [if_pos h, hv]; rfl
theorem look_no {x : TS Vt} {s : Int} (h : s ∉ x.g) : tupOk ((tmap ans x s).getD (.agg #[.bool false, .int .i64 0, .int .i64 0, .int .i64 0, .int .i64 0, .int .i64 0, .string ⟨#[]⟩, .int .i64 0, .int .i64 0, .int .i64 0, .int .i64 0, .int .i64 0])) (tmap ans x s).isSome true = .tuple #[.agg #[.bool false, .int .i64 0, .int .i64 0, .int .i64 0, .int .i64 0, .int .i64 0, .string ⟨#[]⟩, .int .i64 0, .int .i64 0, .int .i64 0, .int .i64 0, .int .i64 0], .bool false] := by
  rw [tmap_no h]; rfl
theorem look_some {x : TS Vt} {s : Int} {v : Vt} (h : s ∈ x.g) (hv : x.v s = some v) : tupOk ((tmap ans x s).getD (.agg #[.bool false, .int .i64 0, .int .i64 0, .int .i64 0, .int .i64 0, .int .i64 0, .string ⟨#[]⟩, .int .i64 0, .int .i64 0, .int .i64 0, .int .i64 0, .int .i64 0])) (tmap ans x s).isSome true = .tuple #[.agg #[.bool true, .int .i64 v.n, .int .i64 v.b, .int .i64 v.k, .int .i64 v.cl, .int .i64 v.op, .string v.nm, .int .i64 v.f0, .int .i64 v.f1, .int .i64 v.g0, .int .i64 v.g1, .int .i64 v.sz], .bool true] := by
  rw [tmap_some h hv]; rfl
theorem look_none {x : TS Vt} {s : Int} (h : s ∈ x.g) (hv : x.v s = none) : tupOk ((tmap ans x s).getD (.agg #[.bool false, .int .i64 0, .int .i64 0, .int .i64 0, .int .i64 0, .int .i64 0, .string ⟨#[]⟩, .int .i64 0, .int .i64 0, .int .i64 0, .int .i64 0, .int .i64 0])) (tmap ans x s).isSome true = .tuple #[.agg #[.bool false, .int .i64 0, .int .i64 0, .int .i64 0, .int .i64 0, .int .i64 0, .string ⟨#[]⟩, .int .i64 0, .int .i64 0, .int .i64 0, .int .i64 0, .int .i64 0], .bool true] := by
  rw [tmap_none h hv]; rfl
def TakeOut (w : World) (t b cap : Nat) (a : Option Addr) (x : TS Vt) (s : Int) (v : Vt) (e : Ending) (w' : World) : Prop :=
  e = .returned (.bool (takeB x s)) ∧ Tal 170 ans w' t b a cap (takeS x s v) ∧ Kept (Tb2 t b) w w'

def NewOut (w : World) (zs : List Int) (need : Int) (e : Ending) (w' : World) : Prop :=
  ∃ a cap, e = .returned (.pointer (some ⟨w.heap.size + 1, 0, none⟩)) ∧ Tal 170 ans w' (w.heap.size + 1) w.heap.size a cap (tNew Vt zs need) ∧ (∀ k, At a k → w.heap.size ≤ k) ∧ Kept No w w'
set_option maxRecDepth 100000 in
set_option maxHeartbeats 2000000 in
theorem new_any (a0 : Option Addr) (n0 cap0 : Nat) (zs : List Int) (need : Int) (w : World) (hz : zs.length = n0) (hn : n0 ≤ 17592186043904) (hb : Nums .i64 w a0 zs) :
    Calls Try.prog 75 #[.slice a0 n0 cap0, .int .i64 need] w (NewOut w zs need) := by
  have HB : Hid (Nums .i64 w a0 zs) := hb
  have HZ : Hid (zs.length = n0) := hz
  clear hb hz
  have hmm := @run_makeMap Try.prog
  have HS0 : Hid (Tal 170 ans ((w.alloc (.map #[] 0)).alloc (.cells #[.slice none 0 0, .int .i64 need, .int .i64 0, .map (some w.heap.size)] 170)) (w.heap.size + 1) w.heap.size none 0 (tNew Vt [] need)) := by
    refine ⟨?_, ?_, Own.nil _ _ _ _, by simp [tNew, uq], by simp [tNew, uq], by decide⟩
    · have := Box.new (w.alloc (.map #[] 0)) 170 #[.slice none 0 0, .int .i64 need, .int .i64 0, .map (some w.heap.size)]
      have e : (w.alloc (.map #[] 0)).heap.size = w.heap.size + 1 := by simp
      rw [e] at this
      exact this
    · have e : tmap ans (tNew Vt [] need) = fun _ => none := by funext n; simp [tmap, tNew, uq]
      rw [e]
      exact (MapIs.new w).kept ((Kept.refl No _).alloc _) (fun e => e)
  have HK0 : Hid (Kept No w ((w.alloc (.map #[] 0)).alloc (.cells #[.slice none 0 0, .int .i64 need, .int .i64 0, .map (some w.heap.size)] 170))) := ((Kept.refl No w).alloc _).alloc _
  go_enter Try.func75, Try.ntmps75
  go_wp2
  obtain ⟨w0, hw0⟩ : ∃ w0, w0 = (w.alloc (.map #[] 0)).alloc (.cells #[.slice none 0 0, .int .i64 need, .int .i64 0, .map (some w.heap.size)] 170) := ⟨_, rfl⟩
  rw [← hw0] at HS0 HK0
  try rw [← hw0]
  go_loopw [16] (fun vi wr => ∃ k : Nat, vi = .int .i64 k ∧ k ≤ n0 ∧ Hid (∃ a cap, Tal 170 ans wr (w.heap.size + 1) w.heap.size a cap (tNew Vt (zs.take k) need) ∧ Own 3 1 wr w.heap.size a cap (uq (zs.take k)).length ((uq (zs.take k)).map (Value.int .i64)) ∧ Kept No w wr)) (fun i _ => n0 - (intOf i).toNat)
  case atStart => exact ⟨0, by go_num, by omega, ⟨none, 0, by rw [List.take_zero]; exact HS0.out, by rw [List.take_zero]; exact Own.nil _ _ _ _, HK0.out⟩⟩
  case round =>
    obtain ⟨k, rfl, hk, HI⟩ := hrel
    clear HS0 HK0 hw0
    obtain ⟨a, cap, hT, hfr, hK⟩ := HI.out
    have HT : Hid (Tal 170 ans wr (w.heap.size + 1) w.heap.size a cap (tNew Vt (zs.take k) need)) := hT
    have HOw : Hid (Own 3 1 wr w.heap.size a cap (uq (zs.take k)).length ((uq (zs.take k)).map (Value.int .i64))) := hfr
    have HF : Hid (∀ q, At a q → w.heap.size ≤ q) := fun q hq => hfr.base hq
    have HK : Hid (Kept No w wr) := hK
    clear hT hfr hK HI
    by_cases hlt : k < n0
    · have hlt' : (k : Int) < (n0 : Int) := by omega
      obtain ⟨bb, off, rfl, hcell⟩ := (HB.out.no HK.out) k (by rw [HZ.out]; exact hlt)
      have HTk : Hid (zs.take (k + 1) = zs.take k ++ [zs[k]?.getD 0]) := take_snoc (by rw [HZ.out]; exact hlt)
      generalize zs[k]?.getD 0 = z at hcell HTk
      obtain ⟨c0, c1, c2, c3⟩ := HT.out.cells
      clear c0 c1 c2
      by_cases hm : z ∈ uq (zs.take k)
      · have HL : Hid _ := look_none (x := tNew Vt (zs.take k) need) (s := z) hm rfl
        have HU : Hid (tNew Vt (zs.take (k + 1)) need = tNew Vt (zs.take k) need) := by show _ = _; rw [HTk.out]; unfold tNew; rw [uq_snoc, if_pos hm]
        clear hm HTk
        go_wp2_with (refine wp_lookupV rfl _ _ 168 172 true rfl w.heap.size z rfl rfl HT.out.map Try.und168 (Try.zero172 _) _ HL.out ?_)
        go_roundw
        case rel => exact ⟨k + 1, by go_num, by omega, ⟨a, cap, by rw [HU.out]; exact HT.out.no ((Kept.refl No wr).alloc _), by rw [show uq (zs.take (k + 1)) = uq (zs.take k) from congrArg TS.g HU.out]; exact HOw.out.no ((Kept.refl No wr).alloc _), HK.out.alloc _⟩⟩
        case measure => simp [intOf]; omega
      · have HL : Hid _ := look_no (x := tNew Vt (zs.take k) need) (s := z) hm
        have HU : Hid (uq (zs.take (k + 1)) = uq (zs.take k) ++ [z]) := by show _ = _; rw [HTk.out, uq_snoc, if_neg hm]
        have HM : Hid (updG (tmap ans (tNew Vt (zs.take k) need)) z (some (ans none)) = tmap ans (tNew Vt (zs.take (k + 1)) need)) := by show _ = _; rw [HTk.out]; exact tmap_new hm
        have HLn : Hid ((uq (zs.take k)).length ≤ k) := by have := uq_len (zs.take k); rw [List.length_take, HZ.out] at this; show _ ≤ _; omega
        have HLn2 : Hid ((uq (zs.take (k + 1))).length ≤ 17592186043904) := by have := uq_len (zs.take (k + 1)); rw [List.length_take, HZ.out] at this; show _ ≤ _; omega
        clear hm HTk
        obtain ⟨w1, hw1⟩ : ∃ w1, w1 = wr.alloc (.cells #[.bool false, .int .i64 0, .int .i64 0, .int .i64 0, .int .i64 0, .int .i64 0, .string ⟨#[]⟩, .int .i64 0, .int .i64 0, .int .i64 0, .int .i64 0, .int .i64 0] 172) := ⟨_, rfl⟩
        have HK1 : Hid (Kept No w w1) := by rw [hw1]; exact HK.out.alloc _
        have HT1 : Hid (Tal 170 ans w1 (w.heap.size + 1) w.heap.size a cap (tNew Vt (zs.take k) need)) := by rw [hw1]; exact HT.out.no ((Kept.refl No wr).alloc _)
        have d3 := HT1.out.cells.2.2.2
        rw [hw1] at d3
        have HN0 : Hid (cnt (tNew Vt (zs.take k) need) = 0 ∧ cnt (tNew Vt (zs.take (k + 1)) need) = 0) := ⟨cnt_new _ _, cnt_new _ _⟩
        go_wp2_with (first
          | (refine wp_lookupV rfl _ _ 168 172 true rfl w.heap.size z rfl rfl HT.out.map Try.und168 (Try.zero172 _) _ HL.out ?_)
          | (refine wp_updateV rfl _ _ _ 168 172 rfl w.heap.size z (ans none) rfl rfl rfl (by rw [← hw1]; exact HT1.out.map) Try.und168 ?_
             rw [← hw1]
             intro w3 HM3 HK3 hs3
             have HB3 : Hid (Box w3 (w.heap.size + 1) 170 (talC a cap w.heap.size (tNew Vt (zs.take k) need))) := HT1.out.box.kept HK3.out (fun e => HT1.out.ne e)
             have HR3 : Hid (Own 3 1 w3 w.heap.size a cap (uq (zs.take k)).length ((uq (zs.take k)).map (Value.int .i64))) := (show Own 3 1 w1 w.heap.size a cap _ _ by rw [hw1]; exact HOw.out.no ((Kept.refl No wr).alloc _)).kept HK3.out (fun q hq e => (HT1.out.off hq).2 e)
             have e0 := HB3.out.cell 0
             simp only [talC, List.getElem?_toArray, List.getElem?_cons_zero, List.getElem?_cons_succ, tNew] at e0
             have HK3' : Hid (Kept No w w3) := HK1.out.trans HK3.out (fun _ e => e) (fun i hi e => by have : i = w.heap.size := e; omega)
             have hsz : Hid (w.heap.size + 1 < w3.heap.size) := HB3.out.lt
             clear d3 c3 hw1 hs3 HK3)
          | (at_builtin
             refine wp_appV rfl _ _ 24 3 1 8 (.int .i64 0) Try.und24 Try.info3' rfl (by omega) rfl w.heap.size _ cap a _ rfl (HR3.out.no ((Kept.refl No w3).alloc _)) ⟨w3.heap.size, 0, none⟩ 1 1 [.int .i64 z] rfl rfl (cell_new1 _ _ _) (by simp [Value.oneCell']) (by have := HLn.out; omega) (by have := HLn.out; omega) (by omega) (by have := hsz.out; simp; omega) (uq (zs.take (k + 1))).length (by rw [HU.out]; simp) ?_
             intro g' cap' w4 HO4 HK4
             have HK34 : Hid (Kept (At a) w3 w4) := (((Kept.refl No w3).alloc (.cells #[.int .i64 z] 3)).of_no : Kept (At a) w3 _).then HK4.out
             have HB4 : Hid (Box w4 (w.heap.size + 1) 170 (talC a cap w.heap.size (tNew Vt (zs.take k) need))) := HB3.out.kept HK34.out (fun e => (HT1.out.off e).1 rfl)
             have HM4 : Hid (MapIs w4 w.heap.size (tmap ans (tNew Vt (zs.take (k + 1)) need))) := by
               have := HM3.out
               rw [HM.out] at this
               exact this.kept HK34.out (fun e => (HT1.out.off e).2 rfl)
             have HKw : Hid (Kept No w w4) := HK3'.out.trans HK34.out (fun _ e => e) (fun i hi e => by have := HF.out i e; omega)
             have HO5 : Hid (Own 3 1 w4 w.heap.size (some ⟨g', 0, none⟩) cap' (uq (zs.take (k + 1))).length ((uq (zs.take (k + 1))).map (Value.int .i64))) := by
               have := HO4.out
               show Own _ _ _ _ _ _ _ _
               rw [HU.out, List.map_append] at *
               exact this
             have e0' := HB4.out.cell 0
             have f0 := HB4.out.frozen 0
             simp only [talC, List.getElem?_toArray, List.getElem?_cons_zero, List.getElem?_cons_succ, tNew] at e0'
             have hgt : g' ≠ w.heap.size + 1 := fun e => by
               rcases HO5.out.cases (by simp) with ⟨e, _⟩ | ⟨g, e, _, _, sp, hgb, _⟩
               · cases e
               · cases e
                 have hb4 := HB4.out
                 unfold Box at hb4
                 rw [e, hb4] at hgb
                 simp at hgb
             have HGT : Hid (g' ≠ w.heap.size + 1) := hgt
             clear e0 HK4 HK34 HM3 HB3 HR3 HK3' HO4 hgt))
        go_roundw
        case rel =>
          have hks : Kept (Only (w.heap.size + 1)) w4 (w4.setCell ⟨w.heap.size + 1, 0, none⟩ (.slice (some ⟨g', 0, none⟩) (uq (zs.take (k + 1))).length cap')) := (Kept.refl (Only (w.heap.size + 1)) w4).setCell (p := ⟨w.heap.size + 1, 0, none⟩) (fun _ => rfl) _
          have hoff : ∀ q, At (some ⟨g', 0, none⟩) q → ¬ Only (w.heap.size + 1) q := fun q hq e => by
            obtain ⟨ad, e1, rfl⟩ := hq
            cases e1
            exact HGT.out e
          refine ⟨k + 1, by go_num, by omega, ⟨some ⟨g', 0, none⟩, cap', ⟨?_, ?_, ?_, uq_nodup _, HLn2.out, by decide⟩, HO5.out.kept hks hoff, HKw.out.setCell (p := ⟨w.heap.size + 1, 0, none⟩) (fun h => by have : w.heap.size + 1 < w.heap.size := h; omega) _⟩⟩
          · have := HB4.out.set 0 (.slice (some ⟨g', 0, none⟩) (uq (zs.take (k + 1))).length cap')
            unfold talC at this ⊢
            rw [HN0.out.1] at this
            rw [HN0.out.2]
            exact this
          · exact HM4.out.kept hks (fun e => by have : w.heap.size = w.heap.size + 1 := e; omega)
          · exact Own.lower (HO5.out.kept hks hoff) (Nat.zero_le _)
        case measure => simp [intOf]; omega
    · have hlt' : ¬ (k : Int) < (n0 : Int) := by omega
      obtain rfl : k = n0 := by omega
      go_wp2
      go_ret
      exact ⟨a, cap, rfl, by have := HT.out; rw [List.take_of_length_le (by rw [HZ.out]; omega)] at this; exact this, HF.out, HK.out⟩


theorem look1_some {x : TS Vt} {s : Int} {v : Vt} (h : s ∈ x.g) (hv : x.v s = some v) : tupOk ((tmap ans x s).getD (.agg #[.bool false, .int .i64 0, .int .i64 0, .int .i64 0, .int .i64 0, .int .i64 0, .string ⟨#[]⟩, .int .i64 0, .int .i64 0, .int .i64 0, .int .i64 0, .int .i64 0])) (tmap ans x s).isSome false = .agg #[.bool true, .int .i64 v.n, .int .i64 v.b, .int .i64 v.k, .int .i64 v.cl, .int .i64 v.op, .string v.nm, .int .i64 v.f0, .int .i64 v.f1, .int .i64 v.g0, .int .i64 v.g1, .int .i64 v.sz] := by
  rw [tmap_some h hv]; rfl
theorem look1_none {x : TS Vt} {s : Int} (h : s ∈ x.g) (hv : x.v s = none) : tupOk ((tmap ans x s).getD (.agg #[.bool false, .int .i64 0, .int .i64 0, .int .i64 0, .int .i64 0, .int .i64 0, .string ⟨#[]⟩, .int .i64 0, .int .i64 0, .int .i64 0, .int .i64 0, .int .i64 0])) (tmap ans x s).isSome false = .agg #[.bool false, .int .i64 0, .int .i64 0, .int .i64 0, .int .i64 0, .int .i64 0, .string ⟨#[]⟩, .int .i64 0, .int .i64 0, .int .i64 0, .int .i64 0, .int .i64 0] := by
  rw [tmap_none h hv]; rfl


set_option maxRecDepth 100000 in
set_option maxHeartbeats 2000000 in
theorem take_any (t b cap : Nat) (a : Option Addr) (x : TS Vt) (s : Int) (v : Vt) (w : World) (h : Tal 170 ans w t b a cap x) :
    Calls Try.prog 80 #[.pointer (some ⟨t, 0, none⟩), .int .i64 s, .agg #[.int .i64 v.n, .int .i64 v.b, .int .i64 v.k, .int .i64 v.cl, .int .i64 v.op, .string v.nm, .int .i64 v.f0, .int .i64 v.f1, .int .i64 v.g0, .int .i64 v.g1, .int .i64 v.sz]] w (TakeOut w t b cap a x s v) := by
  obtain ⟨w0, hw0⟩ : ∃ w0, w0 = w.alloc (.cells #[.int .i64 v.n, .int .i64 v.b, .int .i64 v.k, .int .i64 v.cl, .int .i64 v.op, .string v.nm, .int .i64 v.f0, .int .i64 v.f1, .int .i64 v.g0, .int .i64 v.g1, .int .i64 v.sz] 153) := ⟨_, rfl⟩
  have HK0 : Hid (Kept No w w0) := by rw [hw0]; exact (Kept.refl No w).alloc _
  have HT : Hid (Tal 170 ans w0 t b a cap x) := h.no HK0.out
  obtain ⟨N, hN⟩ : ∃ N, N = w.heap.size := ⟨_, rfl⟩
  have HX : Hid (Box w0 N 153 #[.int .i64 v.n, .int .i64 v.b, .int .i64 v.k, .int .i64 v.cl, .int .i64 v.op, .string v.nm, .int .i64 v.f0, .int .i64 v.f1, .int .i64 v.g0, .int .i64 v.g1, .int .i64 v.sz]) := by rw [hw0, hN]; exact Box.new _ _ _
  have hlt := h.map.lt
  have htl := h.box.lt
  have HNe : Hid (N ≠ t ∧ N ≠ b) := by rw [hN]; exact ⟨by omega, by omega⟩
  clear hlt htl
  obtain ⟨c0, c1, c2, c3⟩ := HT.out.cells
  rw [hw0] at c3
  clear c0 c1 c2
  by_cases hs : s ∈ x.g
  · cases hv : x.v s with
    | some u =>
      have hN' : Hid (takeB x s = false ∧ takeS x s v = x) := takeNo (by unfold mayB; simp [hv])
      have HL : Hid _ := look_some hs hv
      clear h hs hv
      go_enter Try.func80, Try.ntmps80
      go_wp2_with (refine wp_lookupV rfl _ _ 168 172 true rfl b s rfl rfl (by rw [← hw0]; exact HT.out.map) Try.und168 (Try.zero172 _) _ HL.out ?_)
      go_ret
      rw [← hw0]
      have hk := (Kept.refl No w0).alloc (.cells #[.bool true, .int .i64 u.n, .int .i64 u.b, .int .i64 u.k, .int .i64 u.cl, .int .i64 u.op, .string u.nm, .int .i64 u.f0, .int .i64 u.f1, .int .i64 u.g0, .int .i64 u.g1, .int .i64 u.sz] 172)
      exact ⟨ret_bool hN'.out.1.symm, by rw [hN'.out.2]; exact HT.out.no hk, (HK0.out.then hk).of_no⟩
    | none =>
      have HL : Hid _ := look_none hs hv
      obtain ⟨w1, hw1⟩ : ∃ w1, w1 = w0.alloc (.cells #[.bool false, .int .i64 0, .int .i64 0, .int .i64 0, .int .i64 0, .int .i64 0, .string ⟨#[]⟩, .int .i64 0, .int .i64 0, .int .i64 0, .int .i64 0, .int .i64 0] 172) := ⟨_, rfl⟩
      have HK1 : Hid (Kept No w0 w1) := by rw [hw1]; exact (Kept.refl No w0).alloc _
      have HT1 : Hid (Tal 170 ans w1 t b a cap x) := HT.out.no HK1.out
      by_cases hE : enB x = true
      · have hN' : Hid (takeB x s = false ∧ takeS x s v = x) := takeNo (by unfold mayB; simp [hE])
        have HE : Hid (enB x = true) := hE
        clear h hs hv hE
        go_enter Try.func80, Try.ntmps80
        go_wp2_with (first
          | (refine wp_lookupV rfl _ _ 168 172 true rfl b s rfl rfl (by rw [← hw0]; exact HT.out.map) Try.und168 (Try.zero172 _) _ HL.out ?_)
          | (go_at_call 91
             rw [← hw0, ← hw1]
             refine Calls.mono (enough_any t b cap a x w1 HT1.out) ?_
             rintro e w2 ⟨rfl, ⟨n, hw2⟩⟩
             have HK2 : Hid (Kept No w w2) := by rw [hw2]; exact (HK0.out.then HK1.out).drewN n
             have HT2 : Hid (Tal 170 ans w2 t b a cap x) := by rw [hw2]; exact HT1.out.no (Kept.no_drewN _ _)
             rw [HE.out]
             clear hw2 hw1))
        go_ret
        exact ⟨ret_bool hN'.out.1.symm, by rw [hN'.out.2]; exact HT2.out, HK2.out.of_no⟩
      · have HE : Hid (enB x = false) := by cases h : enB x; rfl; exact absurd h hE
        have hM : Hid (takeB x s = enB (putS x s v) ∧ takeS x s v = putS x s v ∧ cnt (putS x s v) = cnt x + 1) := by
          have hm : mayB x s = true := by unfold mayB; simp [hs, hv, HE.out]
          have hc := cnt_put (v := v) h.nd hs hv
          refine ⟨?_, by unfold takeS; rw [if_pos hm], hc⟩
          unfold takeB enB
          rw [hm, hc, Bool.true_and]
          exact decide_eq_decide.2 (by simp only [putS]; omega)
        have HS : Hid (updG (tmap ans x) s (some (ans (some v))) = tmap ans (putS x s v)) := tmap_put hs
        have hcl := cnt_le x
        have hgl := h.len
        have hcb : (cnt x : Int) ≤ 17592186043904 := by omega
        have hc0 : (0 : Int) ≤ cnt x := by omega
        clear h hs hv hE hcl hgl
        have HC : Hid ((cnt x : Int) ≤ 17592186043904 ∧ (0 : Int) ≤ cnt x) := ⟨hcb, hc0⟩
        go_enter Try.func80, Try.ntmps80
        go_upto_region 4 with (first
          | (refine wp_lookupV rfl _ _ 168 172 true rfl b s rfl rfl (by rw [← hw0]; exact HT.out.map) Try.und168 (Try.zero172 _) _ HL.out ?_)
          | (go_at_call 91
             rw [← hw0, ← hw1]
             refine Calls.mono (enough_any t b cap a x w1 HT1.out) ?_
             rintro e w2 ⟨rfl, ⟨n, hw2⟩⟩
             have HK2 : Hid (Kept No w0 w2) := by rw [hw2]; exact HK1.out.drewN n
             have HT2 : Hid (Tal 170 ans w2 t b a cap x) := HT.out.no HK2.out
             have HX2 : Hid (Box w2 N 153 #[.int .i64 v.n, .int .i64 v.b, .int .i64 v.k, .int .i64 v.cl, .int .i64 v.op, .string v.nm, .int .i64 v.f0, .int .i64 v.f1, .int .i64 v.g0, .int .i64 v.g1, .int .i64 v.sz]) := HX.out.kept HK2.out (fun e => e)
             rw [HE.out]
             clear hw2 hw1))
        rw [← hN]
        clear hw0 hN c3
        have d3 := HT2.out.cells.2.2.2
        obtain ⟨x0, x1, x2, x3, x4, x5, x6, x7, x8, x9, x10⟩ : w2.cell? ⟨N, 0, none⟩ = some (.int .i64 v.n) ∧ w2.cell? ⟨N, 1, none⟩ = some (.int .i64 v.b) ∧ w2.cell? ⟨N, 2, none⟩ = some (.int .i64 v.k) ∧ w2.cell? ⟨N, 3, none⟩ = some (.int .i64 v.cl) ∧ w2.cell? ⟨N, 4, none⟩ = some (.int .i64 v.op) ∧ w2.cell? ⟨N, 5, none⟩ = some (.string v.nm) ∧ w2.cell? ⟨N, 6, none⟩ = some (.int .i64 v.f0) ∧ w2.cell? ⟨N, 7, none⟩ = some (.int .i64 v.f1) ∧ w2.cell? ⟨N, 8, none⟩ = some (.int .i64 v.g0) ∧ w2.cell? ⟨N, 9, none⟩ = some (.int .i64 v.g1) ∧ w2.cell? ⟨N, 10, none⟩ = some (.int .i64 v.sz) := ⟨HX2.out.cell 0, HX2.out.cell 1, HX2.out.cell 2, HX2.out.cell 3, HX2.out.cell 4, HX2.out.cell 5, HX2.out.cell 6, HX2.out.cell 7, HX2.out.cell 8, HX2.out.cell 9, HX2.out.cell 10⟩
        have h3 : Try.prog.underlying 3 = some (.int .i64) := Try.und3
        obtain ⟨w3, hrun, hM3, hK3, hs3⟩ := run_update_v (P := Try.prog) (w := w2.drew) (HT2.out.no (Kept.refl No w2).drew).map Try.und168 h3 s (ans (some v))
        have HM3 : Hid (MapIs w3 b (updG (tmap ans x) s (some (ans (some v))))) := hM3
        have HK3 : Hid (Kept (Only b) w2.drew w3) := hK3
        have HB3 : Hid (Box w3 t 170 (talC a cap b x)) := (HT2.out.no (Kept.refl No w2).drew).box.kept hK3 (fun e => HT2.out.ne e)
        have z3 : w3.cell? ⟨t, 3, none⟩ = some (.map (some b)) := HB3.out.cell 3
        have HX3 : Hid (Box w3 N 153 #[.int .i64 v.n, .int .i64 v.b, .int .i64 v.k, .int .i64 v.cl, .int .i64 v.op, .string v.nm, .int .i64 v.f0, .int .i64 v.f1, .int .i64 v.g0, .int .i64 v.g1, .int .i64 v.sz]) := (HX2.out.kept (Kept.refl No w2).drew (fun e => e)).kept hK3 (fun e => HNe.out.2 e)
        obtain ⟨y0, y1, y2, y3, y4, y5, y6, y7, y8, y9, y10⟩ : w3.cell? ⟨N, 0, none⟩ = some (.int .i64 v.n) ∧ w3.cell? ⟨N, 1, none⟩ = some (.int .i64 v.b) ∧ w3.cell? ⟨N, 2, none⟩ = some (.int .i64 v.k) ∧ w3.cell? ⟨N, 3, none⟩ = some (.int .i64 v.cl) ∧ w3.cell? ⟨N, 4, none⟩ = some (.int .i64 v.op) ∧ w3.cell? ⟨N, 5, none⟩ = some (.string v.nm) ∧ w3.cell? ⟨N, 6, none⟩ = some (.int .i64 v.f0) ∧ w3.cell? ⟨N, 7, none⟩ = some (.int .i64 v.f1) ∧ w3.cell? ⟨N, 8, none⟩ = some (.int .i64 v.g0) ∧ w3.cell? ⟨N, 9, none⟩ = some (.int .i64 v.g1) ∧ w3.cell? ⟨N, 10, none⟩ = some (.int .i64 v.sz) := ⟨HX3.out.cell 0, HX3.out.cell 1, HX3.out.cell 2, HX3.out.cell 3, HX3.out.cell 4, HX3.out.cell 5, HX3.out.cell 6, HX3.out.cell 7, HX3.out.cell 8, HX3.out.cell 9, HX3.out.cell 10⟩
        unfold ans at hrun
        clear hM3 hK3 hs3 h3
        go_region_held3 (fun w' => w'.cell? ⟨t, 3, none⟩ = some (.map (some b)) ∧ w'.cell? ⟨N, 0, none⟩ = some (.int .i64 v.n) ∧ w'.cell? ⟨N, 1, none⟩ = some (.int .i64 v.b) ∧ w'.cell? ⟨N, 2, none⟩ = some (.int .i64 v.k) ∧ w'.cell? ⟨N, 3, none⟩ = some (.int .i64 v.cl) ∧ w'.cell? ⟨N, 4, none⟩ = some (.int .i64 v.op) ∧ w'.cell? ⟨N, 5, none⟩ = some (.string v.nm) ∧ w'.cell? ⟨N, 6, none⟩ = some (.int .i64 v.f0) ∧ w'.cell? ⟨N, 7, none⟩ = some (.int .i64 v.f1) ∧ w'.cell? ⟨N, 8, none⟩ = some (.int .i64 v.g0) ∧ w'.cell? ⟨N, 9, none⟩ = some (.int .i64 v.g1) ∧ w'.cell? ⟨N, 10, none⟩ = some (.int .i64 v.sz)) (first | go_keep | exact ⟨z3, y0, y1, y2, y3, y4, y5, y6, y7, y8, y9, y10⟩) (fail)
        have e2 := HB3.out.cell 2
        have f2 := HB3.out.frozen 2
        simp only [talC, List.getElem?_toArray, List.getElem?_cons_zero, List.getElem?_cons_succ] at e2
        obtain ⟨w4, hw4⟩ : ∃ w4, w4 = w3.setCell ⟨t, 2, none⟩ (.int .i64 (cnt x + 1)) := ⟨_, rfl⟩
        have HB4 : Hid (Box w4 t 170 (talC a cap b (putS x s v))) := by
          rw [hw4]
          have := HB3.out.set 2 (.int .i64 (cnt x + 1))
          unfold talC at this ⊢
          rw [hM.out.2.2]
          exact this
        have HK4 : Hid (Kept (Tb2 t b) w0 w4) := by
          rw [hw4]
          exact ((HK2.out.drew).trans HK3.out (fun _ e => e.elim) (fun _ _ e => .inr e)).setCell (p := ⟨t, 2, none⟩) (fun _ => .inl rfl) _
        have HT4 : Hid (Tal 170 ans w4 t b a cap (putS x s v)) := by
          refine ⟨HB4.out, ?_, ?_, HT.out.nd, HT.out.len, HT.out.ty⟩
          · have := HM3.out
            rw [HS.out] at this
            rw [hw4]
            exact this.kept ((Kept.refl (Only t) w3).setCell (p := ⟨t, 2, none⟩) (fun _ => rfl) _) (fun e => HT.out.ne e.symm)
          · exact HT.out.row.kept HK4.out (fun k hk e => by
              obtain ⟨h1, h2⟩ := HT.out.off hk
              rcases e with e | e
              · exact h1 e
              · exact h2 e)
        clear HM3 HB4 d3 z3 hrun
        go_wp2_with (first
          | (go_at_call 91
             rw [← hw4]
             refine Calls.mono (enough_any t b cap a (putS x s v) w4 HT4.out) ?_
             rintro e w5 ⟨rfl, ⟨n5, hw5⟩⟩
             have HK5 : Hid (Kept (Tb2 t b) w w5) := by rw [hw5]; exact HK0.out.of_no.then (HK4.out.drewN n5)
             have HT5 : Hid (Tal 170 ans w5 t b a cap (putS x s v)) := by rw [hw5]; exact HT4.out.no (Kept.no_drewN _ _)
             clear hw5 hw4))
        go_ret
        exact ⟨ret_bool hM.out.1.symm, by rw [hM.out.2.1]; exact HT5.out, HK5.out⟩
  · have hN' : Hid (takeB x s = false ∧ takeS x s v = x) := takeNo (by unfold mayB; simp [hs])
    have HL : Hid _ := look_no hs
    clear h hs
    go_enter Try.func80, Try.ntmps80
    go_wp2_with (refine wp_lookupV rfl _ _ 168 172 true rfl b s rfl rfl (by rw [← hw0]; exact HT.out.map) Try.und168 (Try.zero172 _) _ HL.out ?_)
    go_ret
    rw [← hw0]
    have hk := (Kept.refl No w0).alloc (.cells #[.bool false, .int .i64 0, .int .i64 0, .int .i64 0, .int .i64 0, .int .i64 0, .string ⟨#[]⟩, .int .i64 0, .int .i64 0, .int .i64 0, .int .i64 0, .int .i64 0] 172)
    exact ⟨ret_bool hN'.out.1.symm, by rw [hN'.out.2]; exact HT.out.no hk, (HK0.out.then hk).of_no⟩



theorem Try.und181 : Try.prog.underlying 181 = some (.slice 183) := by kernel_rfl
theorem Try.info183 : (Try.prog.info? 183).map (fun i => (i.zero, i.size, i.bytes)) = some (some (.agg #[.int .i64 0, .int .i64 0, .int .i64 0, .int .i64 0, .int .i64 0, .int .i64 0, .string ⟨#[]⟩, .int .i64 0, .int .i64 0, .int .i64 0, .int .i64 0, .int .i64 0]), 12, 104) := by kernel_rfl
/-- Pairs as cells. -/
def prs : List (Int × Vt) → List Value
  | [] => []
  | p :: l => .int .i64 p.1 :: .int .i64 p.2.n :: .int .i64 p.2.b :: .int .i64 p.2.k :: .int .i64 p.2.cl :: .int .i64 p.2.op :: .string p.2.nm :: .int .i64 p.2.f0 :: .int .i64 p.2.f1 :: .int .i64 p.2.g0 :: .int .i64 p.2.g1 :: .int .i64 p.2.sz :: prs l
theorem prs_app (a b : List (Int × Vt)) : prs (a ++ b) = prs a ++ prs b := by
  induction a with
  | nil => rfl
  | cons p l ih => simp [prs, ih]
theorem prs_len (a : List (Int × Vt)) : (prs a).length = a.length * 12 := by
  induction a with
  | nil => rfl
  | cons p l ih => simp [prs, ih]; omega
theorem prs_at : ∀ (a : List (Int × Vt)) (i : Nat) (p : Int × Vt), a[i]? = some p → (prs a)[i * 12]? = some (.int .i64 p.1) ∧ (prs a)[i * 12 + 1]? = some (.int .i64 p.2.n) ∧ (prs a)[i * 12 + 2]? = some (.int .i64 p.2.b) ∧ (prs a)[i * 12 + 3]? = some (.int .i64 p.2.k) ∧ (prs a)[i * 12 + 4]? = some (.int .i64 p.2.cl) ∧ (prs a)[i * 12 + 5]? = some (.int .i64 p.2.op) ∧ (prs a)[i * 12 + 6]? = some (.string p.2.nm) ∧ (prs a)[i * 12 + 7]? = some (.int .i64 p.2.f0) ∧ (prs a)[i * 12 + 8]? = some (.int .i64 p.2.f1) ∧ (prs a)[i * 12 + 9]? = some (.int .i64 p.2.g0) ∧ (prs a)[i * 12 + 10]? = some (.int .i64 p.2.g1) ∧ (prs a)[i * 12 + 11]? = some (.int .i64 p.2.sz)
  | q :: l, 0, p, h => by simp at h; subst h; exact ⟨rfl, rfl, rfl, rfl, rfl, rfl, rfl, rfl, rfl, rfl, rfl, rfl⟩
  | q :: l, i + 1, p, h => by
    have := prs_at l i p (by simpa using h)
    have e : (i + 1) * 12 = i * 12 + 1 + 1 + 1 + 1 + 1 + 1 + 1 + 1 + 1 + 1 + 1 + 1 := by omega
    rw [e]
    simpa [prs] using this

def GotOut (w : World) (l : List (Int × Vt)) (e : Ending) (w' : World) : Prop :=
  ∃ a cap, e = .returned (.func (.func 96) #[] #[.pointer (some ⟨w.heap.size, 0, none⟩)]) ∧ Box w' w.heap.size 181 #[.slice a l.length cap] ∧ Own 183 12 w' w.heap.size a cap l.length (prs l) ∧ Kept No w w'

set_option maxRecDepth 100000 in
set_option maxHeartbeats 2000000 in
theorem gotten_any (t b cap : Nat) (a : Option Addr) (x : TS Vt) (w : World) (h : Tal 170 ans w t b a cap x) (hc : cnt x ≤ 1000000000000) :
    Calls Try.prog 92 #[.pointer (some ⟨t, 0, none⟩)] w (GotOut w (gotL x)) := by
  have HT : Hid (Tal 170 ans w t b a cap x) := h
  have HC : Hid (cnt x ≤ 1000000000000) := hc
  have hlen := h.len
  obtain ⟨w0, hw0⟩ : ∃ w0, w0 = w.alloc (.cells #[.slice none 0 0] 181) := ⟨_, rfl⟩
  have HB0 : Hid (Box w0 w.heap.size 181 #[.slice none 0 0]) := by rw [hw0]; exact Box.new _ _ _
  have HK0 : Hid (Kept No w w0) := by rw [hw0]; exact (Kept.refl No w).alloc _
  have c0 := (h.no HK0.out).cells.1
  clear h hc
  obtain ⟨n, hn⟩ : ∃ n, n = x.g.length := ⟨_, rfl⟩
  have HN : Hid (x.g.length = n) := hn.symm
  rw [← hn] at c0 hlen
  clear hn
  rw [hw0] at c0
  go_enter Try.func92, Try.ntmps92
  go_wp2
  rw [← hw0]
  clear hw0 c0
  go_loopw [12] (fun vi wr => ∃ (k : Nat), vi = .int .i64 k ∧ k ≤ n ∧ Hid (∃ (a' : Option Addr) (cap' : Nat), Box wr w.heap.size 181 #[.slice a' (gotK x k).length cap'] ∧ Own 183 12 wr w.heap.size a' cap' (gotK x k).length (prs (gotK x k))) ∧ Hid (Kept No w wr)) (fun i _ => n - (intOf i).toNat)
  case atStart => exact ⟨0, by go_num, by omega, ⟨none, 0, by simpa [gotK] using HB0.out, by simpa [gotK, prs] using Own.nil _ _ _ _⟩, HK0⟩
  case round =>
    obtain ⟨k, rfl, hk, HI, HK⟩ := hrel
    clear HB0 HK0
    obtain ⟨a', cap', hB, hO⟩ := HI.out
    have HB : Hid (Box wr w.heap.size 181 #[.slice a' (gotK x k).length cap']) := hB
    have HO : Hid (Own 183 12 wr w.heap.size a' cap' (gotK x k).length (prs (gotK x k))) := hO
    clear hB hO HI
    by_cases hlt : k < n
    · have hlt' : (k : Int) < (n : Int) := by omega
      have HT1 : Hid (Tal 170 ans wr t b a cap x) := HT.out.no HK.out
      have d3 := HT1.out.cells.2.2.2
      have HJL : Hid (k < x.g.length) := by show _ < _; rw [HN.out]; exact hlt
      obtain ⟨bb, off, rfl, hcell⟩ := HT1.out.nums k HJL.out
      have HTk : Hid (x.g.take (k + 1) = x.g.take k ++ [x.g[k]?.getD 0]) := take_snoc HJL.out
      have HMem : Hid (x.g[k]?.getD 0 ∈ x.g) := mem_at HJL.out
      generalize x.g[k]?.getD 0 = z at hcell HTk HMem
      cases hv : x.v z with
      | none =>
        have HL : Hid _ := look1_none HMem.out hv
        have HU : Hid (gotK x (k + 1) = gotK x k) := gotK_none HTk.out hv
        clear hv HTk
        go_wp2_with (refine wp_lookupV rfl _ _ 168 172 false rfl b z rfl rfl HT1.out.map Try.und168 (Try.zero172 _) _ HL.out ?_)
        go_roundw
        case rel => exact ⟨k + 1, by go_num, by omega, ⟨a', cap', by rw [HU.out]; exact HB.out.alloc _, by rw [HU.out]; exact HO.out.no ((Kept.refl No wr).alloc _)⟩, HK.out.alloc _⟩
        case measure => simp [intOf]; omega
      | some u =>
        have HL : Hid _ := look1_some HMem.out hv
        have HU : Hid (gotK x (k + 1) = gotK x k ++ [(z, u)]) := gotK_some HTk.out hv
        have HLn : Hid ((gotK x k).length + 1 ≤ 1000000000000) := by
          have h1 := gotK_len x (k + 1)
          have h2 := HC.out
          rw [HU.out] at h1
          simp at h1
          show _ ≤ _
          omega
        obtain ⟨w1, hw1⟩ : ∃ w1, w1 = wr.alloc (.cells #[.bool true, .int .i64 u.n, .int .i64 u.b, .int .i64 u.k, .int .i64 u.cl, .int .i64 u.op, .string u.nm, .int .i64 u.f0, .int .i64 u.f1, .int .i64 u.g0, .int .i64 u.g1, .int .i64 u.sz] 172) := ⟨_, rfl⟩
        have HK1 : Hid (Kept No w w1) := by rw [hw1]; exact HK.out.alloc _
        have HB1 : Hid (Box w1 w.heap.size 181 #[.slice a' (gotK x k).length cap']) := by rw [hw1]; exact HB.out.alloc _
        have HO1 : Hid (Own 183 12 w1 w.heap.size a' cap' (gotK x k).length (prs (gotK x k))) := by rw [hw1]; exact HO.out.no ((Kept.refl No wr).alloc _)
        have hsz : Hid (w.heap.size < w1.heap.size) := HB1.out.lt
        have HSZ : Hid (wr.heap.size + 1 = w1.heap.size) := by rw [hw1]; show _ = _; simp
        have e0 := HB1.out.cell 0
        simp only [List.getElem?_toArray, List.getElem?_cons_zero] at e0
        rw [hw1] at e0
        clear hv HTk
        go_wp2_with (first
          | (refine wp_lookupV rfl _ _ 168 172 false rfl b z rfl rfl HT1.out.map Try.und168 (Try.zero172 _) _ HL.out ?_)
          | (at_builtin
             rw [← hw1]
             refine wp_appV rfl _ _ 181 183 12 104 (.agg #[.int .i64 0, .int .i64 0, .int .i64 0, .int .i64 0, .int .i64 0, .int .i64 0, .string ⟨#[]⟩, .int .i64 0, .int .i64 0, .int .i64 0, .int .i64 0, .int .i64 0]) Try.und181 Try.info183 rfl (by omega) rfl w.heap.size _ cap' a' _ rfl (HO1.out.no ((Kept.refl No w1).alloc _)) ⟨wr.heap.size + 1, 0, none⟩ 1 1 [.int .i64 z, .int .i64 u.n, .int .i64 u.b, .int .i64 u.k, .int .i64 u.cl, .int .i64 u.op, .string u.nm, .int .i64 u.f0, .int .i64 u.f1, .int .i64 u.g0, .int .i64 u.g1, .int .i64 u.sz] rfl rfl (by rw [HSZ.out]; exact cell_newL _ _ _) (by simp [Value.oneCell']) (by have := HLn.out; omega) (by have := HLn.out; omega) (by omega) (by have := hsz.out; simp; omega) (gotK x (k + 1)).length (by rw [HU.out]; simp) ?_
             intro g' cap'' w4 HO4 HK4
             have HOff : Hid (∀ q, At a' q → q ≠ w.heap.size) := by
               intro q hq e
               rcases HO1.out.cases (prs_len _) with ⟨rfl, _⟩ | ⟨g, rfl, _, _, sp, hgb, _⟩
               · exact absurd hq At.none
               · obtain ⟨ad, e1, rfl⟩ := hq
                 cases e1
                 have e : g = w.heap.size := e
                 have hb4 := HB1.out
                 unfold Box at hb4
                 rw [e, hb4] at hgb
                 simp at hgb
             have HKw : Hid (Kept No w w4) := (HK1.out.alloc _).trans HK4.out (fun _ e => e) (fun i hi e => by have := HO.out.base e; omega)
             have HB4 : Hid (Box w4 w.heap.size 181 #[.slice a' (gotK x k).length cap']) := (HB1.out.alloc _).kept HK4.out (fun e => HOff.out _ e rfl)
             have HO5 : Hid (Own 183 12 w4 w.heap.size (some ⟨g', 0, none⟩) cap'' (gotK x (k + 1)).length (prs (gotK x (k + 1)))) := by
               have := HO4.out
               show Own _ _ _ _ _ _ _ _
               rw [HU.out, prs_app] at *
               exact this
             have HGT : Hid (g' ≠ w.heap.size) := by
               intro e
               rcases HO5.out.cases (prs_len _) with ⟨e, _⟩ | ⟨g, e1, _, _, sp, hgb, _⟩
               · cases e
               · cases e1
                 have hb4 := HB4.out
                 unfold Box at hb4
                 rw [e, hb4] at hgb
                 simp at hgb
             have f0 := HB4.out.frozen 0
             have e0' := HB4.out.cell 0
             simp only [List.getElem?_toArray, List.getElem?_cons_zero] at e0'
             clear HO4 HK4 e0 hw1))
        go_roundw
        case rel =>
          refine ⟨k + 1, by go_num, by omega, ⟨some ⟨g', 0, none⟩, cap'', HB4.out.set 0 _, HO5.out.kept ((Kept.refl (Only w.heap.size) w4).setCell (p := ⟨w.heap.size, 0, none⟩) (fun _ => rfl) _) (fun q hq e => ?_)⟩, HKw.out.setCell (p := ⟨w.heap.size, 0, none⟩) (fun h => by have : w.heap.size < w.heap.size := h; omega) _⟩
          obtain ⟨ad, e1, rfl⟩ := hq
          cases e1
          exact HGT.out e
        case measure => simp [intOf]; omega
    · have hlt' : ¬ (k : Int) < (n : Int) := by omega
      obtain rfl : k = n := by omega
      have HA : Hid (gotK x k = gotL x) := by show _ = _; rw [← HN.out]; exact gotK_all x
      go_wp2
      go_ret
      rw [HA.out] at HO HB
      exact ⟨a', cap', rfl, HB.out, HO.out, HK.out⟩



theorem take_next {ps : List (Int × Vt)} {k : Nat} (h : k < ps.length) : ps.take k ++ [ps[k]?.getD default] = ps.take (k + 1) := by
  rw [List.take_succ_eq_append_getElem h, List.getElem?_eq_getElem h]; rfl

/-- A sequence of answers in memory: the box that its function holds, the row behind it. -/
structure SeqAt (W : World) (lb : Nat) (a : Option Addr) (cap : Nat) (ps : List (Int × Vt)) : Prop where
  box : Box W lb 181 #[.slice a ps.length cap]
  row : Own 183 12 W 0 a cap ps.length (prs ps)
def SB (lb : Nat) (a : Option Addr) : Nat → Prop := fun k => k = lb ∨ At a k
def NB (lb : Nat) (a : Option Addr) : Nat → Prop := fun k => ¬ SB lb a k
theorem SeqAt.kept {S : Nat → Prop} {W W' : World} {lb cap : Nat} {a : Option Addr} {ps : List (Int × Vt)} (h : SeqAt W lb a cap ps) (hk : Kept S W W') (hS : ∀ k, SB lb a k → ¬ S k) : SeqAt W' lb a cap ps :=
  ⟨h.box.kept hk (hS _ (.inl rfl)), h.row.kept hk (fun k e => hS k (.inr e))⟩
theorem SeqAt.nb {W W' : World} {lb cap : Nat} {a : Option Addr} {ps : List (Int × Vt)} (h : SeqAt W lb a cap ps) (hk : Kept (NB lb a) W W') : SeqAt W' lb a cap ps := h.kept hk (fun _ e f => f e)
theorem SeqAt.lt {W : World} {lb cap : Nat} {a : Option Addr} {ps : List (Int × Vt)} (h : SeqAt W lb a cap ps) {k : Nat} (hk : SB lb a k) : k < W.heap.size := by
  rcases hk with rfl | hk
  · exact h.box.lt
  · rcases h.row.cases (prs_len _) with ⟨rfl, _⟩ | ⟨g, rfl, _, hlt, _⟩
    · exact absurd hk At.none
    · obtain ⟨ad, e, rfl⟩ := hk
      cases e; exact hlt
theorem SeqAt.at {W : World} {lb cap : Nat} {a : Option Addr} {ps : List (Int × Vt)} (h : SeqAt W lb a cap ps) {i : Nat} (hi : i < ps.length) :
    ∃ pg, a = some ⟨pg, 0, none⟩ ∧ W.cell? ⟨pg, i * 12, none⟩ = some (.int .i64 (ps[i]?.getD default).1) ∧ W.cell? ⟨pg, i * 12 + 1, none⟩ = some (.int .i64 (ps[i]?.getD default).2.n) ∧ W.cell? ⟨pg, i * 12 + 2, none⟩ = some (.int .i64 (ps[i]?.getD default).2.b) ∧ W.cell? ⟨pg, i * 12 + 3, none⟩ = some (.int .i64 (ps[i]?.getD default).2.k) ∧ W.cell? ⟨pg, i * 12 + 4, none⟩ = some (.int .i64 (ps[i]?.getD default).2.cl) ∧ W.cell? ⟨pg, i * 12 + 5, none⟩ = some (.int .i64 (ps[i]?.getD default).2.op) ∧ W.cell? ⟨pg, i * 12 + 6, none⟩ = some (.string (ps[i]?.getD default).2.nm) ∧ W.cell? ⟨pg, i * 12 + 7, none⟩ = some (.int .i64 (ps[i]?.getD default).2.f0) ∧ W.cell? ⟨pg, i * 12 + 8, none⟩ = some (.int .i64 (ps[i]?.getD default).2.f1) ∧ W.cell? ⟨pg, i * 12 + 9, none⟩ = some (.int .i64 (ps[i]?.getD default).2.g0) ∧ W.cell? ⟨pg, i * 12 + 10, none⟩ = some (.int .i64 (ps[i]?.getD default).2.g1) ∧ W.cell? ⟨pg, i * 12 + 11, none⟩ = some (.int .i64 (ps[i]?.getD default).2.sz) := by
  rcases h.row.cases (prs_len _) with ⟨rfl, _, h0⟩ | ⟨g, rfl, _, hlt, sp, hg, _⟩
  · omega
  · have hb : Box W g 183 (prs ps ++ sp).toArray := hg
    have hp : ps[i]? = some (ps[i]?.getD default) := by rw [List.getElem?_eq_getElem hi]; rfl
    obtain ⟨p1, p2, p3, p4, p5, p6, p7, p8, p9, p10, p11, p12⟩ := prs_at ps i _ hp
    have hl := prs_len ps
    refine ⟨g, rfl, ?_, ?_, ?_, ?_, ?_, ?_, ?_, ?_, ?_, ?_, ?_, ?_⟩
    · rw [hb.cell, List.getElem?_toArray, List.getElem?_append_left (by omega), p1]
    · rw [hb.cell, List.getElem?_toArray, List.getElem?_append_left (by omega), p2]
    · rw [hb.cell, List.getElem?_toArray, List.getElem?_append_left (by omega), p3]
    · rw [hb.cell, List.getElem?_toArray, List.getElem?_append_left (by omega), p4]
    · rw [hb.cell, List.getElem?_toArray, List.getElem?_append_left (by omega), p5]
    · rw [hb.cell, List.getElem?_toArray, List.getElem?_append_left (by omega), p6]
    · rw [hb.cell, List.getElem?_toArray, List.getElem?_append_left (by omega), p7]
    · rw [hb.cell, List.getElem?_toArray, List.getElem?_append_left (by omega), p8]
    · rw [hb.cell, List.getElem?_toArray, List.getElem?_append_left (by omega), p9]
    · rw [hb.cell, List.getElem?_toArray, List.getElem?_append_left (by omega), p10]
    · rw [hb.cell, List.getElem?_toArray, List.getElem?_append_left (by omega), p11]
    · rw [hb.cell, List.getElem?_toArray, List.getElem?_append_left (by omega), p12]
set_option maxRecDepth 100000 in
set_option maxHeartbeats 2000000 in
/-- What Got tells, gone over. -/
theorem it_in (F : Fence) (n : Nat) (h37 : F.fn 96) (hro : F.round = none) (hn : 1 ≤ n) (l lb cap m : Nat) (a : Option Addr) (ps : List (Int × Vt)) (hm : m ≤ 1000000000000) (hl : ps.length = m) (J Jx : List (Int × Vt) → World → Prop) (W : World) (hJ : AbidesFrom W.heap.size J)
    (hY : ∀ pre x W1, x ∈ ps → J pre W1 → pre.length < m → YieldAt F (n - 1) Try.prog l #[.int .i64 x.1, .agg #[.int .i64 x.2.n, .int .i64 x.2.b, .int .i64 x.2.k, .int .i64 x.2.cl, .int .i64 x.2.op, .string x.2.nm, .int .i64 x.2.f0, .int .i64 x.2.f1, .int .i64 x.2.g0, .int .i64 x.2.g1, .int .i64 x.2.sz]] W1 fun e W' =>
      (e = .returned (.bool true) ∧ J (pre ++ [x]) W' ∧ Kept (NB lb a) W1 W') ∨ (e = .returned (.bool false) ∧ Jx (pre ++ [x]) W'))
    (hS : SeqAt W lb a cap ps) (h0 : J [] W) :
    CallsIn F n Try.prog 96 #[.func (.yield l) #[] #[], .pointer (some ⟨lb, 0, none⟩)] W fun e W' => (∃ v, e = .returned v) ∧
      ((∃ ys, ys = ps ∧ J ys W') ∨ (∃ pre, pre <+: ps ∧ Jx pre W')) := by
  have HS : Hid (SeqAt W lb a cap ps) := hS
  have HL : Hid (ps.length = m) := hl
  have HJ : Hid (AbidesFrom W.heap.size J) := hJ
  have HY : Hid (∀ pre x W1, x ∈ ps → J pre W1 → pre.length < m → YieldAt F (n - 1) Try.prog l #[.int .i64 x.1, .agg #[.int .i64 x.2.n, .int .i64 x.2.b, .int .i64 x.2.k, .int .i64 x.2.cl, .int .i64 x.2.op, .string x.2.nm, .int .i64 x.2.f0, .int .i64 x.2.f1, .int .i64 x.2.g0, .int .i64 x.2.g1, .int .i64 x.2.sz]] W1 fun e W' =>
      (e = .returned (.bool true) ∧ J (pre ++ [x]) W' ∧ Kept (NB lb a) W1 W') ∨ (e = .returned (.bool false) ∧ Jx (pre ++ [x]) W')) := hY
  have hBs := hS.box.cell 0
  simp only [List.getElem?_toArray, List.getElem?_cons_zero] at hBs
  rw [hl] at hBs
  clear hl hJ hY hS
  refine callsIn_of_wp Try.func96 rfl h37 ?_ hro
  simp only [Try.ntmps96, List.size_toArray, List.length_cons, List.length_nil, Nat.reduceAdd, Nat.reduceSub, Array.replicate_succ, Array.replicate_zero, List.push_toArray, List.append_toArray, List.nil_append, List.cons_append]
  gi_wp2
  gi_loopw [7] (fun i wr => ∃ k : Nat, k ≤ m ∧ i = .int .i64 k ∧ Hid (J (ps.take k) wr) ∧ Hid (Kept (NB lb a) W wr)) (fun i _ => m - (intOf i).toNat)
  case atStart => exact ⟨0, Nat.zero_le _, rfl, h0, Kept.refl _ _⟩
  case round =>
    obtain ⟨k, hk, rfl, HJs, HB⟩ := hrel
    clear hBs
    by_cases hlt : k < m
    · obtain ⟨pg, rfl, c0, c1, c2, c3, c4, c5, c6, c7, c8, c9, c10, c11⟩ := (HS.out.nb HB.out).at (i := k) (by rw [HL.out]; exact hlt)
      have HTk : Hid (ps.take k ++ [ps[k]?.getD default] = ps.take (k + 1)) := take_next (by rw [HL.out]; exact hlt)
      have hlen : (ps.take k).length < m := by rw [List.length_take, HL.out]; omega
      have HMm : Hid (ps[k]?.getD default ∈ ps) := by
        have hk : k < ps.length := by rw [HL.out]; exact hlt
        show _ ∈ _
        rw [List.getElem?_eq_getElem hk]; exact List.getElem_mem hk
      generalize ps[k]?.getD default = x at HMm c0 c1 c2 c3 c4 c5 c6 c7 c8 c9 c10 c11 HTk
      obtain ⟨x1, x2⟩ := x
      simp only at c0 c1 c2 c3 c4 c5 c6 c7 c8 c9 c10 c11
      obtain ⟨w5, hw5⟩ : ∃ w5, w5 = wr.alloc (.cells #[.int .i64 x1, .int .i64 x2.n, .int .i64 x2.b, .int .i64 x2.k, .int .i64 x2.cl, .int .i64 x2.op, .string x2.nm, .int .i64 x2.f0, .int .i64 x2.f1, .int .i64 x2.g0, .int .i64 x2.g1, .int .i64 x2.sz] 183) := ⟨_, rfl⟩
      have hJ5 : J (ps.take k) w5 := by rw [hw5]; exact HJ.out _ wr _ none HJs.out (World.grownBy_alloc wr _ none) (fun r e => by cases e)
      have HB5 : Hid (Kept (NB lb (some ⟨pg, 0, none⟩)) W w5) := by rw [hw5]; exact HB.out.alloc _
      obtain ⟨fn, tmps, assign, body, hy, hR⟩ := HY.out _ (x1, x2) w5 HMm.out hJ5 hlen
      dsimp only at hy
      have hlt' : (k : Int) < (m : Int) := by omega
      clear hlen hJ5
      rw [hw5] at hy hR
      gi_wp2
      refine hR.mono ?_
      rw [← hw5]
      rintro e W3 (⟨rfl, hJ3, hk3⟩ | ⟨rfl, hJx3⟩)
      · rw [HTk.out] at hJ3
        have HJ3 : Hid (J (ps.take (k + 1)) W3) := hJ3
        have HB3 : Hid (Kept (NB lb (some ⟨pg, 0, none⟩)) W W3) := HB5.out.then hk3
        clear hJ3 hk3 hy hR HJs HB c0 c1 c2 c3 c4 c5 c6 c7 c8 c9 c10 c11
        gi_wp2
        go_roundw
        case rel => exact ⟨k + 1, by omega, by go_num, HJ3, HB3⟩
        case measure => simp [intOf]; omega
      · rw [HTk.out] at hJx3
        have HJ3 : Hid (Jx (ps.take (k + 1)) W3) := hJx3
        clear hJx3 hy hR HJs HB c0 c1 c2 c3 c4 c5 c6 c7 c8 c9 c10 c11
        gi_wp2
        refine bodyPost_ret (results_none rfl _ _ _) rfl ?_
        exact ⟨⟨_, rfl⟩, .inr ⟨_, List.take_prefix _ _, HJ3.out⟩⟩
    · obtain rfl : k = m := by omega
      have hlt' : ¬ (k : Int) < (k : Int) := by omega
      gi_wp2
      go_end0
      have hJe := HJs.out
      rw [List.take_of_length_le (by rw [HL.out]; omega)] at hJe
      exact ⟨⟨_, rfl⟩, .inl hJe⟩

theorem seq_mem (F : Fence) (n : Nat) (h37 : F.fn 96) (hro : F.round = none) (hn : 1 ≤ n) (lb cap m : Nat) (a : Option Addr) (ps : List (Int × Vt)) (hm : m ≤ 1000000000000) (hl : ps.length = m) (w : World) (hS : SeqAt w lb a cap ps) :
    SeqStopsK F n Try.prog 96 #[.pointer (some ⟨lb, 0, none⟩)] (fun x : { x : Int × Vt // x ∈ ps } => #[Value.int .i64 x.1.1, .agg #[.int .i64 x.1.2.n, .int .i64 x.1.2.b, .int .i64 x.1.2.k, .int .i64 x.1.2.cl, .int .i64 x.1.2.op, .string x.1.2.nm, .int .i64 x.1.2.f0, .int .i64 x.1.2.f1, .int .i64 x.1.2.g0, .int .i64 x.1.2.g1, .int .i64 x.1.2.sz]]) (Kept (NB lb a)) (fun ys => ys.map Subtype.val = ps) (fun pre => pre.map Subtype.val <+: ps) m w := fun l J Jx W hW hJ _ hY h0 => by
  refine (it_in F n h37 hro hn l lb cap m a ps hm hl (fun q W => ∃ pre : List { x : Int × Vt // x ∈ ps }, pre.map Subtype.val = q ∧ J pre W) (fun q W => ∃ pre : List { x : Int × Vt // x ∈ ps }, pre.map Subtype.val = q ∧ Jx pre W) W ?_ ?_ (hS.kept (below_kept hW) (fun k hk e => by have := hS.lt hk; omega)) ⟨[], rfl, h0⟩).mono ?_
  · rintro q A B row ⟨pre, e, h⟩ hg hr
    exact ⟨pre, e, hJ pre A B row h hg hr⟩
  · rintro q x W1 hx ⟨pre, rfl, h⟩ hlen
    obtain ⟨fn, tmps, assign, body, h1, h2⟩ := hY pre ⟨x, hx⟩ W1 h (by simpa using hlen)
    refine ⟨fn, tmps, assign, body, h1, h2.mono ?_⟩
    rintro e W' (⟨h3, h4, h5⟩ | ⟨h3, h4⟩)
    · exact .inl ⟨h3, ⟨_, by simp, h4⟩, h5⟩
    · exact .inr ⟨h3, ⟨_, by simp, h4⟩⟩
  · rintro e W' ⟨h1, ⟨ys, h2, pre, h3, h4⟩ | ⟨q, h2, pre, h3, h4⟩⟩
    · exact ⟨h1, .inl ⟨pre, h3.trans h2, h4⟩⟩
    · exact ⟨h1, .inr ⟨pre, by show _ <+: _; rw [h3]; exact h2, h4⟩⟩

theorem nb_t {lb : Nat} {a : Option Addr} {A B C : World} (h : Kept (NB lb a) A B) (k : Kept (NB lb a) B C) : Kept (NB lb a) A C := h.then k
theorem nb_b {lb cap : Nat} {a : Option Addr} {w w0 : World} {ps : List (Int × Vt)} (hS : SeqAt w0 lb a cap ps) (hs : w0.heap.size ≤ w.heap.size) (W : World) (l : Nat) (o o' : Obj) (hl : w.heap.size ≤ l) (h : W.heap[l]? = some o) (_ : o.isCells = false) (_ : o.isWalk = false) : Kept (NB lb a) W (W.putObj l o') :=
  (Kept.refl _ W).grown (grownBy_putObj' W l o') (fun k e hk hb => by cases e; have := hS.lt hb; omega)

end V
end Gt
end Go.Proofs.Ytpabpeppgpeaoaa
