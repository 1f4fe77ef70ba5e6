import Derived.Deep.Cut
import Derived.Deep.CutRange
import Derived.Deep.RegionHeld3
import Derived.StillTailTactics
import Derived.Test.YtpabpeppgpeaoaaGa
namespace Go.Proofs.Ytpabpeppgpeaoaa
open Go.RowKit
set_option linter.unusedVariables false
set_option linter.unusedSimpArgs false
namespace Gt
namespace U

theorem Try.und130 : Try.prog.underlying 130 = some (.map 3 134) := by kernel_rfl
theorem Try.info134 : (Try.prog.info? 134).map (fun i => (i.zero, i.size, i.bytes)) = some (some (.agg #[.bool false]), 1, 2) := by kernel_rfl
theorem Try.zero134 (w : World) : (zeroValue 134).run Try.prog w = .ok (.agg #[.bool false]) w := by
  obtain ⟨i0, hi, hz0, hz1, hz2⟩ := info_parts Try.info134
  simp [zeroValue, typeInfo, hi, hz0]
def ans : Option Unit → Value
  | none => .agg #[.bool false]
  | some _ => .agg #[.bool true]
theorem enough_any (t b cap : Nat) (a : Option Addr) (x : TS Unit) (w : World) (h : Tal 132 ans w t b a cap x) :
    Calls Try.prog 90 #[.pointer (some ⟨t, 0, none⟩)] w fun e w' => e = .returned (.bool (enB x)) ∧ ∃ n, w' = w.drewN n := by
  obtain ⟨c0, c1, c2, c3⟩ := h.cells
  have HE : Hid (enB x = decide (x.need ≤ cnt x)) := rfl
  generalize enB x = E at HE
  have hc := cnt_le x
  have hl := h.len
  generalize cnt x = n at c2 HE hc
  generalize x.need = m at c1 HE
  generalize x.g.length = l at c0 hc hl
  clear h
  go_enter Try.func90, Try.ntmps90
  go_wp2
  go_quiet (fail)
  go_wp2
  all_goals go_ret
  all_goals refine ⟨ret_bool ?_, ⟨_, rfl⟩⟩
  all_goals rw [HE.out]
  all_goals simp_all

theorem tmap_no {x : TS Unit} {s : Int} (h : s ∉ x.g) : tmap ans x s = none := if_neg h
theorem tmap_some {x : TS Unit} {s : Int} {v : Unit} (h : s ∈ x.g) (hv : x.v s = some v) : tmap ans x s = some (.agg #[.bool true]) := by unfold tmap; rw [if_pos h, hv]; rfl
theorem tmap_none {x : TS Unit} {s : Int} (h : s ∈ x.g) (hv : x.v s = none) : tmap ans x s = some (.agg #[.bool false]) := by unfold tmap; rw [if_pos h, hv]; rfl
theorem look_no {x : TS Unit} {s : Int} (h : s ∉ x.g) : tupOk ((tmap ans x s).getD (.agg #[.bool false])) (tmap ans x s).isSome true = .tuple #[.agg #[.bool false], .bool false] := by
  rw [tmap_no h]; rfl
theorem look_some {x : TS Unit} {s : Int} {v : Unit} (h : s ∈ x.g) (hv : x.v s = some v) : tupOk ((tmap ans x s).getD (.agg #[.bool false])) (tmap ans x s).isSome true = .tuple #[.agg #[.bool true], .bool true] := by
  rw [tmap_some h hv]; rfl
theorem look_none {x : TS Unit} {s : Int} (h : s ∈ x.g) (hv : x.v s = none) : tupOk ((tmap ans x s).getD (.agg #[.bool false])) (tmap ans x s).isSome true = .tuple #[.agg #[.bool false], .bool true] := by
  rw [tmap_none h hv]; rfl
def TakeOut (w : World) (t b cap : Nat) (a : Option Addr) (x : TS Unit) (s : Int) (v : Unit) (e : Ending) (w' : World) : Prop :=
  e = .returned (.bool (takeB x s)) ∧ Tal 132 ans w' t b a cap (takeS x s v) ∧ Kept (Tb2 t b) w w'

def NewOut (w : World) (zs : List Int) (need : Int) (e : Ending) (w' : World) : Prop :=
  ∃ a cap, e = .returned (.pointer (some ⟨w.heap.size + 1, 0, none⟩)) ∧ Tal 132 ans w' (w.heap.size + 1) w.heap.size a cap (tNew Unit zs need) ∧ (∀ k, At a k → w.heap.size ≤ k) ∧ Kept No w w'
set_option maxRecDepth 100000 in
set_option maxHeartbeats 2000000 in
theorem new_any (a0 : Option Addr) (n0 cap0 : Nat) (zs : List Int) (need : Int) (w : World) (hz : zs.length = n0) (hn : n0 ≤ 17592186043904) (hb : Nums .i64 w a0 zs) :
    Calls Try.prog 33 #[.slice a0 n0 cap0, .int .i64 need] w (NewOut w zs need) := by
  have HB : Hid (Nums .i64 w a0 zs) := hb
  have HZ : Hid (zs.length = n0) := hz
  clear hb hz
  have hmm := @run_makeMap Try.prog
  have HS0 : Hid (Tal 132 ans ((w.alloc (.map #[] 0)).alloc (.cells #[.slice none 0 0, .int .i64 need, .int .i64 0, .map (some w.heap.size)] 132)) (w.heap.size + 1) w.heap.size none 0 (tNew Unit [] need)) := by
    refine ⟨?_, ?_, Own.nil _ _ _ _, by simp [tNew, uq], by simp [tNew, uq], by decide⟩
    · have := Box.new (w.alloc (.map #[] 0)) 132 #[.slice none 0 0, .int .i64 need, .int .i64 0, .map (some w.heap.size)]
      have e : (w.alloc (.map #[] 0)).heap.size = w.heap.size + 1 := by simp
      rw [e] at this
      exact this
    · have e : tmap ans (tNew Unit [] need) = fun _ => none := by funext n; simp [tmap, tNew, uq]
      rw [e]
      exact (MapIs.new w).kept ((Kept.refl No _).alloc _) (fun e => e)
  have HK0 : Hid (Kept No w ((w.alloc (.map #[] 0)).alloc (.cells #[.slice none 0 0, .int .i64 need, .int .i64 0, .map (some w.heap.size)] 132))) := ((Kept.refl No w).alloc _).alloc _
  go_enter Try.func33, Try.ntmps33
  go_wp2
  obtain ⟨w0, hw0⟩ : ∃ w0, w0 = (w.alloc (.map #[] 0)).alloc (.cells #[.slice none 0 0, .int .i64 need, .int .i64 0, .map (some w.heap.size)] 132) := ⟨_, rfl⟩
  rw [← hw0] at HS0 HK0
  try rw [← hw0]
  go_loopw [16] (fun vi wr => ∃ k : Nat, vi = .int .i64 k ∧ k ≤ n0 ∧ Hid (∃ a cap, Tal 132 ans wr (w.heap.size + 1) w.heap.size a cap (tNew Unit (zs.take k) need) ∧ Own 3 1 wr w.heap.size a cap (uq (zs.take k)).length ((uq (zs.take k)).map (Value.int .i64)) ∧ Kept No w wr)) (fun i _ => n0 - (intOf i).toNat)
  case atStart => exact ⟨0, by go_num, by omega, ⟨none, 0, by rw [List.take_zero]; exact HS0.out, by rw [List.take_zero]; exact Own.nil _ _ _ _, HK0.out⟩⟩
  case round =>
    obtain ⟨k, rfl, hk, HI⟩ := hrel
    clear HS0 HK0 hw0
    obtain ⟨a, cap, hT, hfr, hK⟩ := HI.out
    have HT : Hid (Tal 132 ans wr (w.heap.size + 1) w.heap.size a cap (tNew Unit (zs.take k) need)) := hT
    have HOw : Hid (Own 3 1 wr w.heap.size a cap (uq (zs.take k)).length ((uq (zs.take k)).map (Value.int .i64))) := hfr
    have HF : Hid (∀ q, At a q → w.heap.size ≤ q) := fun q hq => hfr.base hq
    have HK : Hid (Kept No w wr) := hK
    clear hT hfr hK HI
    by_cases hlt : k < n0
    · have hlt' : (k : Int) < (n0 : Int) := by omega
      obtain ⟨bb, off, rfl, hcell⟩ := (HB.out.no HK.out) k (by rw [HZ.out]; exact hlt)
      have HTk : Hid (zs.take (k + 1) = zs.take k ++ [zs[k]?.getD 0]) := take_snoc (by rw [HZ.out]; exact hlt)
      generalize zs[k]?.getD 0 = z at hcell HTk
      obtain ⟨c0, c1, c2, c3⟩ := HT.out.cells
      clear c0 c1 c2
      by_cases hm : z ∈ uq (zs.take k)
      · have HL : Hid _ := look_none (x := tNew Unit (zs.take k) need) (s := z) hm rfl
        have HU : Hid (tNew Unit (zs.take (k + 1)) need = tNew Unit (zs.take k) need) := by show _ = _; rw [HTk.out]; unfold tNew; rw [uq_snoc, if_pos hm]
        clear hm HTk
        go_wp2_with (refine wp_lookupV rfl _ _ 130 134 true rfl w.heap.size z rfl rfl HT.out.map Try.und130 (Try.zero134 _) _ HL.out ?_)
        go_roundw
        case rel => exact ⟨k + 1, by go_num, by omega, ⟨a, cap, by rw [HU.out]; exact HT.out.no ((Kept.refl No wr).alloc _), by rw [show uq (zs.take (k + 1)) = uq (zs.take k) from congrArg TS.g HU.out]; exact HOw.out.no ((Kept.refl No wr).alloc _), HK.out.alloc _⟩⟩
        case measure => simp [intOf]; omega
      · have HL : Hid _ := look_no (x := tNew Unit (zs.take k) need) (s := z) hm
        have HU : Hid (uq (zs.take (k + 1)) = uq (zs.take k) ++ [z]) := by show _ = _; rw [HTk.out, uq_snoc, if_neg hm]
        have HM : Hid (updG (tmap ans (tNew Unit (zs.take k) need)) z (some (ans none)) = tmap ans (tNew Unit (zs.take (k + 1)) need)) := by show _ = _; rw [HTk.out]; exact tmap_new hm
        have HLn : Hid ((uq (zs.take k)).length ≤ k) := by have := uq_len (zs.take k); rw [List.length_take, HZ.out] at this; show _ ≤ _; omega
        have HLn2 : Hid ((uq (zs.take (k + 1))).length ≤ 17592186043904) := by have := uq_len (zs.take (k + 1)); rw [List.length_take, HZ.out] at this; show _ ≤ _; omega
        clear hm HTk
        obtain ⟨w1, hw1⟩ : ∃ w1, w1 = wr.alloc (.cells #[.bool false] 134) := ⟨_, rfl⟩
        have HK1 : Hid (Kept No w w1) := by rw [hw1]; exact HK.out.alloc _
        have HT1 : Hid (Tal 132 ans w1 (w.heap.size + 1) w.heap.size a cap (tNew Unit (zs.take k) need)) := by rw [hw1]; exact HT.out.no ((Kept.refl No wr).alloc _)
        have d3 := HT1.out.cells.2.2.2
        rw [hw1] at d3
        have HN0 : Hid (cnt (tNew Unit (zs.take k) need) = 0 ∧ cnt (tNew Unit (zs.take (k + 1)) need) = 0) := ⟨cnt_new _ _, cnt_new _ _⟩
        go_wp2_with (first
          | (refine wp_lookupV rfl _ _ 130 134 true rfl w.heap.size z rfl rfl HT.out.map Try.und130 (Try.zero134 _) _ HL.out ?_)
          | (refine wp_updateV rfl _ _ _ 130 134 rfl w.heap.size z (ans none) rfl rfl rfl (by rw [← hw1]; exact HT1.out.map) Try.und130 ?_
             rw [← hw1]
             intro w3 HM3 HK3 hs3
             have HB3 : Hid (Box w3 (w.heap.size + 1) 132 (talC a cap w.heap.size (tNew Unit (zs.take k) need))) := HT1.out.box.kept HK3.out (fun e => HT1.out.ne e)
             have HR3 : Hid (Own 3 1 w3 w.heap.size a cap (uq (zs.take k)).length ((uq (zs.take k)).map (Value.int .i64))) := (show Own 3 1 w1 w.heap.size a cap _ _ by rw [hw1]; exact HOw.out.no ((Kept.refl No wr).alloc _)).kept HK3.out (fun q hq e => (HT1.out.off hq).2 e)
             have e0 := HB3.out.cell 0
             simp only [talC, List.getElem?_toArray, List.getElem?_cons_zero, List.getElem?_cons_succ, tNew] at e0
             have HK3' : Hid (Kept No w w3) := HK1.out.trans HK3.out (fun _ e => e) (fun i hi e => by have : i = w.heap.size := e; omega)
             have hsz : Hid (w.heap.size + 1 < w3.heap.size) := HB3.out.lt
             clear d3 c3 hw1 hs3 HK3)
          | (at_builtin
             refine wp_appV rfl _ _ 24 3 1 8 (.int .i64 0) Try.und24 Try.info3' rfl (by omega) rfl w.heap.size _ cap a _ rfl (HR3.out.no ((Kept.refl No w3).alloc _)) ⟨w3.heap.size, 0, none⟩ 1 1 [.int .i64 z] rfl rfl (cell_new1 _ _ _) (by simp [Value.oneCell']) (by have := HLn.out; omega) (by have := HLn.out; omega) (by omega) (by have := hsz.out; simp; omega) (uq (zs.take (k + 1))).length (by rw [HU.out]; simp) ?_
             intro g' cap' w4 HO4 HK4
             have HK34 : Hid (Kept (At a) w3 w4) := (((Kept.refl No w3).alloc (.cells #[.int .i64 z] 3)).of_no : Kept (At a) w3 _).then HK4.out
             have HB4 : Hid (Box w4 (w.heap.size + 1) 132 (talC a cap w.heap.size (tNew Unit (zs.take k) need))) := HB3.out.kept HK34.out (fun e => (HT1.out.off e).1 rfl)
             have HM4 : Hid (MapIs w4 w.heap.size (tmap ans (tNew Unit (zs.take (k + 1)) need))) := by
               have := HM3.out
               rw [HM.out] at this
               exact this.kept HK34.out (fun e => (HT1.out.off e).2 rfl)
             have HKw : Hid (Kept No w w4) := HK3'.out.trans HK34.out (fun _ e => e) (fun i hi e => by have := HF.out i e; omega)
             have HO5 : Hid (Own 3 1 w4 w.heap.size (some ⟨g', 0, none⟩) cap' (uq (zs.take (k + 1))).length ((uq (zs.take (k + 1))).map (Value.int .i64))) := by
               have := HO4.out
               show Own _ _ _ _ _ _ _ _
               rw [HU.out, List.map_append] at *
               exact this
             have e0' := HB4.out.cell 0
             have f0 := HB4.out.frozen 0
             simp only [talC, List.getElem?_toArray, List.getElem?_cons_zero, List.getElem?_cons_succ, tNew] at e0'
             have hgt : g' ≠ w.heap.size + 1 := fun e => by
               rcases HO5.out.cases (by simp) with ⟨e, _⟩ | ⟨g, e, _, _, sp, hgb, _⟩
               · cases e
               · cases e
                 have hb4 := HB4.out
                 unfold Box at hb4
                 rw [e, hb4] at hgb
                 simp at hgb
             have HGT : Hid (g' ≠ w.heap.size + 1) := hgt
             clear e0 HK4 HK34 HM3 HB3 HR3 HK3' HO4 hgt))
        go_roundw
        case rel =>
          have hks : Kept (Only (w.heap.size + 1)) w4 (w4.setCell ⟨w.heap.size + 1, 0, none⟩ (.slice (some ⟨g', 0, none⟩) (uq (zs.take (k + 1))).length cap')) := (Kept.refl (Only (w.heap.size + 1)) w4).setCell (p := ⟨w.heap.size + 1, 0, none⟩) (fun _ => rfl) _
          have hoff : ∀ q, At (some ⟨g', 0, none⟩) q → ¬ Only (w.heap.size + 1) q := fun q hq e => by
            obtain ⟨ad, e1, rfl⟩ := hq
            cases e1
            exact HGT.out e
          refine ⟨k + 1, by go_num, by omega, ⟨some ⟨g', 0, none⟩, cap', ⟨?_, ?_, ?_, uq_nodup _, HLn2.out, by decide⟩, HO5.out.kept hks hoff, HKw.out.setCell (p := ⟨w.heap.size + 1, 0, none⟩) (fun h => by have : w.heap.size + 1 < w.heap.size := h; omega) _⟩⟩
          · have := HB4.out.set 0 (.slice (some ⟨g', 0, none⟩) (uq (zs.take (k + 1))).length cap')
            unfold talC at this ⊢
            rw [HN0.out.1] at this
            rw [HN0.out.2]
            exact this
          · exact HM4.out.kept hks (fun e => by have : w.heap.size = w.heap.size + 1 := e; omega)
          · exact Own.lower (HO5.out.kept hks hoff) (Nat.zero_le _)
        case measure => simp [intOf]; omega
    · have hlt' : ¬ (k : Int) < (n0 : Int) := by omega
      obtain rfl : k = n0 := by omega
      go_wp2
      go_ret
      exact ⟨a, cap, rfl, by have := HT.out; rw [List.take_of_length_le (by rw [HZ.out]; omega)] at this; exact this, HF.out, HK.out⟩


theorem look1_some {x : TS Unit} {s : Int} {v : Unit} (h : s ∈ x.g) (hv : x.v s = some v) : tupOk ((tmap ans x s).getD (.agg #[.bool false])) (tmap ans x s).isSome false = .agg #[.bool true] := by
  rw [tmap_some h hv]; rfl
theorem look1_none {x : TS Unit} {s : Int} (h : s ∈ x.g) (hv : x.v s = none) : tupOk ((tmap ans x s).getD (.agg #[.bool false])) (tmap ans x s).isSome false = .agg #[.bool false] := by
  rw [tmap_none h hv]; rfl
theorem wp_field0 {ops : Array Oper} {rest : List Oper} {o : Oper} {a : Act} {w : World} {Q : Exit → Act → World → Prop} (hg : o.guard = none) (x : Operand) (ho : o.op = .field 134 x 0) (c : Value) (hx : a.eval x = .agg #[c])
    (h : wpList Try.prog ops Q rest (a.put o.dst c) w) : wpList Try.prog ops Q (o :: rest) a w := by
  refine wp_runTo hg c w ?_ h
  simp only [execOp, ho, hx]
  kernel_rfl

set_option maxRecDepth 100000 in
set_option maxHeartbeats 2000000 in
theorem missing_any (t b cap : Nat) (a : Option Addr) (x : TS Unit) (w : World) (h : Tal 132 ans w t b a cap x) :
    Calls Try.prog 34 #[.pointer (some ⟨t, 0, none⟩)] w (MissOut w (missL x)) := by
  have HT : Hid (Tal 132 ans w t b a cap x) := h
  obtain ⟨c0, c1, c2, c3⟩ := h.cells
  have hlen := h.len
  clear h c1 c2 c3
  obtain ⟨n, hn⟩ : ∃ n, n = x.g.length := ⟨_, rfl⟩
  have HN : Hid (x.g.length = n) := hn.symm
  rw [← hn] at c0 hlen
  clear hn
  go_enter Try.func34, Try.ntmps34
  go_wp2
  go_loopw [3, 11] (fun v vi wr => ∃ (k : Nat) (a' : Option Addr) (cap' : Nat), vi = .int .i64 k ∧ k ≤ n ∧ v = .slice a' (missK x k).length cap' ∧ Hid (Own 3 1 wr w.heap.size a' cap' (missK x k).length ((missK x k).map (Value.int .i64))) ∧ Hid (Kept No w wr)) (fun _ i _ => n - (intOf i).toNat)
  case atStart => exact ⟨0, none, 0, by go_num, by omega, by simp [missK], (show Own 3 1 w w.heap.size none 0 (missK x 0).length ((missK x 0).map (Value.int .i64)) by simpa [missK] using Own.nil 3 1 w w.heap.size), Kept.refl _ _⟩
  case round =>
    obtain ⟨k, a', cap', rfl, hk, rfl, HO, HK⟩ := hrel
    clear c0
    by_cases hlt : k < n
    · have hlt' : (k : Int) < (n : Int) := by omega
      have HT1 : Hid (Tal 132 ans wr t b a cap x) := HT.out.no HK.out
      have d3 := HT1.out.cells.2.2.2
      have HJL : Hid (k < x.g.length) := by show _ < _; rw [HN.out]; exact hlt
      obtain ⟨bb, off, rfl, hcell⟩ := HT1.out.nums k HJL.out
      have HTk : Hid (x.g.take (k + 1) = x.g.take k ++ [x.g[k]?.getD 0]) := take_snoc HJL.out
      have HMem : Hid (x.g[k]?.getD 0 ∈ x.g) := mem_at HJL.out
      have HLn : Hid ((missK x k).length ≤ k) := missK_len x k
      generalize x.g[k]?.getD 0 = z at hcell HTk HMem
      cases hv : x.v z with
      | some u =>
        have HL : Hid _ := look1_some HMem.out hv
        have HU : Hid (missK x (k + 1) = missK x k) := missK_some HTk.out hv
        clear hv HTk
        go_wp2_with (first | (refine wp_lookupV rfl _ _ 130 134 false rfl b z rfl rfl HT1.out.map Try.und130 (Try.zero134 _) _ HL.out ?_) | (refine wp_field0 rfl _ rfl _ rfl ?_))
        go_roundw
        case rel => exact ⟨k + 1, a', cap', by go_num, by omega, by rw [HU.out], by rw [HU.out]; exact HO, HK⟩
        case measure => simp [intOf]; omega
      | none =>
        have HL : Hid _ := look1_none HMem.out hv
        have HU : Hid (missK x (k + 1) = missK x k ++ [z]) := missK_none HTk.out hv
        have hsz : Hid (w.heap.size ≤ wr.heap.size) := HK.out.size
        clear hv HTk
        go_wp2_with (first
          | (refine wp_lookupV rfl _ _ 130 134 false rfl b z rfl rfl HT1.out.map Try.und130 (Try.zero134 _) _ HL.out ?_)
          | (refine wp_field0 rfl _ rfl _ rfl ?_)
          | (at_builtin
             refine wp_appV rfl _ _ 24 3 1 8 (.int .i64 0) Try.und24 Try.info3' rfl (by omega) rfl w.heap.size _ cap' a' _ rfl (HO.out.no ((Kept.refl No wr).alloc _)) ⟨wr.heap.size, 0, none⟩ 1 1 [.int .i64 z] rfl rfl (cell_new1 _ _ _) (by simp [Value.oneCell']) (by have := HLn.out; omega) (by have := HLn.out; omega) (by omega) (by have := hsz.out; simp; omega) (missK x (k + 1)).length (by rw [HU.out]; simp) ?_
             intro g' cap'' w4 HO4 HK4
             have HKw : Hid (Kept No w w4) := (HK.out.alloc _).trans HK4.out (fun _ e => e) (fun i hi e => by have := HO.out.base e; omega)
             have HO5 : Hid (Own 3 1 w4 w.heap.size (some ⟨g', 0, none⟩) cap'' (missK x (k + 1)).length ((missK x (k + 1)).map (Value.int .i64))) := by
               have := HO4.out
               show Own _ _ _ _ _ _ _ _
               rw [HU.out, List.map_append] at *
               exact this
             clear HO4 HK4))
        go_roundw
        case rel => exact ⟨k + 1, some ⟨g', 0, none⟩, cap'', by go_num, by omega, rfl, HO5, HKw⟩
        case measure => simp [intOf]; omega
    · have hlt' : ¬ (k : Int) < (n : Int) := by omega
      obtain rfl : k = n := by omega
      have HA : Hid (missK x k = missL x) := by show _ = _; rw [← HN.out]; exact missK_all x
      go_wp2
      go_ret
      rw [HA.out] at HO ⊢
      exact ⟨a', cap', rfl, HO.out, HK.out⟩



set_option maxRecDepth 100000 in
set_option maxHeartbeats 2000000 in
theorem take_any (t b cap : Nat) (a : Option Addr) (x : TS Unit) (s : Int) (v : Unit) (w : World) (h : Tal 132 ans w t b a cap x) :
    Calls Try.prog 79 #[.pointer (some ⟨t, 0, none⟩), .int .i64 s, .agg #[]] w (TakeOut w t b cap a x s v) := by
  obtain ⟨w0, hw0⟩ : ∃ w0, w0 = w.alloc (.cells #[] 89) := ⟨_, rfl⟩
  have HK0 : Hid (Kept No w w0) := by rw [hw0]; exact (Kept.refl No w).alloc _
  have HT : Hid (Tal 132 ans w0 t b a cap x) := h.no HK0.out
  obtain ⟨N, hN⟩ : ∃ N, N = w.heap.size := ⟨_, rfl⟩
  have HX : Hid (Box w0 N 89 #[]) := by rw [hw0, hN]; exact Box.new _ _ _
  have hlt := h.map.lt
  have htl := h.box.lt
  have HNe : Hid (N ≠ t ∧ N ≠ b) := by rw [hN]; exact ⟨by omega, by omega⟩
  clear hlt htl
  obtain ⟨c0, c1, c2, c3⟩ := HT.out.cells
  rw [hw0] at c3
  clear c0 c1 c2
  by_cases hs : s ∈ x.g
  · cases hv : x.v s with
    | some u =>
      have hN' : Hid (takeB x s = false ∧ takeS x s v = x) := takeNo (by unfold mayB; simp [hv])
      have HL : Hid _ := look_some hs hv
      clear h hs hv
      go_enter Try.func79, Try.ntmps79
      go_wp2_with (refine wp_lookupV rfl _ _ 130 134 true rfl b s rfl rfl (by rw [← hw0]; exact HT.out.map) Try.und130 (Try.zero134 _) _ HL.out ?_)
      go_ret
      rw [← hw0]
      have hk := (Kept.refl No w0).alloc (.cells #[.bool true] 134)
      exact ⟨ret_bool hN'.out.1.symm, by rw [hN'.out.2]; exact HT.out.no hk, (HK0.out.then hk).of_no⟩
    | none =>
      have HL : Hid _ := look_none hs hv
      obtain ⟨w1, hw1⟩ : ∃ w1, w1 = w0.alloc (.cells #[.bool false] 134) := ⟨_, rfl⟩
      have HK1 : Hid (Kept No w0 w1) := by rw [hw1]; exact (Kept.refl No w0).alloc _
      have HT1 : Hid (Tal 132 ans w1 t b a cap x) := HT.out.no HK1.out
      by_cases hE : enB x = true
      · have hN' : Hid (takeB x s = false ∧ takeS x s v = x) := takeNo (by unfold mayB; simp [hE])
        have HE : Hid (enB x = true) := hE
        clear h hs hv hE
        go_enter Try.func79, Try.ntmps79
        go_wp2_with (first
          | (refine wp_lookupV rfl _ _ 130 134 true rfl b s rfl rfl (by rw [← hw0]; exact HT.out.map) Try.und130 (Try.zero134 _) _ HL.out ?_)
          | (go_at_call 90
             rw [← hw0, ← hw1]
             refine Calls.mono (enough_any t b cap a x w1 HT1.out) ?_
             rintro e w2 ⟨rfl, ⟨n, hw2⟩⟩
             have HK2 : Hid (Kept No w w2) := by rw [hw2]; exact (HK0.out.then HK1.out).drewN n
             have HT2 : Hid (Tal 132 ans w2 t b a cap x) := by rw [hw2]; exact HT1.out.no (Kept.no_drewN _ _)
             rw [HE.out]
             clear hw2 hw1))
        go_ret
        exact ⟨ret_bool hN'.out.1.symm, by rw [hN'.out.2]; exact HT2.out, HK2.out.of_no⟩
      · have HE : Hid (enB x = false) := by cases h : enB x; rfl; exact absurd h hE
        have hM : Hid (takeB x s = enB (putS x s v) ∧ takeS x s v = putS x s v ∧ cnt (putS x s v) = cnt x + 1) := by
          have hm : mayB x s = true := by unfold mayB; simp [hs, hv, HE.out]
          have hc := cnt_put (v := v) h.nd hs hv
          refine ⟨?_, by unfold takeS; rw [if_pos hm], hc⟩
          unfold takeB enB
          rw [hm, hc, Bool.true_and]
          exact decide_eq_decide.2 (by simp only [putS]; omega)
        have HS : Hid (updG (tmap ans x) s (some (ans (some v))) = tmap ans (putS x s v)) := tmap_put hs
        have hcl := cnt_le x
        have hgl := h.len
        have hcb : (cnt x : Int) ≤ 17592186043904 := by omega
        have hc0 : (0 : Int) ≤ cnt x := by omega
        clear h hs hv hE hcl hgl
        have HC : Hid ((cnt x : Int) ≤ 17592186043904 ∧ (0 : Int) ≤ cnt x) := ⟨hcb, hc0⟩
        go_enter Try.func79, Try.ntmps79
        go_upto_region 4 with (first
          | (refine wp_lookupV rfl _ _ 130 134 true rfl b s rfl rfl (by rw [← hw0]; exact HT.out.map) Try.und130 (Try.zero134 _) _ HL.out ?_)
          | (go_at_call 90
             rw [← hw0, ← hw1]
             refine Calls.mono (enough_any t b cap a x w1 HT1.out) ?_
             rintro e w2 ⟨rfl, ⟨n, hw2⟩⟩
             have HK2 : Hid (Kept No w0 w2) := by rw [hw2]; exact HK1.out.drewN n
             have HT2 : Hid (Tal 132 ans w2 t b a cap x) := HT.out.no HK2.out
             have HX2 : Hid (Box w2 N 89 #[]) := HX.out.kept HK2.out (fun e => e)
             rw [HE.out]
             clear hw2 hw1))
        rw [← hN]
        clear hw0 hN c3
        have d3 := HT2.out.cells.2.2.2
        skip
        have h3 : Try.prog.underlying 3 = some (.int .i64) := Try.und3
        obtain ⟨w3, hrun, hM3, hK3, hs3⟩ := run_update_v (P := Try.prog) (w := w2.drew) (HT2.out.no (Kept.refl No w2).drew).map Try.und130 h3 s (ans (some v))
        have HM3 : Hid (MapIs w3 b (updG (tmap ans x) s (some (ans (some v))))) := hM3
        have HK3 : Hid (Kept (Only b) w2.drew w3) := hK3
        have HB3 : Hid (Box w3 t 132 (talC a cap b x)) := (HT2.out.no (Kept.refl No w2).drew).box.kept hK3 (fun e => HT2.out.ne e)
        have z3 : w3.cell? ⟨t, 3, none⟩ = some (.map (some b)) := HB3.out.cell 3
        have HX3 : Hid (Box w3 N 89 #[]) := (HX2.out.kept (Kept.refl No w2).drew (fun e => e)).kept hK3 (fun e => HNe.out.2 e)
        have hfo : Value.agg (Array.foldl (fun cs x => cs.setIfInBounds (1 + x.snd) x.fst) #[Value.bool true] (#[] : Array Value).zipIdx 0 0) = Value.agg #[Value.bool true] := rfl
        unfold ans at hrun
        clear hM3 hK3 hs3 h3
        go_region_held3 (fun w' => w'.cell? ⟨t, 3, none⟩ = some (.map (some b)) ) (first | go_keep | exact z3) (fail)
        have e2 := HB3.out.cell 2
        have f2 := HB3.out.frozen 2
        simp only [talC, List.getElem?_toArray, List.getElem?_cons_zero, List.getElem?_cons_succ] at e2
        obtain ⟨w4, hw4⟩ : ∃ w4, w4 = w3.setCell ⟨t, 2, none⟩ (.int .i64 (cnt x + 1)) := ⟨_, rfl⟩
        have HB4 : Hid (Box w4 t 132 (talC a cap b (putS x s v))) := by
          rw [hw4]
          have := HB3.out.set 2 (.int .i64 (cnt x + 1))
          unfold talC at this ⊢
          rw [hM.out.2.2]
          exact this
        have HK4 : Hid (Kept (Tb2 t b) w0 w4) := by
          rw [hw4]
          exact ((HK2.out.drew).trans HK3.out (fun _ e => e.elim) (fun _ _ e => .inr e)).setCell (p := ⟨t, 2, none⟩) (fun _ => .inl rfl) _
        have HT4 : Hid (Tal 132 ans w4 t b a cap (putS x s v)) := by
          refine ⟨HB4.out, ?_, ?_, HT.out.nd, HT.out.len, HT.out.ty⟩
          · have := HM3.out
            rw [HS.out] at this
            rw [hw4]
            exact this.kept ((Kept.refl (Only t) w3).setCell (p := ⟨t, 2, none⟩) (fun _ => rfl) _) (fun e => HT.out.ne e.symm)
          · exact HT.out.row.kept HK4.out (fun k hk e => by
              obtain ⟨h1, h2⟩ := HT.out.off hk
              rcases e with e | e
              · exact h1 e
              · exact h2 e)
        clear HM3 HB4 d3 z3 hrun
        go_wp2_with (first
          | (go_at_call 90
             rw [← hw4]
             refine Calls.mono (enough_any t b cap a (putS x s v) w4 HT4.out) ?_
             rintro e w5 ⟨rfl, ⟨n5, hw5⟩⟩
             have HK5 : Hid (Kept (Tb2 t b) w w5) := by rw [hw5]; exact HK0.out.of_no.then (HK4.out.drewN n5)
             have HT5 : Hid (Tal 132 ans w5 t b a cap (putS x s v)) := by rw [hw5]; exact HT4.out.no (Kept.no_drewN _ _)
             clear hw5 hw4))
        go_ret
        exact ⟨ret_bool hM.out.1.symm, by rw [hM.out.2.1]; exact HT5.out, HK5.out⟩
  · have hN' : Hid (takeB x s = false ∧ takeS x s v = x) := takeNo (by unfold mayB; simp [hs])
    have HL : Hid _ := look_no hs
    clear h hs
    go_enter Try.func79, Try.ntmps79
    go_wp2_with (refine wp_lookupV rfl _ _ 130 134 true rfl b s rfl rfl (by rw [← hw0]; exact HT.out.map) Try.und130 (Try.zero134 _) _ HL.out ?_)
    go_ret
    rw [← hw0]
    have hk := (Kept.refl No w0).alloc (.cells #[.bool false] 134)
    exact ⟨ret_bool hN'.out.1.symm, by rw [hN'.out.2]; exact HT.out.no hk, (HK0.out.then hk).of_no⟩


end U
end Gt
end Go.Proofs.Ytpabpeppgpeaoaa
