import Derived.Test.YthnecaejhnojfaaTu
import Derived.Lib.SliceRun
import Derived.WalkSpells
import Derived.StillTailTactics
import Derived.Deep.RegionHeld3
import Derived.Deep.Cut
import Derived.Deep.CutRange
namespace Go.Proofs.Ythnecaejhnojfaa
open Go.RowKit
set_option linter.unusedVariables false
set_option linter.unusedSimpArgs false

theorem Try.und183 : Try.prog.underlying 147 = some (.map 3 151) := by kernel_rfl
theorem Try.info187 : (Try.prog.info? 151).map (fun i => (i.zero, i.size, i.bytes)) = some (some (.agg #[.bool false, .int .i64 0, .int .i64 0, .slice none 0 0]), 4, 48) := by kernel_rfl
theorem Try.zero187 (w : World) : (zeroValue 151).run Try.prog w = .ok (.agg #[.bool false, .int .i64 0, .int .i64 0, .slice none 0 0]) w := by
  obtain ⟨i0, hi, hz0, hz1, hz2⟩ := info_parts Try.info187
  simp [zeroValue, typeInfo, hi, hz0]
/-- A block's value. -/
structure Bk where
  n : Int
  c : Int
  a : Option Addr
  l : Nat
  k : Nat
def ansB : Option Bk → Value
  | none => .agg #[.bool false, .int .i64 0, .int .i64 0, .slice none 0 0]
  | some b => .agg #[.bool true, .int .i64 b.n, .int .i64 b.c, .slice b.a b.l b.k]
theorem enough_anyB (t b cap : Nat) (a : Option Addr) (x : TS Bk) (w : World) (h : Tal 149 ansB w t b a cap x) :
    Calls Try.prog 78 #[.pointer (some ⟨t, 0, none⟩)] w fun e w' => e = .returned (.bool (enB x)) ∧ ∃ n, w' = w.drewN n := by
  obtain ⟨c0, c1, c2, c3⟩ := h.cells
  have HE : Hid (enB x = decide (x.need ≤ cnt x)) := rfl
  generalize enB x = E at HE
  have hc := cnt_le x
  have hl := h.len
  generalize cnt x = n at c2 HE hc
  generalize x.need = m at c1 HE
  generalize x.g.length = l at c0 hc hl
  clear h
  go_enter Try.func78, Try.ntmps78
  go_wp2
  go_quiet (fail)
  go_wp2
  all_goals go_ret
  all_goals refine ⟨ret_bool ?_, ⟨_, rfl⟩⟩
  all_goals rw [HE.out]
  all_goals simp_all

theorem tmap_noB {x : TS Bk} {s : Int} (h : s ∉ x.g) : tmap ansB x s = none := if_neg h
theorem tmap_someB {x : TS Bk} {s : Int} {v : Bk} (h : s ∈ x.g) (hv : x.v s = some v) : tmap ansB x s = some (.agg #[.bool true, .int .i64 v.n, .int .i64 v.c, .slice v.a v.l v.k]) := by unfold tmap; rw [if_pos h, hv]; rfl
theorem tmap_noneB {x : TS Bk} {s : Int} (h : s ∈ x.g) (hv : x.v s = none) : tmap ansB x s = some (.agg #[.bool false, .int .i64 0, .int .i64 0, .slice none 0 0]) := by unfold tmap; rw [if_pos h, hv]; rfl
theorem look_noB {x : TS Bk} {s : Int} (h : s ∉ x.g) : tupOk ((tmap ansB x s).getD (.agg #[.bool false, .int .i64 0, .int .i64 0, .slice none 0 0])) (tmap ansB x s).isSome true = .tuple #[.agg #[.bool false, .int .i64 0, .int .i64 0, .slice none 0 0], .bool false] := by
  rw [tmap_noB h]; rfl
theorem look_someB {x : TS Bk} {s : Int} {v : Bk} (h : s ∈ x.g) (hv : x.v s = some v) : tupOk ((tmap ansB x s).getD (.agg #[.bool false, .int .i64 0, .int .i64 0, .slice none 0 0])) (tmap ansB x s).isSome true = .tuple #[.agg #[.bool true, .int .i64 v.n, .int .i64 v.c, .slice v.a v.l v.k], .bool true] := by
  rw [tmap_someB h hv]; rfl
theorem look_noneB {x : TS Bk} {s : Int} (h : s ∈ x.g) (hv : x.v s = none) : tupOk ((tmap ansB x s).getD (.agg #[.bool false, .int .i64 0, .int .i64 0, .slice none 0 0])) (tmap ansB x s).isSome true = .tuple #[.agg #[.bool false, .int .i64 0, .int .i64 0, .slice none 0 0], .bool true] := by
  rw [tmap_noneB h hv]; rfl
def TakeOutB (w : World) (t b cap : Nat) (a : Option Addr) (x : TS Bk) (s : Int) (v : Bk) (e : Ending) (w' : World) : Prop :=
  e = .returned (.bool (takeB x s)) ∧ Tal 149 ansB w' t b a cap (takeS x s v) ∧ Kept (Tb2 t b) w w'

def NewOutB (w : World) (zs : List Int) (need : Int) (e : Ending) (w' : World) : Prop :=
  ∃ a cap, e = .returned (.pointer (some ⟨w.heap.size + 1, 0, none⟩)) ∧ Tal 149 ansB w' (w.heap.size + 1) w.heap.size a cap (tNew Bk zs need) ∧ (∀ k, At a k → w.heap.size ≤ k) ∧ Kept No w w'
set_option maxRecDepth 100000 in
set_option maxHeartbeats 2000000 in
theorem new_anyB (a0 : Option Addr) (n0 cap0 : Nat) (zs : List Int) (need : Int) (w : World) (hz : zs.length = n0) (hn : n0 ≤ 17592186043904) (hb : Nums .i64 w a0 zs) :
    Calls Try.prog 74 #[.slice a0 n0 cap0, .int .i64 need] w (NewOutB w zs need) := by
  have HB : Hid (Nums .i64 w a0 zs) := hb
  have HZ : Hid (zs.length = n0) := hz
  clear hb hz
  have hmm := @run_makeMap Try.prog
  have HS0 : Hid (Tal 149 ansB ((w.alloc (.map #[] 0)).alloc (.cells #[.slice none 0 0, .int .i64 need, .int .i64 0, .map (some w.heap.size)] 149)) (w.heap.size + 1) w.heap.size none 0 (tNew Bk [] need)) := by
    refine ⟨?_, ?_, Own.nil _ _ _ _, by simp [tNew, uq], by simp [tNew, uq], by decide⟩
    · have := Box.new (w.alloc (.map #[] 0)) 149 #[.slice none 0 0, .int .i64 need, .int .i64 0, .map (some w.heap.size)]
      have e : (w.alloc (.map #[] 0)).heap.size = w.heap.size + 1 := by simp
      rw [e] at this
      exact this
    · have e : tmap ansB (tNew Bk [] need) = fun _ => none := by funext n; simp [tmap, tNew, uq]
      rw [e]
      exact (MapIs.new w).kept ((Kept.refl No _).alloc _) (fun e => e)
  have HK0 : Hid (Kept No w ((w.alloc (.map #[] 0)).alloc (.cells #[.slice none 0 0, .int .i64 need, .int .i64 0, .map (some w.heap.size)] 149))) := ((Kept.refl No w).alloc _).alloc _
  go_enter Try.func74, Try.ntmps74
  go_wp2
  obtain ⟨w0, hw0⟩ : ∃ w0, w0 = (w.alloc (.map #[] 0)).alloc (.cells #[.slice none 0 0, .int .i64 need, .int .i64 0, .map (some w.heap.size)] 149) := ⟨_, rfl⟩
  rw [← hw0] at HS0 HK0
  try rw [← hw0]
  go_loopw [16] (fun vi wr => ∃ k : Nat, vi = .int .i64 k ∧ k ≤ n0 ∧ Hid (∃ a cap, Tal 149 ansB wr (w.heap.size + 1) w.heap.size a cap (tNew Bk (zs.take k) need) ∧ Own 3 1 wr w.heap.size a cap (uq (zs.take k)).length ((uq (zs.take k)).map (Value.int .i64)) ∧ Kept No w wr)) (fun i _ => n0 - (intOf i).toNat)
  case atStart => exact ⟨0, by go_num, by omega, ⟨none, 0, by rw [List.take_zero]; exact HS0.out, by rw [List.take_zero]; exact Own.nil _ _ _ _, HK0.out⟩⟩
  case round =>
    obtain ⟨k, rfl, hk, HI⟩ := hrel
    clear HS0 HK0 hw0
    obtain ⟨a, cap, hT, hfr, hK⟩ := HI.out
    have HT : Hid (Tal 149 ansB wr (w.heap.size + 1) w.heap.size a cap (tNew Bk (zs.take k) need)) := hT
    have HOw : Hid (Own 3 1 wr w.heap.size a cap (uq (zs.take k)).length ((uq (zs.take k)).map (Value.int .i64))) := hfr
    have HF : Hid (∀ q, At a q → w.heap.size ≤ q) := fun q hq => hfr.base hq
    have HK : Hid (Kept No w wr) := hK
    clear hT hfr hK HI
    by_cases hlt : k < n0
    · have hlt' : (k : Int) < (n0 : Int) := by omega
      obtain ⟨bb, off, rfl, hcell⟩ := (HB.out.no HK.out) k (by rw [HZ.out]; exact hlt)
      have HTk : Hid (zs.take (k + 1) = zs.take k ++ [zs[k]?.getD 0]) := take_snoc (by rw [HZ.out]; exact hlt)
      generalize zs[k]?.getD 0 = z at hcell HTk
      obtain ⟨c0, c1, c2, c3⟩ := HT.out.cells
      clear c0 c1 c2
      by_cases hm : z ∈ uq (zs.take k)
      · have HL : Hid _ := look_noneB (x := tNew Bk (zs.take k) need) (s := z) hm rfl
        have HU : Hid (tNew Bk (zs.take (k + 1)) need = tNew Bk (zs.take k) need) := by show _ = _; rw [HTk.out]; unfold tNew; rw [uq_snoc, if_pos hm]
        clear hm HTk
        go_wp2_with (refine wp_lookupV rfl _ _ 147 151 true rfl w.heap.size z rfl rfl HT.out.map Try.und183 (Try.zero187 _) _ HL.out ?_)
        go_roundw
        case rel => exact ⟨k + 1, by go_num, by omega, ⟨a, cap, by rw [HU.out]; exact HT.out.no ((Kept.refl No wr).alloc _), by rw [show uq (zs.take (k + 1)) = uq (zs.take k) from congrArg TS.g HU.out]; exact HOw.out.no ((Kept.refl No wr).alloc _), HK.out.alloc _⟩⟩
        case measure => simp [intOf]; omega
      · have HL : Hid _ := look_noB (x := tNew Bk (zs.take k) need) (s := z) hm
        have HU : Hid (uq (zs.take (k + 1)) = uq (zs.take k) ++ [z]) := by show _ = _; rw [HTk.out, uq_snoc, if_neg hm]
        have HM : Hid (updG (tmap ansB (tNew Bk (zs.take k) need)) z (some (ansB none)) = tmap ansB (tNew Bk (zs.take (k + 1)) need)) := by show _ = _; rw [HTk.out]; exact tmap_new hm
        have HLn : Hid ((uq (zs.take k)).length ≤ k) := by have := uq_len (zs.take k); rw [List.length_take, HZ.out] at this; show _ ≤ _; omega
        have HLn2 : Hid ((uq (zs.take (k + 1))).length ≤ 17592186043904) := by have := uq_len (zs.take (k + 1)); rw [List.length_take, HZ.out] at this; show _ ≤ _; omega
        clear hm HTk
        obtain ⟨w1, hw1⟩ : ∃ w1, w1 = wr.alloc (.cells #[.bool false, .int .i64 0, .int .i64 0, .slice none 0 0] 151) := ⟨_, rfl⟩
        have HK1 : Hid (Kept No w w1) := by rw [hw1]; exact HK.out.alloc _
        have HT1 : Hid (Tal 149 ansB w1 (w.heap.size + 1) w.heap.size a cap (tNew Bk (zs.take k) need)) := by rw [hw1]; exact HT.out.no ((Kept.refl No wr).alloc _)
        have d3 := HT1.out.cells.2.2.2
        rw [hw1] at d3
        have HN0 : Hid (cnt (tNew Bk (zs.take k) need) = 0 ∧ cnt (tNew Bk (zs.take (k + 1)) need) = 0) := ⟨cnt_new _ _, cnt_new _ _⟩
        go_wp2_with (first
          | (refine wp_lookupV rfl _ _ 147 151 true rfl w.heap.size z rfl rfl HT.out.map Try.und183 (Try.zero187 _) _ HL.out ?_)
          | (refine wp_updateV rfl _ _ _ 147 151 rfl w.heap.size z (ansB none) rfl rfl rfl (by rw [← hw1]; exact HT1.out.map) Try.und183 ?_
             rw [← hw1]
             intro w3 HM3 HK3 hs3
             have HB3 : Hid (Box w3 (w.heap.size + 1) 149 (talC a cap w.heap.size (tNew Bk (zs.take k) need))) := HT1.out.box.kept HK3.out (fun e => HT1.out.ne e)
             have HR3 : Hid (Own 3 1 w3 w.heap.size a cap (uq (zs.take k)).length ((uq (zs.take k)).map (Value.int .i64))) := (show Own 3 1 w1 w.heap.size a cap _ _ by rw [hw1]; exact HOw.out.no ((Kept.refl No wr).alloc _)).kept HK3.out (fun q hq e => (HT1.out.off hq).2 e)
             have e0 := HB3.out.cell 0
             simp only [talC, List.getElem?_toArray, List.getElem?_cons_zero, List.getElem?_cons_succ, tNew] at e0
             have HK3' : Hid (Kept No w w3) := HK1.out.trans HK3.out (fun _ e => e) (fun i hi e => by have : i = w.heap.size := e; omega)
             have hsz : Hid (w.heap.size + 1 < w3.heap.size) := HB3.out.lt
             clear d3 c3 hw1 hs3 HK3)
          | (at_builtin
             refine wp_appV rfl _ _ 24 3 1 8 (.int .i64 0) Try.und24 Try.info3' rfl (by omega) rfl w.heap.size _ cap a _ rfl (HR3.out.no ((Kept.refl No w3).alloc _)) ⟨w3.heap.size, 0, none⟩ 1 1 [.int .i64 z] rfl rfl (cell_new1 _ _ _) (by simp [Value.oneCell']) (by have := HLn.out; omega) (by have := HLn.out; omega) (by omega) (by have := hsz.out; simp; omega) (uq (zs.take (k + 1))).length (by rw [HU.out]; simp) ?_
             intro g' cap' w4 HO4 HK4
             have HK34 : Hid (Kept (At a) w3 w4) := (((Kept.refl No w3).alloc (.cells #[.int .i64 z] 3)).of_no : Kept (At a) w3 _).then HK4.out
             have HB4 : Hid (Box w4 (w.heap.size + 1) 149 (talC a cap w.heap.size (tNew Bk (zs.take k) need))) := HB3.out.kept HK34.out (fun e => (HT1.out.off e).1 rfl)
             have HM4 : Hid (MapIs w4 w.heap.size (tmap ansB (tNew Bk (zs.take (k + 1)) need))) := by
               have := HM3.out
               rw [HM.out] at this
               exact this.kept HK34.out (fun e => (HT1.out.off e).2 rfl)
             have HKw : Hid (Kept No w w4) := HK3'.out.trans HK34.out (fun _ e => e) (fun i hi e => by have := HF.out i e; omega)
             have HO5 : Hid (Own 3 1 w4 w.heap.size (some ⟨g', 0, none⟩) cap' (uq (zs.take (k + 1))).length ((uq (zs.take (k + 1))).map (Value.int .i64))) := by
               have := HO4.out
               show Own _ _ _ _ _ _ _ _
               rw [HU.out, List.map_append] at *
               exact this
             have e0' := HB4.out.cell 0
             have f0 := HB4.out.frozen 0
             simp only [talC, List.getElem?_toArray, List.getElem?_cons_zero, List.getElem?_cons_succ, tNew] at e0'
             have hgt : g' ≠ w.heap.size + 1 := fun e => by
               rcases HO5.out.cases (by simp) with ⟨e, _⟩ | ⟨g, e, _, _, sp, hgb, _⟩
               · cases e
               · cases e
                 have hb4 := HB4.out
                 unfold Box at hb4
                 rw [e, hb4] at hgb
                 simp at hgb
             have HGT : Hid (g' ≠ w.heap.size + 1) := hgt
             clear e0 HK4 HK34 HM3 HB3 HR3 HK3' HO4 hgt))
        go_roundw
        case rel =>
          have hks : Kept (Only (w.heap.size + 1)) w4 (w4.setCell ⟨w.heap.size + 1, 0, none⟩ (.slice (some ⟨g', 0, none⟩) (uq (zs.take (k + 1))).length cap')) := (Kept.refl (Only (w.heap.size + 1)) w4).setCell (p := ⟨w.heap.size + 1, 0, none⟩) (fun _ => rfl) _
          have hoff : ∀ q, At (some ⟨g', 0, none⟩) q → ¬ Only (w.heap.size + 1) q := fun q hq e => by
            obtain ⟨ad, e1, rfl⟩ := hq
            cases e1
            exact HGT.out e
          refine ⟨k + 1, by go_num, by omega, ⟨some ⟨g', 0, none⟩, cap', ⟨?_, ?_, ?_, uq_nodup _, HLn2.out, by decide⟩, HO5.out.kept hks hoff, HKw.out.setCell (p := ⟨w.heap.size + 1, 0, none⟩) (fun h => by have : w.heap.size + 1 < w.heap.size := h; omega) _⟩⟩
          · have := HB4.out.set 0 (.slice (some ⟨g', 0, none⟩) (uq (zs.take (k + 1))).length cap')
            unfold talC at this ⊢
            rw [HN0.out.1] at this
            rw [HN0.out.2]
            exact this
          · exact HM4.out.kept hks (fun e => by have : w.heap.size = w.heap.size + 1 := e; omega)
          · exact Own.lower (HO5.out.kept hks hoff) (Nat.zero_le _)
        case measure => simp [intOf]; omega
    · have hlt' : ¬ (k : Int) < (n0 : Int) := by omega
      obtain rfl : k = n0 := by omega
      go_wp2
      go_ret
      exact ⟨a, cap, rfl, by have := HT.out; rw [List.take_of_length_le (by rw [HZ.out]; omega)] at this; exact this, HF.out, HK.out⟩


theorem wp_field0B {ops : Array Oper} {rest : List Oper} {o : Oper} {a : Act} {w : World} {Q : Exit → Act → World → Prop} (hg : o.guard = none) (x : Operand) (ho : o.op = .field 151 x 0) (c v1 v2 v3 : Value) (hx : a.eval x = .agg #[c, v1, v2, v3])
    (h : wpList Try.prog ops Q rest (a.put o.dst c) w) : wpList Try.prog ops Q (o :: rest) a w := by
  refine wp_runTo hg c w ?_ h
  simp only [execOp, ho, hx]
  kernel_rfl

theorem look1_someB {x : TS Bk} {s : Int} {v : Bk} (h : s ∈ x.g) (hv : x.v s = some v) : tupOk ((tmap ansB x s).getD (.agg #[.bool false, .int .i64 0, .int .i64 0, .slice none 0 0])) (tmap ansB x s).isSome false = .agg #[.bool true, .int .i64 v.n, .int .i64 v.c, .slice v.a v.l v.k] := by
  rw [tmap_someB h hv]; rfl
theorem look1_noneB {x : TS Bk} {s : Int} (h : s ∈ x.g) (hv : x.v s = none) : tupOk ((tmap ansB x s).getD (.agg #[.bool false, .int .i64 0, .int .i64 0, .slice none 0 0])) (tmap ansB x s).isSome false = .agg #[.bool false, .int .i64 0, .int .i64 0, .slice none 0 0] := by
  rw [tmap_noneB h hv]; rfl
set_option maxRecDepth 100000 in
set_option maxHeartbeats 2000000 in
theorem missing_anyB (t b cap : Nat) (a : Option Addr) (x : TS Bk) (w : World) (h : Tal 149 ansB w t b a cap x) :
    Calls Try.prog 79 #[.pointer (some ⟨t, 0, none⟩)] w (MissOut w (missL x)) := by
  have HT : Hid (Tal 149 ansB w t b a cap x) := h
  obtain ⟨c0, c1, c2, c3⟩ := h.cells
  have hlen := h.len
  clear h c1 c2 c3
  obtain ⟨n, hn⟩ : ∃ n, n = x.g.length := ⟨_, rfl⟩
  have HN : Hid (x.g.length = n) := hn.symm
  rw [← hn] at c0 hlen
  clear hn
  go_enter Try.func79, Try.ntmps79
  go_wp2
  go_loopw [3, 11] (fun v vi wr => ∃ (k : Nat) (a' : Option Addr) (cap' : Nat), vi = .int .i64 k ∧ k ≤ n ∧ v = .slice a' (missK x k).length cap' ∧ Hid (Own 3 1 wr w.heap.size a' cap' (missK x k).length ((missK x k).map (Value.int .i64))) ∧ Hid (Kept No w wr)) (fun _ i _ => n - (intOf i).toNat)
  case atStart => exact ⟨0, none, 0, by go_num, by omega, by simp [missK], (show Own 3 1 w w.heap.size none 0 (missK x 0).length ((missK x 0).map (Value.int .i64)) by simpa [missK] using Own.nil 3 1 w w.heap.size), Kept.refl _ _⟩
  case round =>
    obtain ⟨k, a', cap', rfl, hk, rfl, HO, HK⟩ := hrel
    clear c0
    by_cases hlt : k < n
    · have hlt' : (k : Int) < (n : Int) := by omega
      have HT1 : Hid (Tal 149 ansB wr t b a cap x) := HT.out.no HK.out
      have d3 := HT1.out.cells.2.2.2
      have HJL : Hid (k < x.g.length) := by show _ < _; rw [HN.out]; exact hlt
      obtain ⟨bb, off, rfl, hcell⟩ := HT1.out.nums k HJL.out
      have HTk : Hid (x.g.take (k + 1) = x.g.take k ++ [x.g[k]?.getD 0]) := take_snoc HJL.out
      have HMem : Hid (x.g[k]?.getD 0 ∈ x.g) := mem_at HJL.out
      have HLn : Hid ((missK x k).length ≤ k) := missK_len x k
      generalize x.g[k]?.getD 0 = z at hcell HTk HMem
      cases hv : x.v z with
      | some u =>
        have HL : Hid _ := look1_someB HMem.out hv
        have HU : Hid (missK x (k + 1) = missK x k) := missK_some HTk.out hv
        clear hv HTk
        go_wp2_with (first | (refine wp_lookupV rfl _ _ 147 151 false rfl b z rfl rfl HT1.out.map Try.und183 (Try.zero187 _) _ HL.out ?_) | (refine wp_field0B rfl _ rfl _ _ _ _ rfl ?_))
        go_roundw
        case rel => exact ⟨k + 1, a', cap', by go_num, by omega, by rw [HU.out], by rw [HU.out]; exact HO, HK⟩
        case measure => simp [intOf]; omega
      | none =>
        have HL : Hid _ := look1_noneB HMem.out hv
        have HU : Hid (missK x (k + 1) = missK x k ++ [z]) := missK_none HTk.out hv
        have hsz : Hid (w.heap.size ≤ wr.heap.size) := HK.out.size
        clear hv HTk
        go_wp2_with (first
          | (refine wp_lookupV rfl _ _ 147 151 false rfl b z rfl rfl HT1.out.map Try.und183 (Try.zero187 _) _ HL.out ?_)
          | (refine wp_field0B rfl _ rfl _ _ _ _ rfl ?_)
          | (at_builtin
             refine wp_appV rfl _ _ 24 3 1 8 (.int .i64 0) Try.und24 Try.info3' rfl (by omega) rfl w.heap.size _ cap' a' _ rfl (HO.out.no ((Kept.refl No wr).alloc _)) ⟨wr.heap.size, 0, none⟩ 1 1 [.int .i64 z] rfl rfl (cell_new1 _ _ _) (by simp [Value.oneCell']) (by have := HLn.out; omega) (by have := HLn.out; omega) (by omega) (by have := hsz.out; simp; omega) (missK x (k + 1)).length (by rw [HU.out]; simp) ?_
             intro g' cap'' w4 HO4 HK4
             have HKw : Hid (Kept No w w4) := (HK.out.alloc _).trans HK4.out (fun _ e => e) (fun i hi e => by have := HO.out.base e; omega)
             have HO5 : Hid (Own 3 1 w4 w.heap.size (some ⟨g', 0, none⟩) cap'' (missK x (k + 1)).length ((missK x (k + 1)).map (Value.int .i64))) := by
               have := HO4.out
               show Own _ _ _ _ _ _ _ _
               rw [HU.out, List.map_append] at *
               exact this
             clear HO4 HK4))
        go_roundw
        case rel => exact ⟨k + 1, some ⟨g', 0, none⟩, cap'', by go_num, by omega, rfl, HO5, HKw⟩
        case measure => simp [intOf]; omega
    · have hlt' : ¬ (k : Int) < (n : Int) := by omega
      obtain rfl : k = n := by omega
      have HA : Hid (missK x k = missL x) := by show _ = _; rw [← HN.out]; exact missK_all x
      go_wp2
      go_ret
      rw [HA.out] at HO ⊢
      exact ⟨a', cap', rfl, HO.out, HK.out⟩

end Go.Proofs.Ythnecaejhnojfaa
namespace Go.Proofs.Ythnecaejhnojfaa
open Go.RowKit
set_option linter.unusedVariables false
set_option linter.unusedSimpArgs false

/-- A slice of bytes that the call itself has made, or nil. -/
abbrev OwnB (w : World) (base : Nat) (a : Option Addr) (cap : Nat) (zs : List Int) : Prop := Own 5 1 w base a cap zs.length (zs.map (Value.int .u8))
theorem OwnB.bytes {w : World} {base : Nat} {a : Option Addr} {cap : Nat} {zs : List Int} (h : OwnB w base a cap zs) : Bytes w a zs := h.nums rfl

theorem Bytes.none {w : World} {zs : List Int} (h : Bytes w none zs) : zs = [] := by
  cases zs with
  | nil => rfl
  | cons z l => obtain ⟨b, o, e, _⟩ := h 0 (by simp); cases e

def CloneOut (w : World) (a : Option Addr) (zs : List Int) (e : Ending) (w' : World) : Prop :=
  ∃ a' cap', e = .returned (.slice a' zs.length cap') ∧ OwnB w' w.heap.size a' cap' zs ∧ Kept No w w' ∧ (a = none → a' = none) ∧ (a' = none → a = none)

set_option maxHeartbeats 2000000 in
set_option maxRecDepth 100000 in
theorem clone_some (ad0 : Addr) (n c : Nat) (zs : List Int) (w : World) (hz : zs.length = n) (hn : n ≤ 140737488355328) (hb : Bytes w (some ad0) zs) :
    Calls Try.prog 32 #[.slice (some ad0) n c] w (CloneOut w (some ad0) zs) := by
  obtain ⟨i0, hi, hz0, hz1, hz2⟩ := info_parts Try.info5
  have q25 : ∀ (w : World) (a : Option Addr) (n c n' c' : Nat), (binOp .eql 25 (.slice a n c) (.slice none n' c')).run Try.prog w = .ok (.bool a.isNone) w := fun w a n c n' c' => Lib.run_eql_slice_nil w _ _ a n c n' c' Try.underlying25
  have HB : Hid (Bytes w (some ad0) zs) := hb
  have HZ : Hid (zs.length = n) := hz
  clear hb hz
  go_enter Try.func32, Try.ntmps32
  go_wp2_with (at_builtin; refine wpList_append_own _ rfl _ _ 25 rfl w.heap.size 5 i0 (.int .u8 0) 1 1 Try.underlying25 hi hz0 hz1 hz2 rfl (by decide) _ _ _ rfl (World.ownsRow_made w #[] 0 (Nat.le_refl _) (Nat.zero_le _) rfl) ad0 n c (zs.map (Value.int .u8)) rfl ?qc1 ?qc2 ?qc3 ?qc4 ?qc5 ?qc6 ?_)
  case qc1 => simp [HZ.out]
  case qc2 =>
    intro j u hj
    have hj0 : 0 < (zs.map (Value.int .u8)).length := by have := (List.getElem?_eq_some_iff.1 hj).1; omega
    obtain ⟨ad, e, h⟩ := HB.out.src hj0
    cases e
    exact Lib.cell?_alloc_some _ (h j u hj)
  case qc3 => exact num_one _ _
  case qc4 => unfold maxLen; omega
  case qc5 => omega
  case qc6 => simp
  intro v' w1 hown hgrow hnil
  go_wp2
  go_ret
  have hk : Kept No w w1 := ((Kept.refl No w).alloc _).grown hgrow (by intro k hk h; simp [Value.ownBlock] at hk; omega)
  rcases hown.2 with ⟨e, _⟩ | ⟨g, cap', cur, e, hr⟩
  · exact absurd e (by first | exact hnil | (intro e; exact absurd (hnil.1 e).1 (by simp)))
  · have hown' := hown
    subst e
    refine ⟨some ⟨g, 0, none⟩, cap', by rw [HZ.out]; simp, ?_, hk, fun e => (by cases e), fun e => (by cases e)⟩
    unfold OwnB Own
    rw [HZ.out]
    simpa using hown'

set_option maxRecDepth 100000 in
set_option maxHeartbeats 1000000 in
theorem clone_nil (n c : Nat) (w : World) :
    Calls Try.prog 32 #[.slice none n c] w (fun e w' => e = .returned (.slice none 0 0) ∧ w' = w) := by
  have q25 : ∀ (w : World) (a : Option Addr) (n c n' c' : Nat), (binOp .eql 25 (.slice a n c) (.slice none n' c')).run Try.prog w = .ok (.bool a.isNone) w := fun w a n c n' c' => Lib.run_eql_slice_nil w _ _ a n c n' c' Try.underlying25
  go_enter Try.func32, Try.ntmps32
  go_wp2
  go_ret
  exact ⟨rfl, rfl⟩

theorem clone_any (a : Option Addr) (n c : Nat) (zs : List Int) (w : World) (hz : zs.length = n) (hn : n ≤ 140737488355328) (hb : Bytes w a zs) :
    Calls Try.prog 32 #[.slice a n c] w (CloneOut w a zs) := by
  cases a with
  | none =>
    obtain rfl := hb.none
    refine (clone_nil n c w).mono ?_
    rintro e w' ⟨rfl, rfl⟩
    exact ⟨none, 0, rfl, Own.nil _ _ _ _, Kept.refl _ _, fun _ => rfl, fun _ => rfl⟩
  | some ad =>
    exact clone_some ad n c zs w hz hn hb

/-- The order of stamps. -/
def lessB (n c m d : Int) : Bool := decide (n < m) || (decide (n = m) && decide (c < d))
theorem less_any (n c m d : Int) (w : World) : Calls Try.prog 88 #[.agg #[.int .i64 n, .int .i64 c], .agg #[.int .i64 m, .int .i64 d]] w (fun e w' => e = .returned (.bool (lessB n c m d)) ∧ Kept No w w') := by
  have HL : Hid (lessB n c m d = (decide (n < m) || (decide (n = m) && decide (c < d)))) := rfl
  generalize lessB n c m d = L at HL
  by_cases h : n = m
  · subst h
    go_enter Try.func88, Try.ntmps88
    go_wp2
    all_goals go_ret
    all_goals refine ⟨ret_bool ?_, (((Kept.refl No w).alloc _).alloc _)⟩
    all_goals rw [HL.out]
    all_goals simp
  · have h' : (n == m) = false := by simpa using h
    go_enter Try.func88, Try.ntmps88
    go_wp2
    all_goals go_ret
    all_goals refine ⟨ret_bool ?_, (((Kept.refl No w).alloc _).alloc _)⟩
    all_goals rw [HL.out]
    all_goals simp_all

end Go.Proofs.Ythnecaejhnojfaa
namespace Go.Proofs.Ythnecaejhnojfaa
open Go.RowKit
set_option linter.unusedVariables false
set_option linter.unusedSimpArgs false

theorem missL_new {α : Type} (l : List Int) (need : Int) : missL (tNew α l need) = uq l := by
  unfold missL tNew; simp

/-- What a machine is made of. -/
structure MS where
  cl : Int
  op : Int
  k0 : Int
  k1 : Int
  k2 : Int
  k3 : Int
  g : List Int
  rd : Int
def mC (x : MS) (a : Option Addr) (cap : Nat) (t : TypeId) (v : Value) : Array Value :=
  #[.bool true, .int .i64 x.cl, .int .i64 x.op, .int .i64 x.k0, .int .i64 x.k1, .int .i64 x.k2, .int .i64 x.k3, .slice a x.g.length cap, .int .i64 x.rd, .iface t v]
structure Mach (w : World) (m : Nat) (a : Option Addr) (cap : Nat) (x : MS) (t : TypeId) (v : Value) : Prop where
  box : Box w m 109 (mC x a cap t v)
  row : Own 3 1 w 0 a cap x.g.length (x.g.map (Value.int .i64))
  nd : x.g.Nodup
  len : x.g.length ≤ 17592186043904
def MB (m : Nat) (a : Option Addr) : Nat → Prop := fun k => k = m ∨ At a k
theorem Mach.kept {S : Nat → Prop} {w w' : World} {m cap : Nat} {a : Option Addr} {x : MS} {t : TypeId} {v : Value} (h : Mach w m a cap x t v) (hk : Kept S w w') (hS : ∀ k, MB m a k → ¬ S k) : Mach w' m a cap x t v :=
  ⟨h.box.kept hk (hS m (.inl rfl)), h.row.kept hk (fun k hk => hS k (.inr hk)), h.nd, h.len⟩
theorem Mach.no {w w' : World} {m cap : Nat} {a : Option Addr} {x : MS} {t : TypeId} {v : Value} (h : Mach w m a cap x t v) (hk : Kept No w w') : Mach w' m a cap x t v := h.kept hk (fun _ _ e => e)
theorem Mach.off {w : World} {m cap : Nat} {a : Option Addr} {x : MS} {t : TypeId} {v : Value} (h : Mach w m a cap x t v) {k : Nat} (hk : At a k) : k ≠ m := by
  rcases h.row.cases (by simp) with ⟨rfl, _⟩ | ⟨g, rfl, _, _, sp, hg, _⟩
  · exact absurd hk At.none
  · obtain ⟨ad, e, rfl⟩ := hk
    cases e
    intro e
    have e : g = m := e
    have := h.box
    unfold Box at this
    rw [e, this] at hg
    simp at hg
theorem Mach.lt {w : World} {m cap : Nat} {a : Option Addr} {x : MS} {t : TypeId} {v : Value} (h : Mach w m a cap x t v) {k : Nat} (hk : MB m a k) : k < w.heap.size := by
  rcases hk with rfl | hk
  · exact h.box.lt
  · rcases h.row.cases (by simp) with ⟨rfl, _⟩ | ⟨g, rfl, _, hlt, _⟩
    · exact absurd hk At.none
    · obtain ⟨ad, e, rfl⟩ := hk
      cases e; exact hlt

def NewMOut (w : World) (x : MS) (t : TypeId) (v : Value) (e : Ending) (w' : World) : Prop :=
  ∃ m a cap, e = .returned (.pointer (some ⟨m, 0, none⟩)) ∧ Mach w' m a cap x (105) (.agg #[.iface t v]) ∧ (∀ k, MB m a k → w.heap.size ≤ k) ∧ Kept No w w'

set_option maxRecDepth 100000 in
set_option maxHeartbeats 2000000 in
theorem newM_any (cl op k0 k1 k2 k3 rd : Int) (a0 : Option Addr) (n0 cap0 : Nat) (zs : List Int) (t : TypeId) (v : Value) (w : World) (hz : zs.length = n0) (hn : n0 ≤ 17592186043904) (hb : Nums .i64 w a0 zs) :
    Calls Try.prog 31 #[.int .i64 cl, .int .i64 op, .agg #[.int .i64 k0, .int .i64 k1, .int .i64 k2, .int .i64 k3], .slice a0 n0 cap0, .int .i64 rd, .iface t v] w (NewMOut w ⟨cl, op, k0, k1, k2, k3, uq zs, rd⟩ t v) := by
  have HB : Hid (Nums .i64 w a0 zs) := hb
  have HZ : Hid (zs.length = n0) := hz
  clear hb hz
  obtain ⟨w1, hw1⟩ : ∃ w1, w1 = w.alloc (.cells #[.int .i64 k0, .int .i64 k1, .int .i64 k2, .int .i64 k3] 23) := ⟨_, rfl⟩
  have HK1 : Hid (Kept No w w1) := by rw [hw1]; exact (Kept.refl No w).alloc _
  have HX1 : Hid (Box w1 w.heap.size 23 #[.int .i64 k0, .int .i64 k1, .int .i64 k2, .int .i64 k3]) := by rw [hw1]; exact Box.new _ _ _
  go_enter Try.func31, Try.ntmps31
  go_wp2_with (first
    | (go_at_call 39
       rw [← hw1]
       refine Calls.mono (new_anyU a0 n0 cap0 zs 0 w1 HZ.out hn (HB.out.no HK1.out)) ?_
       rintro e w2 ⟨at', ct, rfl, hT2, hf2, hk2⟩
       clear hf2
       generalize w1.heap.size + 1 = tb at hT2 ⊢
       generalize w1.heap.size = bb at hT2 ⊢
       have HT2 : Hid (Tal 113 ansU w2 tb bb at' ct (tNew Unit zs 0)) := hT2
       have HX2 : Hid (Box w2 w.heap.size 23 #[.int .i64 k0, .int .i64 k1, .int .i64 k2, .int .i64 k3]) := HX1.out.kept hk2 (fun e => e)
       have HK2 : Hid (Kept No w w2) := HK1.out.then hk2
       clear hT2 hk2 HX1 hw1)
    | (go_at_call 40
       go_loud (
         refine Calls.mono (missing_anyU _ _ ct at' (tNew Unit zs 0) w2 HT2.out) ?_
         rw [missL_new]
         rintro e w3 ⟨a3, c3, rfl, hO3, hk3⟩
         have HX3 : Hid (Box w3 w.heap.size 23 #[.int .i64 k0, .int .i64 k1, .int .i64 k2, .int .i64 k3]) := HX2.out.kept hk3 (fun e => e)
         have HK3 : Hid (Kept No w w3) := HK2.out.then hk3
         have HO3 : Hid (Own 3 1 w3 w.heap.size a3 c3 (uq zs).length ((uq zs).map (Value.int .i64))) := hO3.lower HK2.out.size
         have HL : Hid ((uq zs).length ≤ 17592186043904) := by have := uq_len zs; rw [HZ.out] at this; show _ ≤ _; omega
         have x0 := HX3.out.cell 0
         have x1 := HX3.out.cell 1
         have x2 := HX3.out.cell 2
         have x3 := HX3.out.cell 3
         simp only [List.getElem?_toArray, List.getElem?_cons_zero, List.getElem?_cons_succ] at x0 x1 x2 x3
         clear hO3 hk3 HT2 HX2)))
  go_ret
  refine ⟨w3.heap.size, a3, c3, rfl, ⟨Box.new _ _ _, Own.lower (HO3.out.no ((Kept.refl No w3).alloc _)) (Nat.zero_le _), uq_nodup _, HL.out⟩, ?_, HK3.out.alloc _⟩
  rintro k (rfl | hk)
  · exact HK3.out.size
  · exact HO3.out.base hk

end Go.Proofs.Ythnecaejhnojfaa
namespace Go.Proofs.Ythnecaejhnojfaa
open Go.RowKit
set_option linter.unusedVariables false
set_option linter.unusedSimpArgs false

def WriteOut (w : World) (x : MS) (zs : List Int) (e : Ending) (w' : World) : Prop :=
  ∃ m a cap da dc, e = .returned (.iface 84 (.pointer (some ⟨m, 0, none⟩))) ∧ Mach w' m a cap x 105 (.agg #[.iface 87 (.agg #[.int .i64 x.cl, .slice da zs.length dc])]) ∧ OwnB w' w.heap.size da dc zs ∧ (∀ k, MB m a k → w.heap.size ≤ k) ∧ (∀ k, At da k → ∀ j, MB m a j → k < j) ∧ Kept No w w'

set_option maxRecDepth 100000 in
set_option maxHeartbeats 2000000 in
theorem write_any (cl op k0 k1 k2 k3 rd : Int) (a0 : Option Addr) (n0 cap0 : Nat) (gs : List Int) (da0 : Option Addr) (dn dc0 : Nat) (zs : List Int) (w : World) (hz : gs.length = n0) (hn : n0 ≤ 17592186043904) (hb : Nums .i64 w a0 gs)
    (hd : zs.length = dn) (hdn : dn ≤ 140737488355328) (hdb : Bytes w da0 zs) :
    Calls Try.prog 15 #[.int .i64 cl, .int .i64 op, .agg #[.int .i64 k0, .int .i64 k1, .int .i64 k2, .int .i64 k3], .slice a0 n0 cap0, .int .i64 rd, .slice da0 dn dc0] w (WriteOut w ⟨cl, op, k0, k1, k2, k3, uq gs, rd⟩ zs) := by
  have HB : Hid (Nums .i64 w a0 gs) := hb
  have HZ : Hid (gs.length = n0) := hz
  have HDB : Hid (Bytes w da0 zs) := hdb
  have HD : Hid (zs.length = dn) := hd
  clear hb hz hdb hd
  obtain ⟨w1, hw1⟩ : ∃ w1, w1 = w.alloc (.cells #[.int .i64 k0, .int .i64 k1, .int .i64 k2, .int .i64 k3] 23) := ⟨_, rfl⟩
  have HK1 : Hid (Kept No w w1) := by rw [hw1]; exact (Kept.refl No w).alloc _
  have HX1 : Hid (∀ wr, Kept No w1 wr → wr.cell? ⟨w.heap.size, 0, none⟩ = some (.int .i64 k0) ∧ wr.cell? ⟨w.heap.size, 1, none⟩ = some (.int .i64 k1) ∧ wr.cell? ⟨w.heap.size, 2, none⟩ = some (.int .i64 k2) ∧ wr.cell? ⟨w.heap.size, 3, none⟩ = some (.int .i64 k3)) := fun wr hk => by
    have hX : Box w1 w.heap.size 23 #[.int .i64 k0, .int .i64 k1, .int .i64 k2, .int .i64 k3] := by rw [hw1]; exact Box.new _ _ _
    have hX := hX.kept hk (fun e => e)
    exact ⟨hX.cell 0, hX.cell 1, hX.cell 2, hX.cell 3⟩
  obtain ⟨x0, x1, x2, x3⟩ := HX1.out w1 (Kept.refl _ _)
  go_enter Try.func15, Try.ntmps15
  go_upto_region 1 with fail
  rw [← hw1]
  clear hw1
  have HKr : Hid (Kept No w1 w1.drew) := (Kept.refl No w1).drew
  go_region_held3 (fun w' => w'.cell? ⟨w.heap.size, 0, none⟩ = some (.int .i64 k0) ∧ w'.cell? ⟨w.heap.size, 1, none⟩ = some (.int .i64 k1) ∧ w'.cell? ⟨w.heap.size, 2, none⟩ = some (.int .i64 k2) ∧ w'.cell? ⟨w.heap.size, 3, none⟩ = some (.int .i64 k3)) (go_keep) (first
    | (go_at_call 32
       refine Calls.mono (clone_any da0 dn dc0 zs w1.drew HD.out hdn (HDB.out.no (HK1.out.then HKr.out))) ?_
       rintro e w2 ⟨da, dc, rfl, hO2, hk2, _, _⟩
       have HO2 : Hid (OwnB w2 w1.heap.size da dc zs) := hO2
       have HK2 : Hid (Kept No w1 w2) := HKr.out.then hk2
       have HDl : Hid (∀ k, At da k → k < w2.heap.size) := fun k hk => by
         rcases hO2.cases (by simp) with ⟨rfl, _⟩ | ⟨g, rfl, _, hlt, _⟩
         · exact absurd hk At.none
         · obtain ⟨ad, e, rfl⟩ := hk
           cases e; exact hlt
       obtain ⟨y0, y1, y2, y3⟩ := HX1.out w2 HK2.out
       clear hO2 hk2)
    | (go_at_call 31
       refine Calls.mono (newM_any cl op k0 k1 k2 k3 rd a0 n0 cap0 gs 87 (.agg #[.int .i64 cl, .slice da zs.length dc]) w2 HZ.out hn (HB.out.no (HK1.out.then HK2.out))) ?_
       rintro e w3 ⟨m, a, cap, rfl, hM, hf, hk3⟩
       have HM3 : Hid (Mach w3 m a cap ⟨cl, op, k0, k1, k2, k3, uq gs, rd⟩ 105 (.agg #[.iface 87 (.agg #[.int .i64 cl, .slice da zs.length dc])])) := hM
       have HF3 : Hid (∀ k, MB m a k → w2.heap.size ≤ k) := hf
       have HO3 : Hid (OwnB w3 w1.heap.size da dc zs) := HO2.out.no hk3
       have HK3 : Hid (Kept No w1 w3) := HK2.out.then hk3
       obtain ⟨z0, z1, z2, z3⟩ := HX1.out w3 HK3.out
       clear hM hf hk3))
  go_wp2
  go_ret
  have hk := HK1.out.then HK3.out
  exact ⟨m, a, cap, da, dc, rfl, HM3.out, Own.lower HO3.out HK1.out.size, fun k h => Nat.le_trans (HK1.out.then HK2.out).size (HF3.out k h), fun k h j hj => Nat.lt_of_lt_of_le (HDl.out k h) (HF3.out j hj), hk⟩

end Go.Proofs.Ythnecaejhnojfaa
