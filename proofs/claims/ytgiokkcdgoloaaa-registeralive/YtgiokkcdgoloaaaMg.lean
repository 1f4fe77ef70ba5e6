import Derived.Test.YtgiokkcdgoloaaaTb
import Derived.Lib.SliceRun
import Derived.WalkSpells
import Derived.Test.YtgiokkcdgoloaaaTv
import Derived.StillTailTactics
import Derived.Deep.RegionHeld3
import Derived.Deep.Cut
import Derived.Deep.CutRange
namespace Go.Proofs.Ytgiokkcdgoloaaa
open Go.RowKit
set_option linter.unusedVariables false
set_option linter.unusedSimpArgs false
abbrev OwnB (w : World) (base : Nat) (a : Option Addr) (cap : Nat) (zs : List Int) : Prop := Own 5 1 w base a cap zs.length (zs.map (Value.int .u8))
theorem OwnB.bytes {w : World} {base : Nat} {a : Option Addr} {cap : Nat} {zs : List Int} (h : OwnB w base a cap zs) : Bytes w a zs := h.nums rfl
theorem Bytes.none {w : World} {zs : List Int} (h : Bytes w none zs) : zs = [] := by
  cases zs with
  | nil => rfl
  | cons z l => obtain ⟨b, o, e, _⟩ := h 0 (by simp); cases e
def CloneOut (w : World) (a : Option Addr) (zs : List Int) (e : Ending) (w' : World) : Prop :=
  ∃ a' cap', e = .returned (.slice a' zs.length cap') ∧ OwnB w' w.heap.size a' cap' zs ∧ Kept No w w' ∧ (a = none → a' = none) ∧ (a' = none → a = none)
set_option maxHeartbeats 2000000 in
set_option maxRecDepth 100000 in
theorem clone_some (ad0 : Addr) (n c : Nat) (zs : List Int) (w : World) (hz : zs.length = n) (hn : n ≤ 140737488355328) (hb : Bytes w (some ad0) zs) :
    Calls Try.prog 39 #[.slice (some ad0) n c] w (CloneOut w (some ad0) zs) := by
  obtain ⟨i0, hi, hz0, hz1, hz2⟩ := info_parts Try.info5
  have q25 : ∀ (w : World) (a : Option Addr) (n c n' c' : Nat), (binOp .eql 25 (.slice a n c) (.slice none n' c')).run Try.prog w = .ok (.bool a.isNone) w := fun w a n c n' c' => Lib.run_eql_slice_nil w _ _ a n c n' c' Try.underlying25
  have HB : Hid (Bytes w (some ad0) zs) := hb
  have HZ : Hid (zs.length = n) := hz
  clear hb hz
  go_enter Try.func39, Try.ntmps39
  go_wp2_with (at_builtin; refine wpList_append_own _ rfl _ _ 25 rfl w.heap.size 5 i0 (.int .u8 0) 1 1 Try.underlying25 hi hz0 hz1 hz2 rfl (by decide) _ _ _ rfl (World.ownsRow_made w #[] 0 (Nat.le_refl _) (Nat.zero_le _) rfl) ad0 n c (zs.map (Value.int .u8)) rfl ?qc1 ?qc2 ?qc3 ?qc4 ?qc5 ?qc6 ?_)
  case qc1 => simp [HZ.out]
  case qc2 =>
    intro j u hj
    have hj0 : 0 < (zs.map (Value.int .u8)).length := by have := (List.getElem?_eq_some_iff.1 hj).1; omega
    obtain ⟨ad, e, h⟩ := HB.out.src hj0
    cases e
    exact Lib.cell?_alloc_some _ (h j u hj)
  case qc3 => exact num_one _ _
  case qc4 => unfold maxLen; omega
  case qc5 => omega
  case qc6 => simp
  intro v' w1 hown hgrow hnil
  go_wp2
  go_ret
  have hk : Kept No w w1 := ((Kept.refl No w).alloc _).grown hgrow (by intro k hk h; simp [Value.ownBlock] at hk; omega)
  rcases hown.2 with ⟨e, _⟩ | ⟨g, cap', cur, e, hr⟩
  · exact absurd e (by first | exact hnil | (intro e; exact absurd (hnil.1 e).1 (by simp)))
  · have hown' := hown
    subst e
    refine ⟨some ⟨g, 0, none⟩, cap', by rw [HZ.out]; simp, ?_, hk, fun e => (by cases e), fun e => (by cases e)⟩
    unfold OwnB Own
    rw [HZ.out]
    simpa using hown'
set_option maxRecDepth 100000 in
set_option maxHeartbeats 1000000 in
theorem clone_nil (n c : Nat) (w : World) :
    Calls Try.prog 39 #[.slice none n c] w (fun e w' => e = .returned (.slice none 0 0) ∧ w' = w) := by
  have q25 : ∀ (w : World) (a : Option Addr) (n c n' c' : Nat), (binOp .eql 25 (.slice a n c) (.slice none n' c')).run Try.prog w = .ok (.bool a.isNone) w := fun w a n c n' c' => Lib.run_eql_slice_nil w _ _ a n c n' c' Try.underlying25
  go_enter Try.func39, Try.ntmps39
  go_wp2
  go_ret
  exact ⟨rfl, rfl⟩
theorem clone_any (a : Option Addr) (n c : Nat) (zs : List Int) (w : World) (hz : zs.length = n) (hn : n ≤ 140737488355328) (hb : Bytes w a zs) :
    Calls Try.prog 39 #[.slice a n c] w (CloneOut w a zs) := by
  cases a with
  | none =>
    obtain rfl := hb.none
    refine (clone_nil n c w).mono ?_
    rintro e w' ⟨rfl, rfl⟩
    exact ⟨none, 0, rfl, Own.nil _ _ _ _, Kept.refl _ _, fun _ => rfl, fun _ => rfl⟩
  | some ad =>
    exact clone_some ad n c zs w hz hn hb
def lessB (n c m d : Int) : Bool := decide (n < m) || (decide (n = m) && decide (c < d))
theorem less_any (n c m d : Int) (w : World) : Calls Try.prog 38 #[.agg #[.int .i64 n, .int .i64 c], .agg #[.int .i64 m, .int .i64 d]] w (fun e w' => e = .returned (.bool (lessB n c m d)) ∧ Kept No w w') := by
  have HL : Hid (lessB n c m d = (decide (n < m) || (decide (n = m) && decide (c < d)))) := rfl
  generalize lessB n c m d = L at HL
  by_cases h : n = m
  · subst h
    go_enter Try.func38, Try.ntmps38
    go_wp2
    all_goals go_ret
    all_goals refine ⟨ret_bool ?_, (((Kept.refl No w).alloc _).alloc _)⟩
    all_goals rw [HL.out]
    all_goals simp
  · have h' : (n == m) = false := by simpa using h
    go_enter Try.func38, Try.ntmps38
    go_wp2
    all_goals go_ret
    all_goals refine ⟨ret_bool ?_, (((Kept.refl No w).alloc _).alloc _)⟩
    all_goals rw [HL.out]
    all_goals simp_all
end Go.Proofs.Ytgiokkcdgoloaaa
namespace Go.Proofs.Ytgiokkcdgoloaaa
open Go.RowKit
set_option linter.unusedVariables false
set_option linter.unusedSimpArgs false
theorem missL_new {α : Type} (l : List Int) (need : Int) : missL (tNew α l need) = uq l := by
  unfold missL tNew; simp
structure MS where
  cl : Int
  op : Int
  k0 : Int
  k1 : Int
  k2 : Int
  k3 : Int
  g : List Int
  rd : Int
def mC (x : MS) (a : Option Addr) (cap : Nat) (t : TypeId) (v : Value) : Array Value :=
  #[.bool true, .int .i64 x.cl, .int .i64 x.op, .int .i64 x.k0, .int .i64 x.k1, .int .i64 x.k2, .int .i64 x.k3, .slice a x.g.length cap, .int .i64 x.rd, .iface t v]
structure Mach (w : World) (m : Nat) (a : Option Addr) (cap : Nat) (x : MS) (t : TypeId) (v : Value) : Prop where
  box : Box w m 142 (mC x a cap t v)
  row : Own 3 1 w 0 a cap x.g.length (x.g.map (Value.int .i64))
  nd : x.g.Nodup
  len : x.g.length ≤ 17592186043904
def MB (m : Nat) (a : Option Addr) : Nat → Prop := fun k => k = m ∨ At a k
theorem Mach.kept {S : Nat → Prop} {w w' : World} {m cap : Nat} {a : Option Addr} {x : MS} {t : TypeId} {v : Value} (h : Mach w m a cap x t v) (hk : Kept S w w') (hS : ∀ k, MB m a k → ¬ S k) : Mach w' m a cap x t v :=
  ⟨h.box.kept hk (hS m (.inl rfl)), h.row.kept hk (fun k hk => hS k (.inr hk)), h.nd, h.len⟩
theorem Mach.no {w w' : World} {m cap : Nat} {a : Option Addr} {x : MS} {t : TypeId} {v : Value} (h : Mach w m a cap x t v) (hk : Kept No w w') : Mach w' m a cap x t v := h.kept hk (fun _ _ e => e)
theorem Mach.off {w : World} {m cap : Nat} {a : Option Addr} {x : MS} {t : TypeId} {v : Value} (h : Mach w m a cap x t v) {k : Nat} (hk : At a k) : k ≠ m := by
  rcases h.row.cases (by simp) with ⟨rfl, _⟩ | ⟨g, rfl, _, _, sp, hg, _⟩
  · exact absurd hk At.none
  · obtain ⟨ad, e, rfl⟩ := hk
    cases e
    intro e
    have e : g = m := e
    have := h.box
    unfold Box at this
    rw [e, this] at hg
    simp at hg
theorem Mach.lt {w : World} {m cap : Nat} {a : Option Addr} {x : MS} {t : TypeId} {v : Value} (h : Mach w m a cap x t v) {k : Nat} (hk : MB m a k) : k < w.heap.size := by
  rcases hk with rfl | hk
  · exact h.box.lt
  · rcases h.row.cases (by simp) with ⟨rfl, _⟩ | ⟨g, rfl, _, hlt, _⟩
    · exact absurd hk At.none
    · obtain ⟨ad, e, rfl⟩ := hk
      cases e; exact hlt
def NewMOut (w : World) (x : MS) (t : TypeId) (v : Value) (e : Ending) (w' : World) : Prop :=
  ∃ m a cap, e = .returned (.pointer (some ⟨m, 0, none⟩)) ∧ Mach w' m a cap x (138) (.agg #[.iface t v]) ∧ (∀ k, MB m a k → w.heap.size ≤ k) ∧ Kept No w w'
set_option maxRecDepth 100000 in
set_option maxHeartbeats 2000000 in
theorem newM_any (cl op k0 k1 k2 k3 rd : Int) (a0 : Option Addr) (n0 cap0 : Nat) (zs : List Int) (t : TypeId) (v : Value) (w : World) (hz : zs.length = n0) (hn : n0 ≤ 17592186043904) (hb : Nums .i64 w a0 zs) :
    Calls Try.prog 48 #[.int .i64 cl, .int .i64 op, .agg #[.int .i64 k0, .int .i64 k1, .int .i64 k2, .int .i64 k3], .slice a0 n0 cap0, .int .i64 rd, .iface t v] w (NewMOut w ⟨cl, op, k0, k1, k2, k3, uq zs, rd⟩ t v) := by
  have HB : Hid (Nums .i64 w a0 zs) := hb
  have HZ : Hid (zs.length = n0) := hz
  clear hb hz
  obtain ⟨w1, hw1⟩ : ∃ w1, w1 = w.alloc (.cells #[.int .i64 k0, .int .i64 k1, .int .i64 k2, .int .i64 k3] 23) := ⟨_, rfl⟩
  have HK1 : Hid (Kept No w w1) := by rw [hw1]; exact (Kept.refl No w).alloc _
  have HX1 : Hid (Box w1 w.heap.size 23 #[.int .i64 k0, .int .i64 k1, .int .i64 k2, .int .i64 k3]) := by rw [hw1]; exact Box.new _ _ _
  go_enter Try.func48, Try.ntmps48
  go_wp2_with (first
    | (go_at_call 61
       rw [← hw1]
       refine Calls.mono (new_anyU a0 n0 cap0 zs 0 w1 HZ.out hn (HB.out.no HK1.out)) ?_
       rintro e w2 ⟨at', ct, rfl, hT2, hf2, hk2⟩
       clear hf2
       generalize w1.heap.size + 1 = tb at hT2 ⊢
       generalize w1.heap.size = bb at hT2 ⊢
       have HT2 : Hid (Tal 150 ansU w2 tb bb at' ct (tNew Unit zs 0)) := hT2
       have HX2 : Hid (Box w2 w.heap.size 23 #[.int .i64 k0, .int .i64 k1, .int .i64 k2, .int .i64 k3]) := HX1.out.kept hk2 (fun e => e)
       have HK2 : Hid (Kept No w w2) := HK1.out.then hk2
       clear hT2 hk2 HX1 hw1)
    | (go_at_call 62
       go_loud (
         refine Calls.mono (missing_anyU _ _ ct at' (tNew Unit zs 0) w2 HT2.out) ?_
         rw [missL_new]
         rintro e w3 ⟨a3, c3, rfl, hO3, hk3⟩
         have HX3 : Hid (Box w3 w.heap.size 23 #[.int .i64 k0, .int .i64 k1, .int .i64 k2, .int .i64 k3]) := HX2.out.kept hk3 (fun e => e)
         have HK3 : Hid (Kept No w w3) := HK2.out.then hk3
         have HO3 : Hid (Own 3 1 w3 w.heap.size a3 c3 (uq zs).length ((uq zs).map (Value.int .i64))) := hO3.lower HK2.out.size
         have HL : Hid ((uq zs).length ≤ 17592186043904) := by have := uq_len zs; rw [HZ.out] at this; show _ ≤ _; omega
         have x0 := HX3.out.cell 0
         have x1 := HX3.out.cell 1
         have x2 := HX3.out.cell 2
         have x3 := HX3.out.cell 3
         simp only [List.getElem?_toArray, List.getElem?_cons_zero, List.getElem?_cons_succ] at x0 x1 x2 x3
         clear hO3 hk3 HT2 HX2)))
  go_ret
  refine ⟨w3.heap.size, a3, c3, rfl, ⟨Box.new _ _ _, Own.lower (HO3.out.no ((Kept.refl No w3).alloc _)) (Nat.zero_le _), uq_nodup _, HL.out⟩, ?_, HK3.out.alloc _⟩
  rintro k (rfl | hk)
  · exact HK3.out.size
  · exact HO3.out.base hk
end Go.Proofs.Ytgiokkcdgoloaaa
namespace Go.Proofs.Ytgiokkcdgoloaaa
open Go.RowKit
set_option linter.unusedVariables false
set_option linter.unusedSimpArgs false
def WriteOut (w : World) (x : MS) (zs : List Int) (e : Ending) (w' : World) : Prop :=
  ∃ m a cap da dc, e = .returned (.iface 115 (.pointer (some ⟨m, 0, none⟩))) ∧ Mach w' m a cap x 138 (.agg #[.iface 118 (.agg #[.int .i64 x.cl, .slice da zs.length dc])]) ∧ OwnB w' w.heap.size da dc zs ∧ (∀ k, MB m a k → w.heap.size ≤ k) ∧ (∀ k, At da k → ∀ j, MB m a j → k < j) ∧ Kept No w w'
set_option maxRecDepth 100000 in
set_option maxHeartbeats 2000000 in
theorem write_any (cl op k0 k1 k2 k3 rd : Int) (a0 : Option Addr) (n0 cap0 : Nat) (gs : List Int) (da0 : Option Addr) (dn dc0 : Nat) (zs : List Int) (w : World) (hz : gs.length = n0) (hn : n0 ≤ 17592186043904) (hb : Nums .i64 w a0 gs)
    (hd : zs.length = dn) (hdn : dn ≤ 140737488355328) (hdb : Bytes w da0 zs) :
    Calls Try.prog 23 #[.int .i64 cl, .int .i64 op, .agg #[.int .i64 k0, .int .i64 k1, .int .i64 k2, .int .i64 k3], .slice a0 n0 cap0, .int .i64 rd, .slice da0 dn dc0] w (WriteOut w ⟨cl, op, k0, k1, k2, k3, uq gs, rd⟩ zs) := by
  have HB : Hid (Nums .i64 w a0 gs) := hb
  have HZ : Hid (gs.length = n0) := hz
  have HDB : Hid (Bytes w da0 zs) := hdb
  have HD : Hid (zs.length = dn) := hd
  clear hb hz hdb hd
  obtain ⟨w1, hw1⟩ : ∃ w1, w1 = w.alloc (.cells #[.int .i64 k0, .int .i64 k1, .int .i64 k2, .int .i64 k3] 23) := ⟨_, rfl⟩
  have HK1 : Hid (Kept No w w1) := by rw [hw1]; exact (Kept.refl No w).alloc _
  have HX1 : Hid (∀ wr, Kept No w1 wr → wr.cell? ⟨w.heap.size, 0, none⟩ = some (.int .i64 k0) ∧ wr.cell? ⟨w.heap.size, 1, none⟩ = some (.int .i64 k1) ∧ wr.cell? ⟨w.heap.size, 2, none⟩ = some (.int .i64 k2) ∧ wr.cell? ⟨w.heap.size, 3, none⟩ = some (.int .i64 k3)) := fun wr hk => by
    have hX : Box w1 w.heap.size 23 #[.int .i64 k0, .int .i64 k1, .int .i64 k2, .int .i64 k3] := by rw [hw1]; exact Box.new _ _ _
    have hX := hX.kept hk (fun e => e)
    exact ⟨hX.cell 0, hX.cell 1, hX.cell 2, hX.cell 3⟩
  obtain ⟨x0, x1, x2, x3⟩ := HX1.out w1 (Kept.refl _ _)
  go_enter Try.func23, Try.ntmps23
  go_upto_region 1 with fail
  rw [← hw1]
  clear hw1
  have HKr : Hid (Kept No w1 w1.drew) := (Kept.refl No w1).drew
  go_region_held3 (fun w' => w'.cell? ⟨w.heap.size, 0, none⟩ = some (.int .i64 k0) ∧ w'.cell? ⟨w.heap.size, 1, none⟩ = some (.int .i64 k1) ∧ w'.cell? ⟨w.heap.size, 2, none⟩ = some (.int .i64 k2) ∧ w'.cell? ⟨w.heap.size, 3, none⟩ = some (.int .i64 k3)) (go_keep) (first
    | (go_at_call 39
       refine Calls.mono (clone_any da0 dn dc0 zs w1.drew HD.out hdn (HDB.out.no (HK1.out.then HKr.out))) ?_
       rintro e w2 ⟨da, dc, rfl, hO2, hk2, _, _⟩
       have HO2 : Hid (OwnB w2 w1.heap.size da dc zs) := hO2
       have HK2 : Hid (Kept No w1 w2) := HKr.out.then hk2
       have HDl : Hid (∀ k, At da k → k < w2.heap.size) := fun k hk => by
         rcases hO2.cases (by simp) with ⟨rfl, _⟩ | ⟨g, rfl, _, hlt, _⟩
         · exact absurd hk At.none
         · obtain ⟨ad, e, rfl⟩ := hk
           cases e; exact hlt
       obtain ⟨y0, y1, y2, y3⟩ := HX1.out w2 HK2.out
       clear hO2 hk2)
    | (go_at_call 48
       refine Calls.mono (newM_any cl op k0 k1 k2 k3 rd a0 n0 cap0 gs 118 (.agg #[.int .i64 cl, .slice da zs.length dc]) w2 HZ.out hn (HB.out.no (HK1.out.then HK2.out))) ?_
       rintro e w3 ⟨m, a, cap, rfl, hM, hf, hk3⟩
       have HM3 : Hid (Mach w3 m a cap ⟨cl, op, k0, k1, k2, k3, uq gs, rd⟩ 138 (.agg #[.iface 118 (.agg #[.int .i64 cl, .slice da zs.length dc])])) := hM
       have HF3 : Hid (∀ k, MB m a k → w2.heap.size ≤ k) := hf
       have HO3 : Hid (OwnB w3 w1.heap.size da dc zs) := HO2.out.no hk3
       have HK3 : Hid (Kept No w1 w3) := HK2.out.then hk3
       obtain ⟨z0, z1, z2, z3⟩ := HX1.out w3 HK3.out
       clear hM hf hk3))
  go_wp2
  go_ret
  have hk := HK1.out.then HK3.out
  exact ⟨m, a, cap, da, dc, rfl, HM3.out, Own.lower HO3.out HK1.out.size, fun k h => Nat.le_trans (HK1.out.then HK2.out).size (HF3.out k h), fun k h j hj => Nat.lt_of_lt_of_le (HDl.out k h) (HF3.out j hj), hk⟩
end Go.Proofs.Ytgiokkcdgoloaaa
namespace Go.Proofs.Ytgiokkcdgoloaaa
open Go.RowKit
set_option linter.unusedVariables false
set_option linter.unusedSimpArgs false
theorem Try.und71 : Try.prog.underlying 71 = some (.slice 52) := by kernel_rfl
theorem Try.info52 : (Try.prog.info? 52).map (fun i => (i.zero, i.size, i.bytes)) = some (some (.agg #[.int .i64 0, .bool false, .int .i64 0, .bool false, .int .i64 0, .int .i64 0, .int .i64 0, .int .i64 0, .int .i64 0, .int .i64 0, .int .i64 0, .int .i64 0, .int .i64 0, .int .i64 0, .int .i64 0, .slice none 0 0, .int .i64 0, .int .i64 0, .int .i64 0, .string ⟨#[]⟩, .int .i64 0, .int .i64 0, .int .i64 0, .int .i64 0, .int .i64 0, .int .i64 0, .slice none 0 0, .slice none 0 0, .slice none 0 0, .bool false]), 30, 312) := by kernel_rfl
theorem step_appV {ops : Array Oper} {o : Oper} {a : Act} {w : World} {K : Act → World → Prop} {Q : Exit → Act → World → Prop} {EE : Prop} (hg : o.guard = none) (s x : Operand) (T E : TypeId) (c by' : Nat) (z : Value) (ht : Try.prog.underlying T = some (.slice E))
    (hinf : (Try.prog.info? E).map (fun i => (i.zero, i.size, i.bytes)) = some (some z, c, by')) (hzc : z.cells.size = c) (hc0 : 0 < c) (ho : o.op = .call { callee := Callee.builtin Builtin.append, args := #[s, x], argTypes := #[T, T] })
    (base n cap : Nat) (sa : Option Addr) (vs : List Value) (hs : a.eval s = .slice sa n cap) (hown : Own E c w base sa cap n vs) (ad : Addr) (m cc : Nat) (news : List Value) (hx : a.eval x = .slice (some ad) m cc) (hl : news.length = m * c) (hnews : ∀ j u, news[j]? = some u → w.cell? (ad.add j) = some u) (h1 : ∀ u ∈ news, u.oneCell' = true) (hbd : (n + m) * by' ≤ 140737488355328) (hb63 : n + m ≤ 9223372036854775807) (hm : 0 < m) (hbase : base ≤ w.heap.size) (k : Nat) (hk : n + m = k)
    (h : ∀ g' cap' w', Hid (Own E c w' base (some ⟨g', 0, none⟩) cap' k (vs ++ news)) → Hid (Kept (At sa) w w') → K (a.put o.dst (.slice (some ⟨g', 0, none⟩) k cap')) w') :
    if Region.wanted o (yielded ops a.tmps) = true then Oper.wp Try.prog o a w K Q else EE := by
  have hw : Region.wanted o (yielded ops a.tmps) = true := by simp [Region.wanted, hg]
  rw [if_pos hw]
  subst hk
  obtain ⟨i0, hi, hz0, hz1, hz2⟩ := info_parts hinf
  obtain ⟨v', w', hrun, r1, r2, _⟩ := run_append_own (P := Try.prog) w base T o.type E i0 z c by' ht hi hz0 hz1 hz2 hzc hc0 (.slice sa n cap) n vs hown ad m cc news hl hnews h1 (by unfold maxLen; omega) hbd hbase
  have hk : Kept (At sa) w w' := (Kept.refl (At sa) w).grown r2 (fun k e hk => by
    cases sa with
    | none => cases e
    | some ad' => simp only [Value.ownBlock, Option.some.injEq] at e; exact ⟨ad', rfl, e⟩)
  rcases r1.2 with ⟨e, h0⟩ | ⟨g, cap', cur, e, _⟩
  · omega
  · subst e
    unfold Oper.wp
    simp [execOp, ho, resolve, invoke, builtin, hs, hx, hrun, Result.andThen]
    exact h g cap' w' r1 hk
structure Qm where
  sv : Int
  ba : Option Addr
  bc : Nat
structure Qh where
  kind : Int
  n : Int
  c : Int
  l : Nat
def msgC (x : MS) (h : Qh) (q : Qm) : List Value :=
  [.int .i64 h.kind, .bool true, .int .i64 x.cl, .bool false, .int .i64 q.sv, .int .i64 x.op, .int .i64 x.rd, .int .i64 x.k0, .int .i64 x.k1, .int .i64 x.k2, .int .i64 x.k3, .int .i64 h.n, .int .i64 h.c, .int .i64 0, .int .i64 0, .slice q.ba h.l q.bc, .int .i64 0, .int .i64 0, .int .i64 0, .string ⟨#[]⟩, .int .i64 0, .int .i64 0, .int .i64 0, .int .i64 0, .int .i64 0, .int .i64 0, .slice none 0 0, .slice none 0 0, .slice none 0 0, .bool false]
def msgsC (x : MS) (h : Qh) (qs : List Qm) : List Value := qs.flatMap (msgC x h)
theorem msgsC_len (x : MS) (h : Qh) (qs : List Qm) : (msgsC x h qs).length = qs.length * 30 := by
  unfold msgsC
  induction qs with
  | nil => rfl
  | cons q l ih => rw [List.flatMap_cons, List.length_append, ih]; simp [msgC]; omega
theorem msgsC_snoc (x : MS) (h : Qh) (qs : List Qm) (q : Qm) : msgsC x h (qs ++ [q]) = msgsC x h qs ++ msgC x h q := by
  unfold msgsC; rw [List.flatMap_append]; simp
theorem msgC_one (x : MS) (h : Qh) (q : Qm) : ∀ u ∈ msgC x h q, u.oneCell' = true := by
  intro u hu
  simp only [msgC, List.mem_cons, List.not_mem_nil, or_false] at hu
  rcases hu with h | h | h | h | h | h | h | h | h | h | h | h | h | h | h | h | h | h | h | h | h | h | h | h | h | h | h | h | h | h <;> subst h <;> rfl
structure Msgs (w : World) (base : Nat) (a : Option Addr) (cap : Nat) (x : MS) (h : Qh) (zs : List Int) (qs : List Qm) : Prop where
  row : Own 52 30 w base a cap qs.length (msgsC x h qs)
  own : ∀ q ∈ qs, OwnB w base q.ba q.bc zs
  ord : qs.Pairwise (fun p q => ∀ k, At p.ba k → ∀ j, At q.ba j → k < j)
  len : zs.length = h.l
theorem OwnB.lt {w : World} {base : Nat} {a : Option Addr} {cap : Nat} {zs : List Int} (h : OwnB w base a cap zs) {k : Nat} (hk : At a k) : k < w.heap.size := by
  rcases h.cases (by simp) with ⟨rfl, _⟩ | ⟨g, rfl, _, hlt, _⟩
  · exact absurd hk At.none
  · obtain ⟨ad, e, rfl⟩ := hk
    cases e; exact hlt
theorem own_apart {t t' : TypeId} {c c' : Nat} {w : World} {b b' : Nat} {a a' : Option Addr} {cap cap' n n' : Nat} {vs vs' : List Value} (h : Own t c w b a cap n vs) (hl : vs.length = n * c) (h' : Own t' c' w b' a' cap' n' vs') (hl' : vs'.length = n' * c') (ht : t ≠ t') {k : Nat} (hk : At a k) : ¬ At a' k := by
  intro hk'
  rcases h.cases hl with ⟨rfl, _⟩ | ⟨g, rfl, _, _, sp, hg, _⟩
  · exact At.none hk
  · rcases h'.cases hl' with ⟨rfl, _⟩ | ⟨g', rfl, _, _, sp', hg', _⟩
    · exact At.none hk'
    · obtain ⟨ad, e, rfl⟩ := hk
      cases e
      obtain ⟨ad, e, e2⟩ := hk'
      cases e
      have e2 : g' = g := e2
      subst e2
      rw [hg] at hg'
      simp at hg'
      exact ht hg'.2
theorem Msgs.kept {S : Nat → Prop} {w w' : World} {base : Nat} {a : Option Addr} {cap : Nat} {x : MS} {h : Qh} {zs : List Int} {qs : List Qm} (hm : Msgs w base a cap x h zs qs) (hk : Kept S w w') (h1 : ∀ k, At a k → ¬ S k) (h2 : ∀ q ∈ qs, ∀ k, At q.ba k → ¬ S k) : Msgs w' base a cap x h zs qs :=
  ⟨hm.row.kept hk h1, fun q hq => (hm.own q hq).kept hk (h2 q hq), hm.ord, hm.len⟩
theorem Msgs.no {w w' : World} {base : Nat} {a : Option Addr} {cap : Nat} {x : MS} {h : Qh} {zs : List Int} {qs : List Qm} (hm : Msgs w base a cap x h zs qs) (hk : Kept No w w') : Msgs w' base a cap x h zs qs := hm.kept hk (fun _ _ e => e) (fun _ _ _ _ e => e)
theorem Msgs.lower {w : World} {base base' : Nat} {a : Option Addr} {cap : Nat} {x : MS} {h : Qh} {zs : List Int} {qs : List Qm} (hm : Msgs w base a cap x h zs qs) (hb : base' ≤ base) : Msgs w base' a cap x h zs qs :=
  ⟨hm.row.lower hb, fun q hq => Own.lower (hm.own q hq) hb, hm.ord, hm.len⟩
def AskOut (w : World) (x : MS) (h : Qh) (zs : List Int) (ss : List Int) (e : Ending) (w' : World) : Prop :=
  ∃ a cap qs, e = .returned (.slice a qs.length cap) ∧ qs.map Qm.sv = ss ∧ Msgs w' w.heap.size a cap x h zs qs ∧ Kept No w w'
end Go.Proofs.Ytgiokkcdgoloaaa
namespace Go.Proofs.Ytgiokkcdgoloaaa
open Go.RowKit
set_option linter.unusedVariables false
set_option linter.unusedSimpArgs false
theorem cell_newL (w : World) (cs : List Value) (t : TypeId) (j : Nat) (u : Value) (h : cs[j]? = some u) : (w.alloc (.cells cs.toArray t)).cell? ((⟨w.heap.size, 0, none⟩ : Addr).add j) = some u := by
  rw [addr_add, Nat.zero_add, (Box.new w t cs.toArray).cell]
  simpa using h
set_option maxRecDepth 100000 in
set_option maxHeartbeats 4000000 in
theorem ask_any (m : Nat) (a : Option Addr) (cap : Nat) (x : MS) (t : TypeId) (v : Value) (kind bn bc : Int) (ba : Option Addr) (bl bk : Nat) (zs : List Int) (sa : Option Addr) (sn scap : Nat) (ss : List Int) (w : World) (hM : Mach w m a cap x t v)
    (hz : zs.length = bl) (hbl : bl ≤ 140737488355328) (hb : Bytes w ba zs) (hs : ss.length = sn) (hsn : sn ≤ 400000000000) (hsb : Nums .i64 w sa ss) :
    Calls Try.prog 109 #[.pointer (some ⟨m, 0, none⟩), .int .i64 kind, .agg #[.int .i64 bn, .int .i64 bc, .slice ba bl bk], .slice sa sn scap] w (AskOut w x ⟨kind, bn, bc, bl⟩ zs ss) := by
  have HMc : Hid (∀ wr, Kept No w wr → wr.cell? ⟨m, 0, none⟩ = some (.bool true) ∧ wr.cell? ⟨m, 1, none⟩ = some (.int .i64 x.cl) ∧ wr.cell? ⟨m, 2, none⟩ = some (.int .i64 x.op) ∧ wr.cell? ⟨m, 3, none⟩ = some (.int .i64 x.k0) ∧ wr.cell? ⟨m, 4, none⟩ = some (.int .i64 x.k1) ∧ wr.cell? ⟨m, 5, none⟩ = some (.int .i64 x.k2) ∧ wr.cell? ⟨m, 6, none⟩ = some (.int .i64 x.k3) ∧ wr.cell? ⟨m, 8, none⟩ = some (.int .i64 x.rd)) := fun wr hk => by
    have hB := hM.box.kept hk (fun e => e)
    exact ⟨hB.cell 0, hB.cell 1, hB.cell 2, hB.cell 3, hB.cell 4, hB.cell 5, hB.cell 6, hB.cell 8⟩
  have HB : Hid (Bytes w ba zs) := hb
  have HZ : Hid (zs.length = bl) := hz
  have HS : Hid (ss.length = sn) := hs
  have HSB : Hid (Nums .i64 w sa ss) := hsb
  clear hM hb hz hs hsb
  obtain ⟨w1, hw1⟩ : ∃ w1, w1 = w.alloc (.cells #[.int .i64 bn, .int .i64 bc, .slice ba bl bk] 57) := ⟨_, rfl⟩
  have HK1 : Hid (Kept No w w1) := by rw [hw1]; exact (Kept.refl No w).alloc _
  obtain ⟨N, hN⟩ : ∃ N, N = w.heap.size := ⟨_, rfl⟩
  have HX1 : Hid (∀ wr, Kept No w1 wr → wr.cell? ⟨N, 0, none⟩ = some (.int .i64 bn) ∧ wr.cell? ⟨N, 1, none⟩ = some (.int .i64 bc) ∧ wr.cell? ⟨N, 2, none⟩ = some (.slice ba bl bk)) := fun wr hk => by
    have hX : Box w1 w.heap.size 57 #[.int .i64 bn, .int .i64 bc, .slice ba bl bk] := by rw [hw1]; exact Box.new _ _ _
    have hX := hX.kept hk (fun e => e)
    rw [hN]
    exact ⟨hX.cell 0, hX.cell 1, hX.cell 2⟩
  have HN : Hid (N = w.heap.size) := hN
  go_enter Try.func109, Try.ntmps109
  go_wp2
  rw [← hw1, ← hN]
  clear hw1 hN
  go_loopw [9, 14] (fun vl vi wr => ∃ (k : Nat) (a' : Option Addr) (cap' : Nat), vi = .int .i64 k ∧ k ≤ sn ∧ vl = .slice a' k cap' ∧ Hid (∃ qs, qs.length = k ∧ qs.map Qm.sv = ss.take k ∧ Msgs wr w1.heap.size a' cap' x ⟨kind, bn, bc, bl⟩ zs qs) ∧ Hid (Kept No w1 wr)) (fun _ i _ => sn - (intOf i).toNat)
  case atStart => exact ⟨0, none, 0, by go_num, by omega, rfl, ⟨[], rfl, by simp, ⟨by simpa [msgsC] using Own.nil _ _ _ _, by simp, by simp, HZ.out⟩⟩, Kept.refl _ _⟩
  case round =>
    obtain ⟨k, a', cap', rfl, hk, rfl, HI, HK⟩ := hrel
    by_cases hlt : k < sn
    · have hlt' : (k : Int) < (sn : Int) := by omega
      obtain ⟨bb, off, rfl, hcell⟩ := (HSB.out.no (HK1.out.then HK.out)) k (by rw [HS.out]; exact hlt)
      have HTk : Hid (ss.take (k + 1) = ss.take k ++ [ss[k]?.getD 0]) := take_snoc (by rw [HS.out]; exact hlt)
      generalize ss[k]?.getD 0 = z at hcell HTk
      obtain ⟨m0, m1, m2, m3, m4, m5, m6, m8⟩ := HMc.out wr (HK1.out.then HK.out)
      obtain ⟨x0, x1, x2⟩ := HX1.out wr HK.out
      go_upto_region 5 with fail
      have HKr : Hid (Kept No w1 wr.drew) := HK.out.drew
      go_region_held3 (fun w' => w'.cell? ⟨m, 0, none⟩ = some (.bool true) ∧ w'.cell? ⟨m, 1, none⟩ = some (.int .i64 x.cl) ∧ w'.cell? ⟨m, 2, none⟩ = some (.int .i64 x.op) ∧ w'.cell? ⟨m, 3, none⟩ = some (.int .i64 x.k0) ∧ w'.cell? ⟨m, 4, none⟩ = some (.int .i64 x.k1) ∧ w'.cell? ⟨m, 5, none⟩ = some (.int .i64 x.k2) ∧ w'.cell? ⟨m, 6, none⟩ = some (.int .i64 x.k3) ∧ w'.cell? ⟨m, 8, none⟩ = some (.int .i64 x.rd) ∧ w'.cell? ⟨N, 0, none⟩ = some (.int .i64 bn) ∧ w'.cell? ⟨N, 1, none⟩ = some (.int .i64 bc) ∧ w'.cell? ⟨N, 2, none⟩ = some (.slice ba bl bk)) (go_keep) (first
        | (go_at_call 39
           refine Calls.mono (clone_any ba bl bk zs wr.drew HZ.out hbl (HB.out.no (HK1.out.then HKr.out))) ?_
           rintro e w2 ⟨da, dc, rfl, hO2, hk2, _, _⟩
           have HO2 : Hid (OwnB w2 wr.heap.size da dc zs) := hO2
           have HK2 : Hid (Kept No wr w2) := (Kept.refl No wr).drew.then hk2
           rw [HZ.out]
           have HKw2 : Hid (Kept No w1 w2) := HK.out.then HK2.out
           obtain ⟨n0, n1, n2, n3, n4, n5, n6, n8⟩ := HMc.out w2 (HK1.out.then HKw2.out)
           obtain ⟨y0, y1, y2⟩ := HX1.out w2 HKw2.out
           clear hO2 hk2)
        | (obtain ⟨qs, hq1, hq2, hq3⟩ := HI.out
           refine step_appV rfl _ _ 71 52 30 312 _ Try.und71 Try.info52 rfl (by omega) rfl w1.heap.size k cap' a' (msgsC x ⟨kind, bn, bc, bl⟩ qs) (by simp [Act.eval]) (by rw [← hq1]; exact hq3.row.no (HK2.out.alloc _)) ⟨w2.heap.size, 0, none⟩ 1 1 (msgC x ⟨kind, bn, bc, bl⟩ ⟨z, da, dc⟩) (by simp [Act.eval]) rfl (cell_newL _ _ _) (msgC_one _ _ _) (by omega) (by omega) (by omega) (by have := HKw2.out.size; simp; omega) (k + 1) rfl ?_
           intro g' cap'' w4 HO4 HK4
           have HQ4 : Hid (∃ qs, qs.length = k + 1 ∧ qs.map Qm.sv = ss.take (k + 1) ∧ Msgs w4 w1.heap.size (some ⟨g', 0, none⟩) cap'' x ⟨kind, bn, bc, bl⟩ zs qs) := by
             have hap : ∀ q : Qm, OwnB wr w1.heap.size q.ba q.bc zs → ∀ j, At q.ba j → ¬ At a' j := fun q hq j hj => own_apart hq (by simp) hq3.row (msgsC_len _ _ _) (by decide) hj
             refine ⟨qs ++ [⟨z, da, dc⟩], by simp [hq1], by rw [HTk.out, List.map_append, hq2]; rfl, ⟨?_, ?_, ?_, hq3.len⟩⟩
             · rw [msgsC_snoc]
               simpa [hq1] using HO4.out
             · intro q hq
               rw [List.mem_append] at hq
               rcases hq with hq | hq
               · exact ((hq3.own q hq).no (HK2.out.alloc _)).kept HK4.out (hap q (hq3.own q hq))
               · rw [List.mem_singleton] at hq
                 subst hq
                 have := (Own.lower HO2.out HK.out.size).no ((Kept.refl No w2).alloc (.cells (msgC x ⟨kind, bn, bc, bl⟩ ⟨z, da, dc⟩).toArray 52))
                 exact Own.kept this HK4.out (fun j hj => own_apart this (by simp) (hq3.row.no (HK2.out.alloc _)) (msgsC_len _ _ _) (by decide) hj)
             · rw [List.pairwise_append]
               refine ⟨hq3.ord, by simp, fun p hp q hq => ?_⟩
               rw [List.mem_singleton] at hq
               subst hq
               intro i hi j hj
               exact Nat.lt_of_lt_of_le (OwnB.lt (hq3.own p hp) hi) (HO2.out.base hj)
           have HKw4 : Hid (Kept No w1 w4) := (HKw2.out.alloc _).trans HK4.out (fun _ e => e) (fun i hi e => by have := hq3.row.base e; omega)
           obtain ⟨p0, p1, p2, p3, p4, p5, p6, p8⟩ := HMc.out w4 (HK1.out.then HKw4.out)
           obtain ⟨z0, z1, z2⟩ := HX1.out w4 HKw4.out
           clear HO4 HK4 hq1 hq2 hq3))
      go_wp2
      go_roundw
      case rel => exact ⟨k + 1, some ⟨g', 0, none⟩, cap'', by go_num, by omega, rfl, HQ4, HKw4⟩
      case measure => simp [intOf]; omega
    · have hlt' : ¬ (k : Int) < (sn : Int) := by omega
      obtain rfl : k = sn := by omega
      go_wp2
      go_ret
      obtain ⟨qs, hq1, hq2, hq3⟩ := HI.out
      exact ⟨a', cap', qs, congrArg (fun n => Ending.returned (.slice a' n cap')) hq1.symm, by rw [hq2, List.take_of_length_le (by rw [HS.out]; omega)], hq3.lower HK1.out.size, HK1.out.then HK.out⟩
end Go.Proofs.Ytgiokkcdgoloaaa
namespace Go.Proofs.Ytgiokkcdgoloaaa
open Go.RowKit
set_option linter.unusedVariables false
set_option linter.unusedSimpArgs false
theorem uq_gen2 (l : List Int) : ∀ acc : List Int, (acc ++ l).Nodup → l.foldl (fun acc n => if n ∈ acc then acc else acc ++ [n]) acc = acc ++ l := by
  induction l with
  | nil => intro acc _; simp
  | cons n l ih =>
    intro acc h
    rw [List.foldl_cons]
    have hn : n ∉ acc := fun e => by
      rw [List.nodup_append] at h
      exact h.2.2 n e n (by simp) rfl
    rw [if_neg hn, ih (acc ++ [n]) (by simpa using h)]
    simp
theorem uq_self {l : List Int} (h : l.Nodup) : uq l = l := by
  have := uq_gen2 l [] (by simpa using h)
  simpa [uq] using this
theorem missL_len {α : Type} (x : TS α) : (missL x).length ≤ x.g.length := List.length_filter_le _ _
set_option maxRecDepth 100000 in
set_option maxHeartbeats 2000000 in
theorem tickA_any (m : Nat) (a : Option Addr) (cap : Nat) (x : MS) (t : TypeId) (v : Value) (ai : TypeId) (av : Value) (tb bb ct : Nat) (at' : Option Addr) (X : TS Bk) (w : World) (hM : Mach w m a cap x t v) (hT : Tal 185 ansB w tb bb at' ct X) (hl : X.g.length ≤ 400000000000) :
    Calls Try.prog 106 #[.agg #[.iface ai av, .pointer (some ⟨tb, 0, none⟩)], .pointer (some ⟨m, 0, none⟩)] w (AskOut w x ⟨1, 0, 0, 0⟩ [] (missL X)) := by
  have HM : Hid (Mach w m a cap x t v) := hM
  have HT : Hid (Tal 185 ansB w tb bb at' ct X) := hT
  have HL : Hid (X.g.length ≤ 400000000000) := hl
  clear hM hT hl
  obtain ⟨w1, hw1⟩ : ∃ w1, w1 = w.alloc (.cells #[.iface ai av, .pointer (some ⟨tb, 0, none⟩)] 182) := ⟨_, rfl⟩
  have HK1 : Hid (Kept No w w1) := by rw [hw1]; exact (Kept.refl No w).alloc _
  go_enter Try.func106, Try.ntmps106
  go_wp2_with (first
    | (go_at_call 103
       rw [← hw1]
       refine Calls.mono (missing_anyB tb bb ct at' X w1 (HT.out.no HK1.out)) ?_
       rintro e w2 ⟨a2, c2, rfl, hO2, hk2⟩
       have HO2 : Hid (Own 3 1 w2 w1.heap.size a2 c2 (missL X).length ((missL X).map (Value.int .i64))) := hO2
       have HK2 : Hid (Kept No w w2) := HK1.out.then hk2
       have HL2 : Hid ((missL X).length ≤ 400000000000) := Nat.le_trans (missL_len X) HL.out
       clear hO2 hk2 hw1)
    | (go_at_call 109
       refine Calls.mono (ask_any m a cap x t v 1 0 0 none 0 0 [] a2 (missL X).length c2 (missL X) w2 (HM.out.no HK2.out) rfl (by omega) (Nums.nil _ _ _) rfl HL2.out (HO2.out.nums rfl)) ?_
       rintro e w3 ⟨a3, c3, qs, rfl, hq, hm3, hk3⟩
       have HQ : Hid (qs.map Qm.sv = missL X) := hq
       have HM3 : Hid (Msgs w3 w2.heap.size a3 c3 x ⟨1, 0, 0, 0⟩ [] qs) := hm3
       have HK3 : Hid (Kept No w w3) := HK2.out.then hk3
       clear hq hm3 hk3))
  go_ret
  exact ⟨a3, c3, qs, rfl, HQ.out, HM3.out.lower HK2.out.size, HK3.out⟩
theorem Mach.setPhase {w : World} {m cap : Nat} {a : Option Addr} {x : MS} {t : TypeId} {v : Value} (h : Mach w m a cap x t v) (t' : TypeId) (v' : Value) : Mach (w.setCell ⟨m, 9, none⟩ (.iface t' v')) m a cap x t' v' := by
  refine ⟨?_, h.row.kept ((Kept.refl (Only m) w).setCell (p := ⟨m, 9, none⟩) (fun _ => rfl) _) (fun k hk e => h.off hk e), h.nd, h.len⟩
  have := h.box.set 9 (.iface t' v')
  exact this
theorem meth_tickA (a1 a2 : Value) (w : World) : (method 311 182 (.agg #[a1, a2]) "cairn/register.tick").run Try.prog w = .ok (106, .agg #[a1, a2]) w := by kernel_rfl
def EnterOut (w : World) (m : Nat) (a : Option Addr) (cap : Nat) (x : MS) (t : TypeId) (v : Value) (h : Qh) (zs ss : List Int) (e : Ending) (w' : World) : Prop :=
  ∃ a' cap' qs, e = .returned (.slice a' qs.length cap') ∧ qs.map Qm.sv = ss ∧ Msgs w' w.heap.size a' cap' x h zs qs ∧ Mach w' m a cap x t v ∧ Kept (Only m) w w'
set_option maxRecDepth 100000 in
set_option maxHeartbeats 2000000 in
theorem enterA_any (m : Nat) (a : Option Addr) (cap : Nat) (x : MS) (t : TypeId) (v : Value) (ai : TypeId) (av : Value) (tb bb ct : Nat) (at' : Option Addr) (X : TS Bk) (w : World) (hM : Mach w m a cap x t v) (hT : Tal 185 ansB w tb bb at' ct X) (hl : X.g.length ≤ 400000000000) (hd : ¬ TB tb bb at' m) :
    Calls Try.prog 96 #[.pointer (some ⟨m, 0, none⟩), .iface 182 (.agg #[.iface ai av, .pointer (some ⟨tb, 0, none⟩)])] w (EnterOut w m a cap x 182 (.agg #[.iface ai av, .pointer (some ⟨tb, 0, none⟩)]) ⟨1, 0, 0, 0⟩ [] (missL X)) := by
  have c9 := hM.box.cell 9
  have f9 := hM.box.frozen 9
  simp only [mC, List.getElem?_toArray, List.getElem?_cons_zero, List.getElem?_cons_succ] at c9
  obtain ⟨w1, hw1⟩ : ∃ w1, w1 = w.setCell ⟨m, 9, none⟩ (.iface 182 (.agg #[.iface ai av, .pointer (some ⟨tb, 0, none⟩)])) := ⟨_, rfl⟩
  have HM1 : Hid (Mach w1 m a cap x 182 (.agg #[.iface ai av, .pointer (some ⟨tb, 0, none⟩)])) := by rw [hw1]; exact hM.setPhase _ _
  have HK1 : Hid (Kept (Only m) w w1) := by rw [hw1]; exact (Kept.refl (Only m) w).setCell (p := ⟨m, 9, none⟩) (fun _ => rfl) _
  have HT1 : Hid (Tal 185 ansB w1 tb bb at' ct X) := hT.kept HK1.out (fun k hk e => hd (by have : k = m := e; rw [← this]; exact hk))
  have HL : Hid (X.g.length ≤ 400000000000) := hl
  clear hM hT hl hd
  have hm := meth_tickA
  go_enter Try.func96, Try.ntmps96
  go_wp2_with (go_at_call 106
               rw [← hw1]
               refine Calls.mono (tickA_any m a cap x _ _ ai av tb bb ct at' X w1 HM1.out HT1.out HL.out) ?_
               rintro e w3 ⟨a3, c3, qs, rfl, hq, hm3, hk3⟩
               have HQ : Hid (qs.map Qm.sv = missL X) := hq
               have HQ3 : Hid (Msgs w3 w.heap.size a3 c3 x ⟨1, 0, 0, 0⟩ [] qs) := hm3.lower HK1.out.size
               have HM3 : Hid (Mach w3 m a cap x 182 (.agg #[.iface ai av, .pointer (some ⟨tb, 0, none⟩)])) := HM1.out.no hk3
               have HK3 : Hid (Kept (Only m) w w3) := HK1.out.then hk3.of_no
               clear hq hm3 hk3 hw1)
  go_ret
  exact ⟨a3, c3, qs, rfl, HQ.out, HQ3.out, HM3.out, HK3.out⟩
def needI (x : MS) : Int := (x.g.length : Int) / 2 + 1
set_option maxRecDepth 100000 in
theorem need_any (m : Nat) (a : Option Addr) (cap : Nat) (x : MS) (t : TypeId) (v : Value) (w : World) (hM : Mach w m a cap x t v) :
    Calls Try.prog 99 #[.pointer (some ⟨m, 0, none⟩)] w (fun e w' => e = .returned (.int .i64 (needI x)) ∧ w' = w) := by
  have c7 := hM.box.cell 7
  simp only [mC, List.getElem?_toArray, List.getElem?_cons_zero, List.getElem?_cons_succ] at c7
  have hl := hM.len
  have HN : Hid (needI x = (x.g.length : Int) / 2 + 1) := rfl
  generalize needI x = N at HN
  generalize x.g.length = n at c7 hl HN
  clear hM
  go_enter Try.func99, Try.ntmps99
  go_wp2
  go_ret
  refine ⟨ret_int ?_, rfl⟩
  rw [HN.out]
end Go.Proofs.Ytgiokkcdgoloaaa
