import Derived.Test.YtpapbleabjpbfaaCn
import Derived.Test.YtpapbleabjpbfaaNu
import Derived.Test.YtpapbleabjpbfaaGr
import Derived.Deep.RegionHeld3
namespace Go.Proofs.Ytpapbleabjpbfaa
open Go.RowKit
set_option linter.unusedVariables false

set_option maxRecDepth 100000 in
set_option maxHeartbeats 1000000 in
theorem has_any (a : Option Addr) (cap n : Nat) (zs : List Int) (s : Int) (hn : zs.length = n) (w : World) (hm : n ≤ 1000) (hb : Nums .i64 w a zs) :
    Calls Try.prog 38 #[.slice a n cap, .int .i64 s] w fun e w' => e = .returned (.bool (decide (s ∈ zs))) ∧ w' = w := by
  have HB : Hid (Nums .i64 w a zs) := hb
  have HN : Hid (zs.length = n) := hn
  clear hb hn
  go_enter Try.func38, Try.ntmps38
  go_wp2
  go_loop [5] (fun i => ∃ k : Nat, k ≤ n ∧ i = .int .i64 k ∧ Hid (¬ s ∈ zs.take k)) (fun i => n - (intOf i).toNat)
  case atStart => exact ⟨0, Nat.zero_le _, rfl, by simp [Hid]⟩
  case round =>
    obtain ⟨k, hk, rfl, HE⟩ := hrel
    by_cases hlt : k < n
    · have hl : k < zs.length := by rw [HN.out]; exact hlt
      obtain ⟨b, off, rfl, hcell⟩ := HB.out k hl
      have HS : Hid (s ∈ zs.take (k + 1) ↔ (s ∈ zs.take k ∨ s = zs[k]?.getD 0)) := by
        show _ ↔ _
        rw [List.take_succ_eq_append_getElem hl, List.mem_append, List.getElem?_eq_getElem hl]
        simp
      have HZ : Hid (zs[k]?.getD 0 ∈ zs) := by show _ ∈ _; rw [List.getElem?_eq_getElem hl]; exact List.getElem_mem hl
      generalize zs[k]?.getD 0 = z at hcell HS HZ
      have hk' : (k : Int) < (n : Int) := by omega
      clear hl
      by_cases hz : z = s
      · subst hz
        have HT : Hid (decide (z ∈ zs) = true) := decide_eq_true HZ.out
        clear HS HZ HE
        go_wp2
        go_ret
        exact ⟨ret_bool HT.out.symm, rfl⟩
      · have HT : Hid (¬ s ∈ zs.take (k + 1)) := by
          intro h
          rcases HS.out.1 h with h | h
          · exact HE.out h
          · exact hz h.symm
        have hz' : (z == s) = false := by simpa using hz
        clear hz HS HE HZ
        go_wp2
        go_round
        case rel => exact ⟨k + 1, by omega, by go_num, HT⟩
        case measure => simp [intOf]; omega
    · have hk' : ¬ (k : Int) < (n : Int) := by omega
      have HT : Hid (decide (s ∈ zs) = false) := by
        have := HE.out
        rw [List.take_of_length_le (by rw [HN.out]; omega)] at this
        exact decide_eq_false this
      clear HE
      go_wp2
      go_ret
      exact ⟨ret_bool HT.out.symm, rfl⟩

/-- The first point not below a hash, from k on; behind the last one the first. -/
def firstR (ps : List (Int × Int)) (hash : Int) : Nat → Nat → Nat
  | _, 0 => 0
  | k, n + 1 => if (ps[k]?.getD (0, 0)).1 ≥ hash then k else firstR ps hash (k + 1) n

theorem firstR_lt (ps : List (Int × Int)) (hash : Int) (k n : Nat) : firstR ps hash k n = 0 ∨ firstR ps hash k n < k + n := by
  induction n generalizing k with
  | zero => exact .inl rfl
  | succ n ih =>
    unfold firstR
    split
    · right; omega
    · rcases ih (k + 1) with h | h
      · exact .inl h
      · right; omega

theorem countP_range_lt (q : Nat → Bool) (n k : Nat) (hk : k ≤ n) (h1 : ∀ i, i < k → q i = true) (h2 : ∀ i, k ≤ i → i < n → q i = false) : (List.range n).countP q = k := by
  induction n with
  | zero => simp; omega
  | succ n ih =>
    rw [List.range_succ, List.countP_append]
    by_cases e : k = n + 1
    · subst e
      have : (List.range n).countP q = n := by
        rw [List.countP_eq_length.2]
        · simp
        · intro i hi; exact h1 i (by have := List.mem_range.1 hi; omega)
      rw [this]
      simp [h1 n (by omega)]
    · rw [ih (by omega) (fun i hi hn => h2 i hi (by omega))]
      simp [h2 n (by omega) (by omega)]

/-- Both begin at the same point. -/
theorem firstR_N {ps : List (Int × Int)} (hR : Rising ps) (hash : Int) : ∀ (n k : Nat), k + n = ps.length → (∀ i, i < k → (ps[i]?.getD (0, 0)).1 < hash) → (firstR ps hash k n = firstN ps hash ∨ (firstR ps hash k n = 0 ∧ firstN ps hash = ps.length))
  | 0, k, hk, h => by
    right
    refine ⟨rfl, ?_⟩
    apply countP_range_lt _ _ _ (Nat.le_refl _)
    · intro i hi
      have := h i (by omega)
      simp; omega
    · intro i h1 h2; omega
  | n + 1, k, hk, h => by
    unfold firstR
    by_cases hc : (ps[k]?.getD (0, 0)).1 ≥ hash
    · rw [if_pos hc]
      left
      symm
      apply countP_range_lt _ _ _ (by omega)
      · intro i hi
        have := h i hi
        simp; omega
      · intro i h1 h2
        have := hR k i h1 h2
        simp; omega
    · rw [if_neg hc]
      refine firstR_N hR hash n (k + 1) (by omega) ?_
      intro i hi
      by_cases e : i = k
      · subst e; omega
      · exact h i (by omega)

theorem srvAt_same {ps : List (Int × Int)} {a b : Nat} (h : a = b ∨ (a = 0 ∧ b = ps.length)) (k : Nat) : srvAt ps a k = srvAt ps b k := by
  rcases h with rfl | ⟨rfl, rfl⟩
  · rfl
  · unfold srvAt; rw [Nat.add_mod_left, Nat.zero_add]
theorem grpN_same {ps : List (Int × Int)} {a b : Nat} (h : a = b ∨ (a = 0 ∧ b = ps.length)) (want k : Nat) : grpN ps a want k = grpN ps b want k := by
  induction k with
  | zero => rfl
  | succ k ih => rw [grpN, grpN, ih, srvAt_same h]

set_option maxRecDepth 100000 in
set_option maxHeartbeats 1000000 in
theorem refFirst_any (q : Nat) (sv : Value) (f p bu bl ro : Int) (pg pc m : Nat) (ps : List (Int × Int)) (hash : Int) (w : World) (hr : RefV w q sv f p bu bl ro pg pc m ps) (hm : m ≤ 4096) :
    Calls Try.prog 37 #[.pointer (some ⟨q, 0, none⟩), .int .i64 hash] w fun e w' => e = .returned (.int .i64 (firstR ps hash 0 m : Nat)) ∧ w' = w := by
  have HR : Hid (RefV w q sv f p bu bl ro pg pc m ps) := hr
  have c6 := hr.box.cell 6
  simp only [List.getElem?_toArray, List.getElem?_cons_zero, List.getElem?_cons_succ] at c6
  clear hr
  go_enter Try.func37, Try.ntmps37
  go_wp2
  go_loop [5] (fun i => ∃ k : Nat, k ≤ m ∧ i = .int .i64 k ∧ Hid (firstR ps hash 0 m = firstR ps hash k (m - k))) (fun i => m - (intOf i).toNat)
  case atStart => exact ⟨0, Nat.zero_le _, rfl, rfl⟩
  case round =>
    obtain ⟨k, hk, rfl, HE⟩ := hrel
    by_cases hlt : k < m
    · have ca := (HR.out.cell k hlt).1
      have HS : Hid (firstR ps hash k (m - k) = if (ps[k]?.getD (0, 0)).1 ≥ hash then k else firstR ps hash (k + 1) (m - (k + 1))) := by
        show _ = _
        rw [show m - k = (m - (k + 1)) + 1 by omega]; rfl
      generalize (ps[k]?.getD (0, 0)).1 = x at ca HS
      have hk' : (k : Int) < (m : Int) := by omega
      by_cases hx : hash ≤ x
      · have HT : Hid (firstR ps hash 0 m = k) := HE.out.trans (by rw [HS.out, if_pos hx])
        clear HS HE
        go_wp2
        go_ret
        refine ⟨ret_int ?_, rfl⟩
        rw [HT.out]
      · have HT : Hid (firstR ps hash 0 m = firstR ps hash (k + 1) (m - (k + 1))) := HE.out.trans (by rw [HS.out, if_neg hx])
        clear HS HE
        go_wp2
        go_round
        case rel => exact ⟨k + 1, by omega, by go_num, HT⟩
        case measure => simp [intOf]; omega
    · have hk' : ¬ (k : Int) < (m : Int) := by omega
      have HT : Hid (firstR ps hash 0 m = 0) := by have := HE.out; rw [show m - k = 0 by omega] at this; exact this
      clear HE
      go_wp2
      go_ret
      refine ⟨ret_int ?_, rfl⟩
      rw [HT.out]; rfl

set_option maxRecDepth 100000 in
set_option maxHeartbeats 4000000 in
theorem refGroupNo_any (q : Nat) (qa : Option Addr) (qn qc : Nat) (f p bu bl ro : Int) (pg pc m : Nat) (ps : List (Int × Int)) (kd a b c : Int) (w : World) (hr : RefV w q (.slice qa qn qc) f p bu bl ro pg pc m ps) (hb0 : 0 ≤ bu) (hb1 : bu ≤ 256) (hk : keyB kd a b c bu = false) :
    Calls Try.prog 15 #[.pointer (some ⟨q, 0, none⟩), keyV kd a b c] w fun e w' => e = .returned (.tuple #[.slice none 0 0, .int .i64 21]) ∧ Kept No w w' := by
  have HR : Hid (RefV w q (.slice qa qn qc) f p bu bl ro pg pc m ps) := hr
  clear hr
  have hmix : Try.prog.follows .mixedOrders = true := by kernel_rfl
  have HRt := fun W => toBelow (rright_any kd a b c qa qn qc f p bu bl ro W hb0 (by omega))
  rw [hk] at HRt
  have HRt' : Hid _ := HRt
  clear HRt hk
  go_enter Try.func15, Try.ntmps15
  go_wp2
  obtain ⟨w0, hw0⟩ : ∃ w0, w0 = w.alloc (.cells #[.int .i64 kd, .int .i64 a, .int .i64 b, .int .i64 c] 43) := ⟨_, rfl⟩
  rw [← hw0]
  have HX : Hid (Box w0 w.heap.size 43 #[.int .i64 kd, .int .i64 a, .int .i64 b, .int .i64 c]) := by rw [hw0]; exact Box.new w 43 _
  have HK : Hid (Kept No w w0) := by rw [hw0]; exact (Kept.refl No w).alloc _
  have HR1 := HR.out.no HK.out
  clear hw0
  have x0 := fun dd os => cell_regrown ((HX.out.cell 0).trans rfl) dd os
  have x1 := fun dd os => cell_regrown ((HX.out.cell 1).trans rfl) dd os
  have x2 := fun dd os => cell_regrown ((HX.out.cell 2).trans rfl) dd os
  have x3 := fun dd os => cell_regrown ((HX.out.cell 3).trans rfl) dd os
  have r0 := fun dd os => cell_regrown ((HR1.box.cell 0).trans rfl) dd os
  have r1 := fun dd os => cell_regrown ((HR1.box.cell 1).trans rfl) dd os
  have r2 := fun dd os => cell_regrown ((HR1.box.cell 2).trans rfl) dd os
  have r3 := fun dd os => cell_regrown ((HR1.box.cell 3).trans rfl) dd os
  have r4 := fun dd os => cell_regrown ((HR1.box.cell 4).trans rfl) dd os
  have r5 := fun dd os => cell_regrown ((HR1.box.cell 5).trans rfl) dd os
  clear HR1
  refine wp_region_quiet_below hmix (by kernel_rfl) ?_
  repeat (quiet_step (exact Calls.regrown_of (HRt'.out _)))
  refine wpQuiet_nil ?_
  intro _ hw'
  obtain ⟨⟨nq, osq⟩, hw''⟩ := hw'
  rw [hw'']
  simp only []
  have HKr : Hid (Kept No w (Sort.grow (redrawn w0 nq) osq)) := HK.out.then (kept_regrown _ _ _)
  clear hw'' x0 x1 x2 x3 r0 r1 r2 r3 r4 r5 HX HK
  generalize Sort.grow (redrawn w0 nq) osq = wz at HKr
  go_wp2
  go_ret2
  exact ⟨rfl, HKr.out⟩

/-- What Group tells. -/
def GrpR (w w' : World) (e : Ending) (l : List Int) : Prop := ∃ ga gc, e = .returned (.tuple #[.slice ga l.length gc, .int .i64 0]) ∧ Nums .i64 w' ga l ∧ Kept No w w'

set_option maxRecDepth 100000 in
set_option maxHeartbeats 4000000 in
theorem refGroupYes_any (q : Nat) (qa : Option Addr) (qn qc : Nat) (f p bu bl ro : Int) (pg pc m wn : Nat) (ps : List (Int × Int)) (kd a b c : Int) (w : World) (hr : RefV w q (.slice qa qn qc) f p bu bl ro pg pc m ps) (hb0 : 0 ≤ bu) (hb1 : bu ≤ 256) (hk : keyB kd a b c bu = true) (hm1 : 1 ≤ m) (hm : m ≤ 4096) (hR : Rising ps) (hf0 : 0 ≤ f) (hf : f ≤ 3) (hwn : (wn : Int) = 2 * f + 1) :
    Calls Try.prog 15 #[.pointer (some ⟨q, 0, none⟩), keyV kd a b c] w fun e w' => GrpR w w' e (grp ps (homeH kd a b c) wn) := by
  have HR : Hid (RefV w q (.slice qa qn qc) f p bu bl ro pg pc m ps) := hr
  have HL : Hid (ps.length = m) := hr.len
  have HG : Hid (grp ps (homeH kd a b c) wn = grpN ps (firstR ps (homeH kd a b c) 0 m) wn m) := by
    show _ = _
    unfold grp
    rw [← grpN_same (firstR_N hR (homeH kd a b c) m 0 (by rw [hr.len]; omega) (fun i hi => absurd hi (by omega))), hr.len]
  have hfl := firstR_lt ps (homeH kd a b c) 0 m
  clear hr hR
  have hmix : Try.prog.follows .mixedOrders = true := by kernel_rfl
  obtain ⟨i0, hi, hz0, hz1, hz2⟩ := info_parts Try.info3
  have HRt := fun W => toBelow (rright_any kd a b c qa qn qc f p bu bl ro W hb0 (by omega))
  rw [hk] at HRt
  have HRt' : Hid _ := HRt
  clear HRt hk
  go_enter Try.func15, Try.ntmps15
  go_wp2
  obtain ⟨w0, hw0⟩ : ∃ w0, w0 = w.alloc (.cells #[.int .i64 kd, .int .i64 a, .int .i64 b, .int .i64 c] 43) := ⟨_, rfl⟩
  rw [← hw0]
  obtain ⟨kb, hkb⟩ : ∃ kb, kb = w.heap.size := ⟨_, rfl⟩
  have HX : Hid (Box w0 kb 43 #[.int .i64 kd, .int .i64 a, .int .i64 b, .int .i64 c]) := by rw [hw0, hkb]; exact Box.new w 43 _
  have HK : Hid (Kept No w w0) := by rw [hw0]; exact (Kept.refl No w).alloc _
  have HR1 := HR.out.no HK.out
  have HKb : Hid (kb = w.heap.size) := hkb
  rw [← hkb]
  clear hw0 hkb
  have x0 := fun dd os => cell_regrown ((HX.out.cell 0).trans rfl) dd os
  have x1 := fun dd os => cell_regrown ((HX.out.cell 1).trans rfl) dd os
  have x2 := fun dd os => cell_regrown ((HX.out.cell 2).trans rfl) dd os
  have x3 := fun dd os => cell_regrown ((HX.out.cell 3).trans rfl) dd os
  have r0 := fun dd os => cell_regrown ((HR1.box.cell 0).trans rfl) dd os
  have r1 := fun dd os => cell_regrown ((HR1.box.cell 1).trans rfl) dd os
  have r2 := fun dd os => cell_regrown ((HR1.box.cell 2).trans rfl) dd os
  have r3 := fun dd os => cell_regrown ((HR1.box.cell 3).trans rfl) dd os
  have r4 := fun dd os => cell_regrown ((HR1.box.cell 4).trans rfl) dd os
  have r5 := fun dd os => cell_regrown ((HR1.box.cell 5).trans rfl) dd os
  clear HR1
  refine wp_region_quiet_below hmix (by kernel_rfl) ?_
  repeat (quiet_step (exact Calls.regrown_of (HRt'.out _)))
  refine wpQuiet_nil ?_
  intro _ hw'
  obtain ⟨⟨nq, osq⟩, hw''⟩ := hw'
  rw [hw'']
  simp only []
  have HKr : Hid (Kept No w (Sort.grow (redrawn w0 nq) osq)) := HK.out.then (kept_regrown _ _ _)
  have HXr : Hid (Box (Sort.grow (redrawn w0 nq) osq) kb 43 #[.int .i64 kd, .int .i64 a, .int .i64 b, .int .i64 c]) := HX.out.kept (kept_regrown _ _ _) (fun e => e)
  clear hw'' x0 x1 x2 x3 r0 r1 r2 r3 r4 r5 HX HK
  generalize Sort.grow (redrawn w0 nq) osq = w1 at HKr HXr
  have y0 := HXr.out.cell 0
  have y1 := HXr.out.cell 1
  have y2 := HXr.out.cell 2
  have y3 := HXr.out.cell 3
  have f0 := HXr.out.frozen 0
  have f1 := HXr.out.frozen 1
  have f2 := HXr.out.frozen 2
  have f3 := HXr.out.frozen 3
  simp only [List.getElem?_toArray, List.getElem?_cons_zero, List.getElem?_cons_succ] at y0 y1 y2 y3
  have HHm : Hid (∀ W, Calls Try.prog 18 #[if kd = 3 then keyV 2 a 0 0 else keyV kd a b c] W fun e w' => e = .returned (.int .i64 (homeH kd a b c)) ∧ Kept No W w') := fun W => by
    unfold homeH
    split
    · exact refHash_any 2 a 0 0 W
    · exact refHash_any kd a b c W
  have HFi : Hid (∀ W, RefV W q (.slice qa qn qc) f p bu bl ro pg pc m ps → Calls Try.prog 37 #[.pointer (some ⟨q, 0, none⟩), .int .i64 (homeH kd a b c)] W fun e w' => e = .returned (.int .i64 (firstR ps (homeH kd a b c) 0 m : Nat)) ∧ w' = W) := fun W h => refFirst_any q _ f p bu bl ro pg pc m ps _ W h hm
  generalize firstR ps (homeH kd a b c) 0 m = fi at HG HFi hfl
  generalize homeH kd a b c = hh at HHm HFi
  have HRo : Hid (∀ W, Kept No w W → RefV W q (.slice qa qn qc) f p bu bl ro pg pc m ps) := fun W hk => HR.out.no hk
  clear HR
  have hfi : fi ≤ 4095 := by omega
  by_cases hkd : kd = 3
  focus
    subst hkd
    rw [if_pos rfl] at HHm
    go_wp2_with (first
      | (go_at_call 18
         refine Calls.mono (HHm.out _) ?_
         rintro e w3 ⟨rfl, hk3⟩
         have HK3 : Hid (Kept No w w3) := ((((HKr.out.setCell (p := ⟨kb, 0, none⟩) (fun h => by have := HKb.out; simp at h; omega) _).setCell (p := ⟨kb, 1, none⟩) (fun h => by have := HKb.out; simp at h; omega) _).setCell (p := ⟨kb, 2, none⟩) (fun h => by have := HKb.out; simp at h; omega) _).setCell (p := ⟨kb, 3, none⟩) (fun h => by have := HKb.out; simp at h; omega) _).then hk3
         clear hk3)
      | (go_at_call 37
         refine Calls.mono (HFi.out w3 (HRo.out w3 HK3.out)) ?_
         rintro e w4 ⟨rfl, hw4⟩
         rw [hw4]
         clear hw4 w4)
      | fail)
  rotate_left
  focus
    rw [if_neg hkd] at HHm
    have hkd' : (kd == 3) = false := by simpa using hkd
    clear hkd
    go_wp2_with (first
      | (go_at_call 18
         refine Calls.mono (HHm.out _) ?_
         rintro e w3 ⟨rfl, hk3⟩
         have HK3 : Hid (Kept No w w3) := HKr.out.then hk3
         clear hk3)
      | (go_at_call 37
         refine Calls.mono (HFi.out w3 (HRo.out w3 HK3.out)) ?_
         rintro e w4 ⟨rfl, hw4⟩
         rw [hw4]
         clear hw4 w4)
      | fail)
  all_goals (
    clear HHm HFi y0 y1 y2 y3 f0 f1 f2 f3 HXr HKr
    go_loopw [6, 8] (fun v vi wr => ∃ (k : Nat), vi = .int .i64 k ∧ k ≤ m ∧ Hid (wr.ownsRow w.heap.size 3 1 v (grpN ps fi wn k).length ((grpN ps fi wn k).map (Value.int .i64))) ∧ Hid (Kept No w wr)) (fun _ i _ => m - (intOf i).toNat)
    case atStart => exact ⟨0, rfl, Nat.zero_le _, ⟨rfl, .inl ⟨rfl, rfl⟩⟩, HK3⟩
    case round =>
      obtain ⟨k, rfl, hkm, HO, HK⟩ := hrel
      clear HK3
      obtain ⟨ga, gc, rfl⟩ := owns_slice HO.out
      have hV := HRo.out wr HK.out
      have t1 := hV.box.cell 1
      have t6 := hV.box.cell 6
      simp only [List.getElem?_toArray, List.getElem?_cons_zero, List.getElem?_cons_succ] at t1 t6
      have hgl := grpN_le ps fi wn k
      have HFu : Hid ((grpN ps fi wn k).length = wn → grpN ps fi wn m = grpN ps fi wn k) := fun h => by
        have := grpN_full h (m - k)
        rwa [show k + (m - k) = m by omega] at this
      have hw1 : IntKind.i64.wrap (2 * f) = 2 * f := by rw [IntKind.wrap_i64]; omega
      have hw2 : IntKind.i64.wrap (2 * f + 1) = 2 * f + 1 := by rw [IntKind.wrap_i64]; omega
      by_cases hlt : k < m
      · have hlt' : (k : Int) < (m : Int) := by omega
        by_cases hfull : (grpN ps fi wn k).length < wn
        · obtain ⟨ix, hix⟩ : ∃ ix, ix = (fi + k) % m := ⟨_, rfl⟩
          have hixm : ix < m := by rw [hix]; exact Nat.mod_lt _ (by omega)
          have hmod : ((fi : Int) + (k : Int)).tmod (m : Int) = (ix : Int) := by rw [hix, Int.tmod_eq_emod_of_nonneg (by omega), Int.natCast_emod, Int.natCast_add]
          obtain ⟨ca, cb, cx, cc⟩ := hV.cell ix hixm
          have HSr : Hid (srvAt ps fi k = (ps[ix]?.getD (0, 0)).2) := by show _ = _; unfold srvAt; rw [HL.out, ← hix]
          have HSk : Hid (srvAt ps fi k ∈ grpN ps fi wn k → grpN ps fi wn (k + 1) = grpN ps fi wn k) := grpN_skip
          have HAd : Hid (¬ srvAt ps fi k ∈ grpN ps fi wn k → grpN ps fi wn (k + 1) = grpN ps fi wn k ++ [srvAt ps fi k]) := grpN_add hfull
          rw [HSr.out] at HSk HAd
          generalize (ps[ix]?.getD (0, 0)).1 = xh at ca
          generalize (ps[ix]?.getD (0, 0)).2 = xs at cb HSr HSk HAd
          obtain ⟨gl, hglen⟩ : ∃ gl, gl = (grpN ps fi wn k).length := ⟨_, rfl⟩
          have HGl : Hid ((grpN ps fi wn k).length = gl) := hglen.symm
          rw [← hglen] at hfull hgl HO ⊢
          have hfull' : (gl : Int) < 2 * f + 1 := by omega
          have hmz : ¬ m = 0 := by omega
          have hq0 : (0 : Int) ≤ (ix : Int) := by omega
          have hq1 : (ix : Int) < (m : Int) := by omega
          have hw3 : IntKind.i64.wrap ((fi : Int) + (k : Int)) = (fi : Int) + (k : Int) := by rw [IntKind.wrap_i64]; omega
          clear hV hglen hix
          have hqs : q < wr.heap.size := World.block_lt_of_cell? wr ⟨q, 6, none⟩ t6
          have hps : pg < wr.heap.size := World.block_lt_of_cell? wr ⟨pg, ix * 3, none⟩ ca
          go_wp2
          go_region_held3 (fun w' => w'.cell? ⟨q, 6, none⟩ = some (.slice (some ⟨pg, 0, none⟩) m pc) ∧ w'.cell? ⟨pg, ix * 3, none⟩ = some (.int .i64 xh) ∧ w'.cell? ⟨pg, ix * 3 + 1, none⟩ = some (.int .i64 xs) ∧ w'.cell? ⟨pg, ix * 3 + 2, none⟩ = some (.int .i64 cx)) (go_keep) (fail)
          obtain ⟨w5, hw5⟩ : ∃ w5, w5 = (wr.alloc (Obj.cells #[Value.int IntKind.i64 xh, Value.int IntKind.i64 xs, Value.int IntKind.i64 cx] 74)).drew := ⟨_, rfl⟩
          rw [← hw5]
          obtain ⟨eb, heb⟩ : ∃ eb, eb = wr.heap.size := ⟨_, rfl⟩
          have HE5 : Hid (Box w5 eb 74 #[.int .i64 xh, .int .i64 xs, .int .i64 cx]) := by rw [hw5, heb]; exact (Box.new wr 74 _).kept ((Kept.refl No _).drew) (fun e => e)
          have HK5 : Hid (Kept No w w5) := by rw [hw5]; exact (HK.out.alloc _).drew
          have HO5 : Hid (w5.ownsRow w.heap.size 3 1 (.slice ga gl gc) gl ((grpN ps fi wn k).map (Value.int .i64))) := by rw [hw5]; exact owns_no HO.out (((Kept.refl No wr).alloc _).drew)
          have e1 := HE5.out.cell 1
          simp only [List.getElem?_toArray, List.getElem?_cons_zero, List.getElem?_cons_succ] at e1
          rw [← heb]
          clear hw5 heb HK HO t1 t6 ca cb cc hqs hps
          have hgl2 : gl ≤ 1000 := by omega
          have HNx : Hid (Nums .i64 w5 ga (grpN ps fi wn k)) := Own.nums (t := 3) HO5.out HGl.out
          by_cases hin : xs ∈ grpN ps fi wn k
          · have HE : Hid (grpN ps fi wn (k + 1) = grpN ps fi wn k) := HSk.out hin
            have HHa : Hid _ := has_any ga gc gl (grpN ps fi wn k) xs HGl.out w5 hgl2 HNx.out
            rw [decide_eq_true hin] at HHa
            clear hin HSk HAd
            go_wp2_with (go_at_call 38
                         refine Calls.mono HHa.out ?_
                         rintro e w6 ⟨rfl, hw6⟩
                         rw [hw6]
                         clear hw6 w6)
            go_roundw
            case rel => exact ⟨k + 1, by go_num, by omega, by rw [HE.out, HGl.out]; exact HO5, HK5⟩
            case measure => simp [intOf]; omega
          · have HE : Hid (grpN ps fi wn (k + 1) = grpN ps fi wn k ++ [xs]) := HAd.out hin
            have HHa : Hid _ := has_any ga gc gl (grpN ps fi wn k) xs HGl.out w5 hgl2 HNx.out
            rw [decide_eq_false hin] at HHa
            have HOa : Hid (∀ o, (w5.alloc o).ownsRow w.heap.size 3 1 (.slice ga gl gc) gl ((grpN ps fi wn k).map (Value.int .i64))) := fun o => owns_no HO5.out ((Kept.refl No w5).alloc o)
            have HOB : Hid (∀ z, (Value.slice ga gl gc).ownBlock = some z → w.heap.size ≤ z) := fun z e => own_block HO5.out z e
            have HSz : Hid (w.heap.size ≤ w5.heap.size) := HK5.out.size
            clear hin HSk HAd
            go_wp2_with (first
              | (go_at_call 38
                 refine Calls.mono HHa.out ?_
                 rintro e w6 ⟨rfl, hw6⟩
                 rw [hw6]
                 clear hw6 w6 HHa)
              | (at_builtin
                 refine wpList_append_own _ rfl (.tmp 68) (.tmp 71) 27 rfl w.heap.size 3 i0 (.int .i64 0) 1 8 Try.underlying27 hi hz0 hz1 hz2 rfl (by decide) _ _ _ rfl (HOa.out _) ⟨w5.heap.size, 0, none⟩ 1 1 [.int .i64 xs] rfl rfl (cell_new1 _ _ _) (by simp [Value.oneCell']) (by unfold maxLen; omega) (by omega) (by have := HSz.out; simp; omega) ?_
                 intro v2 w2 hown2 hgrow2 hnil2
                 have HO2 : Hid (w2.ownsRow w.heap.size 3 1 v2 (grpN ps fi wn (k + 1)).length ((grpN ps fi wn (k + 1)).map (Value.int .i64))) := (by
                   rw [HE.out, List.length_append, List.map_append, HGl.out]; exact hown2)
                 have HK2 : Hid (Kept No w w2) := (HK5.out.alloc _).grown hgrow2 (fun z e hz => absurd (HOB.out z e) (by omega))
                 clear hown2 hgrow2 hnil2 HOa HK5)
              | fail)
            go_roundw
            case rel => exact ⟨k + 1, by go_num, by omega, HO2, HK2⟩
            case measure => simp [intOf]; omega
        · have hfull' : ¬ ((grpN ps fi wn k).length : Int) < 2 * f + 1 := by omega
          have HE : Hid (grpN ps fi wn m = grpN ps fi wn k) := HFu.out (by omega)
          clear hV
          go_wp2
          go_ret2
          rw [HG.out, HE.out]
          exact ⟨_, _, rfl, Own.nums (t := 3) HO.out rfl, HK.out⟩
      · obtain rfl : k = m := by omega
        have hlt' : ¬ (k : Int) < (k : Int) := by omega
        clear hV
        go_wp2
        go_ret2
        rw [HG.out]
        exact ⟨_, _, rfl, Own.nums (t := 3) HO.out rfl, HK.out⟩)

end Go.Proofs.Ytpapbleabjpbfaa
