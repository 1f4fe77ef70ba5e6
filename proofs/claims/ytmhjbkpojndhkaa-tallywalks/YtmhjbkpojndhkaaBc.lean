import Derived.Test.YtmhjbkpojndhkaaBb
import Derived.Lib.QuietBelow
import Derived.Laws.CopyRow
import Derived.Laws.MakeOwn
namespace Go.Proofs.Ytmhjbkpojndhkaa
open Go.RowKit
set_option linter.unusedVariables false
set_option linter.unusedSimpArgs false

theorem toBelow {f : FuncId} {args : Array Value} {W : World} {v : Value} (h : Calls Try.prog f args W fun e w' => e = .returned v ∧ Kept No W w') : Calls Try.prog f args W fun e w' => e = .returned v ∧ Below W.heap.size W w' :=
  h.mono fun _ _ ⟨he, hk⟩ => ⟨he, hk.below (Nat.le_refl _) (fun _ e => e.elim)⟩
theorem kept_regrown (w : World) (d : Nat) (os : Array Obj) : Kept No w (Sort.grow (redrawn w d) os) := Kept.of_below (below_regrown w d os)

section
variable {ops : Array Oper} {rest : List Oper} {o : Oper} {a : Act} {w : World} {Q : Exit → Act → World → Prop}

theorem wp_makeV (hg : o.guard = none) (l c : Operand) (T E : TypeId) (hop : o.op = .makeSlice T l c) (z : Value) (size bytes : Nat) (ht : Try.prog.underlying T = some (.slice E))
    (hinf : (Try.prog.info? E).map (fun i => (i.zero, i.size, i.bytes)) = some (some z, size, bytes)) (kl kc : IntKind) (L C : Int) (n m : Nat) (hl : a.eval l = .int kl L) (hc : a.eval c = .int kc C) (hL : L = (n : Int)) (hC : C = (m : Int)) (hnm : n ≤ m) (hb : bytes * m ≤ 281474976710656) (hm : m ≤ 9223372036854775807)
    (h : wpList Try.prog ops Q rest (a.put o.dst (.slice (some ⟨w.heap.size, 0, none⟩) n m)) (w.alloc (.cells (madeCells z.cells (m * size)) E))) : wpList Try.prog ops Q (o :: rest) a w := by
  obtain ⟨i0, hi, hz0, hz1, hz2⟩ := info_parts hinf
  subst hL
  subst hC
  have hbm : ((bytes : Nat) : Int) * (m : Int) ≤ 281474976710656 := by
    have : ((bytes * m : Nat) : Int) ≤ 281474976710656 := by omega
    rwa [Int.natCast_mul] at this
  have hr := run_make (P := Try.prog) w T E i0 z ht hi hz0 kl kc n m (by omega) (by omega) (by rw [hz2]; exact hbm) (by omega)
  rw [hz1] at hr
  simp only [Int.toNat_natCast] at hr
  refine wp_runTo hg _ _ ?_ h
  simp [execOp, hop, hl, hc, hr, Result.andThen]

theorem run_copy_row2 (w : World) (dT sT ty elem : TypeId) (g dLen dCap : Nat) (a : Addr) (sLen sCap : Nat) (cur : Array Value) (t : TypeId) (cs : List Value)
    (hu : Try.prog.underlying dT = some (.slice elem)) (hs : (Try.prog.info? elem).map (·.size) = some 2)
    (hg : w.heap[g]? = some (.cells cur t (0, 0))) (hn : Nat.min sLen dLen * 2 = cs.length)
    (hsrc : ∀ j v, cs[j]? = some v → w.cell? (a.add j) = some v) (hfit : cs.length ≤ cur.size) (h1 : ∀ v ∈ cs, v.oneCell' = true) :
    (Builtin.copy_ #[dT, sT] ty #[.slice (some ⟨g, 0, none⟩) dLen dCap, .slice (some a) sLen sCap]).run Try.prog w =
      .ok (goInt (Nat.min sLen dLen)) (w.setRow g (cs ++ cur.toList.drop cs.length).toArray) := by
  have hl := run_loadCells_list (P := Try.prog) w a cs hsrc
  have hst := run_storeCells_at Try.prog g 0 t cs 0 cur w hg (by simpa using hfit) h1
  simp only [Nat.add_zero, List.take_zero, List.nil_append, Nat.zero_add] at hst
  cases hq : Try.prog.info? elem with
  | none => simp [hq] at hs
  | some i =>
    have hi : i.size = 2 := by simpa [hq] using hs
    simp [Builtin.copy_, run_underlying hu, Builtin.lenOf, Builtin.firstCells, sizeOf, typeInfo, hq, hi, hn, hl, hst]
theorem run_copy_none2 (w : World) (dT sT ty elem : TypeId) (g dLen dCap sLen sCap : Nat) (a : Option Addr) (cur : Array Value) (t : TypeId)
    (hu : Try.prog.underlying dT = some (.slice elem)) (hs : (Try.prog.info? elem).map (·.size) = some 2) (hn : Nat.min sLen dLen = 0) :
    (Builtin.copy_ #[dT, sT] ty #[.slice (some ⟨g, 0, none⟩) dLen dCap, .slice a sLen sCap]).run Try.prog w = .ok (goInt 0) w := by
  cases hq : Try.prog.info? elem with
  | none => simp [hq] at hs
  | some i =>
    have hi : i.size = 2 := by simpa [hq] using hs
    cases a with
    | none => simp [Builtin.copy_, run_underlying hu, Builtin.lenOf, Builtin.firstCells, sizeOf, typeInfo, hq, hi, hn, storeCells]
    | some ad => simp [Builtin.copy_, run_underlying hu, Builtin.lenOf, Builtin.firstCells, sizeOf, typeInfo, hq, hi, hn, storeCells, loadCells, loadCellsFrom]

theorem box_setRow {w : World} {g : Nat} {t : TypeId} {cs cs' : Array Value} (h : Box w g t cs) : Box (w.setRow g cs') g t cs' ∧ Kept (Only g) w (w.setRow g cs') ∧ (w.setRow g cs').heap.size = w.heap.size := by
  have hlt := h.lt
  unfold Box at h
  have e : w.setRow g cs' = { w with heap := w.heap.setIfInBounds g (.cells cs' t (0, 0)) } := by
    unfold World.setRow
    congr 1
    apply Array.ext_getElem?
    intro i
    rw [Array.getElem?_modify, Array.getElem?_setIfInBounds]
    by_cases e : g = i
    · subst e; rw [if_pos rfl, if_pos rfl, h]; simp [hlt]
    · simp [e]
  rw [e]
  refine ⟨?_, ⟨rfl, rfl, rfl, by simp, fun k hk hS => ?_⟩, by simp⟩
  · unfold Box; simp [hlt]
  · have : k ≠ g := hS
    simp [Ne.symm this]

theorem prs_one (ps : List (Int × Int)) : ∀ v ∈ prs ps, v.oneCell' = true := by
  induction ps with
  | nil => simp [prs]
  | cons p l ih =>
    intro v hv
    simp only [prs, List.mem_cons] at hv
    rcases hv with rfl | rfl | hv
    · rfl
    · rfl
    · exact ih v hv

theorem Sts.src {w : World} {b off : Nat} {ps : List (Int × Int)} (h : Sts w (some ⟨b, off, none⟩) ps) (j : Nat) (v : Value) (hv : (prs ps)[j]? = some v) : w.cell? ((⟨b, off, none⟩ : Addr).add j) = some v := by
  have hj := (List.getElem?_eq_some_iff.1 hv).1
  rw [prs_len] at hj
  have hi : j / 2 < ps.length := by omega
  obtain ⟨b', o', e, h1, h2⟩ := h (j / 2) hi
  cases e
  obtain ⟨p1, p2⟩ := prs_at ps (j / 2) hi
  rw [addr_add]
  rcases Nat.mod_two_eq_zero_or_one j with e | e
  · have e' : j / 2 * 2 = j := by omega
    rw [e'] at h1 p1
    rw [h1, ← hv, p1]; rfl
  · have e' : j / 2 * 2 + 1 = j := by omega
    rw [show off + j / 2 * 2 + 1 = off + j by omega] at h2
    rw [e'] at p2
    rw [h2, ← hv, p2]; rfl

theorem sts_box {w : World} {g : Nat} {t : TypeId} {ps : List (Int × Int)} {sp : List Value} (h : Box w g t (prs ps ++ sp).toArray) : Sts w (some ⟨g, 0, none⟩) ps := fun i hi => by
  obtain ⟨p1, p2⟩ := prs_at ps i hi
  have hl := prs_len ps
  refine ⟨g, 0, rfl, ?_, ?_⟩
  · rw [h.cell, List.getElem?_toArray, Nat.zero_add, List.getElem?_append_left (by omega), p1]; rfl
  · rw [h.cell, List.getElem?_toArray, Nat.zero_add, List.getElem?_append_left (by omega), p2]; rfl

theorem wp_copy2 (hgd : o.guard = none) (d s : Operand) (ho : o.op = .call { callee := .builtin .copy, args := #[d, s], argTypes := #[44, 44] }) (g n dCap sCap : Nat) (sa : Option Addr) (hd : a.eval d = .slice (some ⟨g, 0, none⟩) n dCap) (hs : a.eval s = .slice sa n sCap)
    (cur : Array Value) (t : TypeId) (hg : Box w g t cur) (ps : List (Int × Int)) (hn : ps.length = n) (hS : Sts w sa ps) (hfit : n * 2 ≤ cur.size)
    (h : ∀ w', Hid (∃ sp, Box w' g t (prs ps ++ sp).toArray) → Hid (Kept (Only g) w w') → wpList Try.prog ops Q rest (a.put o.dst (goInt n)) w') : wpList Try.prog ops Q (o :: rest) a w := by
  have hsz : (Try.prog.info? 47).map (·.size) = some 2 := by kernel_rfl
  rcases Nat.eq_zero_or_pos n with h0 | h0
  · subst h0
    obtain rfl : ps = [] := List.length_eq_zero_iff.1 hn
    have hrun := run_copy_none2 w 44 44 o.type 47 g 0 dCap 0 sCap sa cur t Try.und44 hsz (by simp)
    refine wp_runTo hgd _ w ?_ (h w ⟨cur.toList, by simpa [prs] using hg⟩ (Kept.refl _ _))
    simp [execOp, ho, resolve, invoke, builtin, hd, hs, hrun, Result.andThen]
  · obtain ⟨b, off, rfl, _⟩ := hS 0 (by omega)
    have hrun := run_copy_row2 w 44 44 o.type 47 g n dCap ⟨b, off, none⟩ n sCap cur t (prs ps) Try.und44 hsz hg (by rw [prs_len, hn]; simp [Nat.min_def]) (fun j v hv => hS.src j v hv) (by rw [prs_len, hn]; exact hfit) (prs_one ps)
    have e : Nat.min n n = n := by simp [Nat.min_def]
    rw [e] at hrun
    obtain ⟨b1, k1, _⟩ := box_setRow (cs' := (prs ps ++ cur.toList.drop (prs ps).length).toArray) hg
    refine wp_runTo hgd _ _ ?_ (h _ ⟨_, b1⟩ k1)
    simp [execOp, ho, resolve, invoke, builtin, hd, hs, hrun, Result.andThen]
end

set_option maxHeartbeats 2000000 in
theorem rmax_any (a : Option Addr) (n cap : Nat) (ps : List (Int × Int)) (w : World) (hs : ps.length = n + 1) (hn : n + 1 ≤ 8796093021952) (h : Sts w a ps) :
    Calls Try.prog 24 #[.slice a (n + 1) cap] w (MaxOut w ps) := by
  have HS : Hid (ps.length = n + 1) := hs
  have H1 : Hid (Sts w a ps) := h
  obtain ⟨b, off, rfl, _⟩ := h 0 (by omega)
  have HMx : Hid (maxP ps = pAt ps (bi (ltP ps) n)) := by
    show maxP ps = _
    unfold maxP
    rw [if_neg (fun e => by rw [e] at hs; cases hs)]
    unfold bestP
    rw [hs, Nat.add_sub_cancel]
  clear hs h
  have HC : Hid (∀ wr, Kept No w wr → ∀ i, i < n + 1 → wr.cell? ⟨b, off + i * 2, none⟩ = some (.int .i64 (pAt ps i).1) ∧ wr.cell? ⟨b, off + i * 2 + 1, none⟩ = some (.int .i64 (pAt ps i).2)) := fun wr hk i hi => by
    obtain ⟨b', o', e, hc⟩ := (H1.out.no hk) i (by rw [HS.out]; exact hi)
    cases e; exact hc
  have hb0 : ((n : Int) + 1 == 0) = false := by simp; omega
  obtain ⟨w0, hw0⟩ : ∃ w0, w0 = w.alloc (.cells #[.int .i64 0, .int .i64 0] 47) := ⟨_, rfl⟩
  have HK0 : Hid (Kept No w w0) := by rw [hw0]; exact (Kept.refl No w).alloc _
  obtain ⟨c0, c1⟩ := HC.out w0 HK0.out 0 (by omega)
  rw [Nat.zero_mul, Nat.add_zero] at c0 c1
  rw [hw0] at c0 c1
  have hz : Hid (pAt ps 0 = pAt ps (bi (ltP ps) 0)) := rfl
  generalize pAt ps 0 = xx at c0 c1 hz
  obtain ⟨x0, x1⟩ := xx
  simp only at c0 c1
  have hmix : Try.prog.follows .mixedOrders = true := by kernel_rfl
  go_enter Try.func24, Try.ntmps24
  go_wp2
  obtain ⟨w1, hw1⟩ : ∃ w1, w1 = (w.alloc (.cells #[.int .i64 0, .int .i64 0] 47)).alloc (.cells #[.int .i64 x0, .int .i64 x1] 47) := ⟨_, rfl⟩
  rw [← hw1]
  have HK1 : Hid (Kept No w w1) := by rw [hw1]; exact ((Kept.refl No w).alloc _).alloc _
  have HB1 : Hid (Box w1 w.heap.size 47 #[.int .i64 0, .int .i64 0]) := by rw [hw1]; exact (Box.new _ _ _).alloc _
  have HB2 : Hid (Box w1 (w.heap.size + 1) 47 #[.int .i64 x0, .int .i64 x1]) := by
    have h1 : (w.alloc (.cells #[.int .i64 0, .int .i64 0] 47)).heap.size = w.heap.size + 1 := by simp
    rw [hw1, ← h1]; exact Box.new _ _ _
  clear hw1 hw0 c0 c1
  go_loopw [4] (fun vi wr => ∃ k : Nat, vi = .int .i64 (k + 1) ∧ k ≤ n ∧ Hid (Box wr w.heap.size 47 #[.int .i64 0, .int .i64 0]) ∧ Hid (Box wr (w.heap.size + 1) 47 #[.int .i64 (pAt ps (bi (ltP ps) k)).1, .int .i64 (pAt ps (bi (ltP ps) k)).2]) ∧ Hid (Kept No w wr)) (fun i _ => n + 1 - (intOf i).toNat)
  case atStart => exact ⟨0, by go_num, by omega, HB1, by rw [← hz.out]; exact HB2, HK1⟩
  case round =>
    obtain ⟨k, rfl, hk, HA, HB, HK⟩ := hrel
    clear HB1 HB2 HK1 HK0
    by_cases hlt : k < n
    · have hlt' : (k : Int) + 1 < (n : Int) + 1 := by omega
      have hk0 : (0 : Int) ≤ (k : Int) + 1 := by omega
      obtain ⟨e1, e2⟩ := HC.out wr HK.out (k + 1) (by omega)
      have HCq : Hid (∀ W, Kept No w W → W.cell? ⟨b, off + (k + 1) * 2, none⟩ = some (.int .i64 (pAt ps (k + 1)).1) ∧ W.cell? ⟨b, off + (k + 1) * 2 + 1, none⟩ = some (.int .i64 (pAt ps (k + 1)).2)) := fun W hk => HC.out W hk (k + 1) (by omega)
      have HY : Hid _ := @best_step ps k
      generalize pAt ps (bi (ltP ps) k) = p at HB HY
      generalize pAt ps (k + 1) = q at e1 e2 HY HCq
      obtain ⟨p1, p2⟩ := p
      obtain ⟨q1, q2⟩ := q
      simp only at e1 e2 HB HCq
      have d0 := HB.out.cell 0
      have d1 := HB.out.cell 1
      simp only [List.getElem?_toArray, List.getElem?_cons_zero, List.getElem?_cons_succ] at d0 d1
      have z0 := fun dd os => cell_regrown e1 dd os
      have z1 := fun dd os => cell_regrown e2 dd os
      have y0 := fun dd os => cell_regrown d0 dd os
      have y1 := fun dd os => cell_regrown d1 dd os
      have HR : Hid (∀ W, Calls Try.prog 22 #[stV p1 p2, stV q1 q2] W fun e w' => e = .returned (.bool (lessP (p1, p2) (q1, q2))) ∧ Below W.heap.size W w') := fun W => toBelow (rless_any _ _ _ _ W)
      cases hb : lessP (p1, p2) (q1, q2) with
      | true =>
        rw [hb] at HR
        have HU : Hid (pAt ps (bi (ltP ps) (k + 1)) = (q1, q2)) := HY.out.1 hb
        clear HY e1 e2 d0 d1
        go_wp2
        refine wp_region_quiet_below hmix (by kernel_rfl) ?_
        repeat (quiet_step (exact Calls.regrown_of (HR.out _)))
        refine wpQuiet_nil ?_
        intro _ hw'
        obtain ⟨⟨nq, osq⟩, hw''⟩ := hw'
        rw [hw'']
        simp only []
        have HKr : Hid (Kept No w (Sort.grow (redrawn wr nq) osq)) := HK.out.then (kept_regrown _ _ _)
        have HA6 : Hid (Box (Sort.grow (redrawn wr nq) osq) w.heap.size 47 #[.int .i64 0, .int .i64 0]) := HA.out.kept (kept_regrown _ _ _) (fun e => e)
        have HB6 : Hid (Box (Sort.grow (redrawn wr nq) osq) (w.heap.size + 1) 47 #[.int .i64 p1, .int .i64 p2]) := HB.out.kept (kept_regrown _ _ _) (fun e => e)
        clear hw'' z0 z1 y0 y1 HR
        generalize Sort.grow (redrawn wr nq) osq = w6 at HKr HA6 HB6
        obtain ⟨e1, e2⟩ := HCq.out w6 HKr.out
        have d0' := HB6.out.cell 0
        have d1' := HB6.out.cell 1
        simp only [List.getElem?_toArray, List.getElem?_cons_zero, List.getElem?_cons_succ] at d0' d1'
        have f0 := HB6.out.frozen 0
        have f1 := HB6.out.frozen 1
        go_wp2
        go_roundw
        case rel =>
          refine ⟨k + 1, by go_num, by omega, ?_, ?_, ?_⟩
          · exact ((HA6.out.other (by simp) _).other (by simp) _)
          · rw [HU.out]
            exact ((HB6.out.set 0 (.int .i64 q1)).set 1 (.int .i64 q2))
          · exact ((HKr.out.setCell (p := ⟨w.heap.size + 1, 0, none⟩) (fun h => by have : w.heap.size + 1 < w.heap.size := h; omega) _).setCell (p := ⟨w.heap.size + 1, 1, none⟩) (fun h => by have : w.heap.size + 1 < w.heap.size := h; omega) _)
        case measure => simp [intOf]; omega
      | false =>
        rw [hb] at HR
        have HU : Hid (pAt ps (bi (ltP ps) (k + 1)) = (p1, p2)) := HY.out.2 hb
        clear HY e1 e2 d0 d1
        go_wp2
        refine wp_region_quiet_below hmix (by kernel_rfl) ?_
        repeat (quiet_step (exact Calls.regrown_of (HR.out _)))
        refine wpQuiet_nil ?_
        intro _ hw'
        obtain ⟨⟨nq, osq⟩, hw''⟩ := hw'
        rw [hw'']
        simp only []
        have HKr : Hid (Kept No w (Sort.grow (redrawn wr nq) osq)) := HK.out.then (kept_regrown _ _ _)
        have HA6 : Hid (Box (Sort.grow (redrawn wr nq) osq) w.heap.size 47 #[.int .i64 0, .int .i64 0]) := HA.out.kept (kept_regrown _ _ _) (fun e => e)
        have HB6 : Hid (Box (Sort.grow (redrawn wr nq) osq) (w.heap.size + 1) 47 #[.int .i64 p1, .int .i64 p2]) := HB.out.kept (kept_regrown _ _ _) (fun e => e)
        clear hw'' z0 z1 y0 y1 HR
        generalize Sort.grow (redrawn wr nq) osq = w6 at HKr HA6 HB6
        go_wp2
        go_roundw
        case rel => exact ⟨k + 1, by go_num, by omega, HA6, by rw [HU.out]; exact HB6, HKr⟩
        case measure => simp [intOf]; omega
    · have hlt' : ¬ (k : Int) + 1 < (n : Int) + 1 := by omega
      obtain rfl : k = n := by omega
      generalize pAt ps (bi (ltP ps) k) = p at HB HMx
      obtain ⟨p1, p2⟩ := p
      simp only at HB
      have d0 := HB.out.cell 0
      have d1 := HB.out.cell 1
      have a0 := HA.out.cell 0
      have a1 := HA.out.cell 1
      simp only [List.getElem?_toArray, List.getElem?_cons_zero, List.getElem?_cons_succ] at d0 d1 a0 a1
      have f0 := HA.out.frozen 0
      have f1 := HA.out.frozen 1
      go_wp2
      have hB2 := (HA.out.set 0 (.int .i64 p1)).set 1 (.int .i64 p2)
      have r0 := hB2.cell 0
      have r1 := hB2.cell 1
      simp only [List.getElem?_toArray, List.getElem?_cons_zero, List.getElem?_cons_succ, List.setIfInBounds_toArray, List.set_cons_zero, List.set_cons_succ] at r0 r1
      refine bodyPost_ret (v := stV p1 p2) (by simp [results, Try.results24, go_sem, r0, r1]) rfl ⟨by rw [HMx.out], ?_⟩
      exact ((HK.out.setCell (p := ⟨w.heap.size, 0, none⟩) (fun h => by have : w.heap.size < w.heap.size := h; omega) _).setCell (p := ⟨w.heap.size, 1, none⟩) (fun h => by have : w.heap.size < w.heap.size := h; omega) _)

theorem rmax_nil (cap : Nat) (a : Option Addr) (w : World) : Calls Try.prog 24 #[.slice a 0 cap] w (MaxOut w []) := by
  go_enter Try.func24, Try.ntmps24
  go_wp2
  all_goals exact bodyPost_ret (v := stV 0 0) (by simp [results, Try.results24, go_sem]) rfl ⟨rfl, by
    first
      | exact (Kept.refl No w).alloc _
      | exact (((Kept.refl No w).alloc _).setCell (p := ⟨w.heap.size, 0, none⟩) (fun h => by have : w.heap.size < w.heap.size := h; omega) _).setCell (p := ⟨w.heap.size, 1, none⟩) (fun h => by have : w.heap.size < w.heap.size := h; omega) _⟩

end Go.Proofs.Ytmhjbkpojndhkaa
