import Derived.Test.YtfemlnfknebalaaZa
namespace Go.Proofs.Ytfemlnfknebalaa
open Go.RowKit
set_option linter.unusedVariables false
set_option linter.unusedSimpArgs false

theorem sliced_rd {w : World} {a : Option Addr} {n c : Nat} {es : List En} (h : RdE w ⟨a, n, c⟩ es) (lo hi : Nat) (h1 : lo ≤ hi) (h2 : hi ≤ n) (hc : n ≤ c) : ∃ xa xc, sliced a lo hi c 4 = .slice xa (hi - lo) xc ∧ RdE w ⟨xa, hi - lo, xc⟩ ((es.drop lo).take (hi - lo)) := by
  have hl : es.length = n := h.len
  refine ⟨_, _, rfl, ?_, ?_, ?_⟩
  · intro i it hit
    rw [List.getElem?_map] at hit
    cases hx : ((es.drop lo).take (hi - lo))[i]? with
    | none => rw [hx] at hit; cases hit
    | some x =>
      rw [hx] at hit
      have e : x.cs = it := by simpa using hit
      subst e
      rw [List.getElem?_take] at hx
      split at hx
      · rename_i hlt
        rw [List.getElem?_drop] at hx
        obtain ⟨b, off, e1, e2⟩ := h.row (lo + i) x.cs (by rw [List.getElem?_map, hx]; rfl)
        have e1 : a = some ⟨b, off, none⟩ := e1
        refine ⟨b, off + lo * 4, ?_, fun j v hv => ?_⟩
        · show (if c = lo then a else a.map (·.add (lo * 4))) = _
          rw [if_neg (by omega), e1]
          simp [addr_add]
        · have := e2 j v hv
          rw [show off + lo * 4 + i * 4 + j = off + (lo + i) * 4 + j by omega]
          exact this
      · cases hx
  · show ((es.drop lo).take (hi - lo)).length = hi - lo
    rw [List.length_take, List.length_drop]; omega
  · intro ha
    show c - lo = 0
    have ha : (if c = lo then a else a.map (·.add (lo * 4))) = none := ha
    split at ha
    · omega
    · have h3 : a = none := by simpa using ha
      have h4 : c = 0 := h.cap h3
      omega
set_option maxRecDepth 100000 in
set_option maxHeartbeats 4000000 in
theorem without_any (a : Option Addr) (n c p q : Nat) (b : Option Addr) (m d : Nat) (es xs : List En) (w : World) (he : RdE w ⟨a, n, c⟩ es) (hx : RdE w ⟨b, m, d⟩ xs) (hp : p + q ≤ n) (hnc : n ≤ c) (hb : (n + m) * 40 ≤ 140737488355328) : Calls Try.prog 56 #[.slice a n c, .int .i64 ((p : Nat) : Int), .int .i64 ((q : Nat) : Int), .slice b m d] w (fun e w' => ∃ s : Sl, e = .returned s.v ∧ OwE w' w.heap.size s (es.take p ++ xs ++ es.drop (p + q)) ∧ Kept No w w') := by
  obtain ⟨C, hC⟩ : ∃ C : Ending → World → Prop, C = (fun e w' => ∃ s : Sl, e = .returned s.v ∧ OwE w' w.heap.size s (es.take p ++ xs ++ es.drop (p + q)) ∧ Kept No w w') := ⟨_, rfl⟩
  have HC : Hid (C = (fun e w' => ∃ s : Sl, e = .returned s.v ∧ OwE w' w.heap.size s (es.take p ++ xs ++ es.drop (p + q)) ∧ Kept No w w')) := hC
  rw [← hC]
  clear hC
  have hel : es.length = n := he.len
  have HEL : Hid (es.length = n) := hel
  obtain ⟨ya, yc, hy1, hy2⟩ := sliced_rd he 0 p (by omega) (by omega) hnc
  obtain ⟨za, zc, hz1, hz2⟩ := sliced_rd he (p + q) n hp (Nat.le_refl _) hnc
  have HY1 : Hid (sliced a 0 p c 4 = .slice ya p yc) := hy1
  have HY : Hid (RdE w ⟨ya, p, yc⟩ (es.take p)) := by
    have := hy2
    rw [List.drop_zero, Nat.sub_zero] at this
    exact this
  have HZ1 : Hid (sliced a (p + q) n c 4 = .slice za (n - (p + q)) zc) := hz1
  have HZ : Hid (RdE w ⟨za, n - (p + q), zc⟩ (es.drop (p + q))) := by
    have := hz2
    rw [List.take_of_length_le (by rw [List.length_drop]; omega)] at this
    exact this
  have HX : Hid (RdE w ⟨b, m, d⟩ xs) := hx
  clear he hx hy1 hy2 hz1 hz2 hel
  have HF : Hid (Fr No w w []) := Fr.start _ _
  go_enter Try.func56, Try.ntmps56
  have HO : Hid (OwE w w.heap.size ⟨none, 0, 0⟩ []) := OwE.nil _ _
  go_upto_region 0 with fail
  refine WL.start ?_
  refine tK (.slice none 0 0) ?_
  try simp only [pA, pB, p1, p2, p3]
  refine WL.nil ?_
  try simp only [pA, pB, p1, p2, p3]
  go_upto_region 1 with fail
  refine WL.start ?_
  refine tK (.slice none 0 0) ?_
  try simp only [pA, pB, p1, p2, p3]
  refine WL.nil ?_
  try simp only [pA, pB, p1, p2, p3]
  go_upto_region 2 with fail
  refine WL.start ?_
  refine tK (.slice none 0 0) ?_
  try simp only [pA, pB, p1, p2, p3]
  refine tK (.slice a n c) ?_
  try simp only [pA, pB, p1, p2, p3]
  refine tK (.int .i64 ((p : Nat) : Int)) ?_
  try simp only [pA, pB, p1, p2, p3]
  refine tW (.slice ya p yc) (by rw [exec_slH 22 _ _ rfl 4 Try.und22e Try.size22e a n c p (by kernel_rfl) (by kernel_rfl) (by omega), HY1.out]) ?_
  try simp only [pA, pB, p1, p2, p3]
  obtain ⟨o1a, o1c, wk1, hrun, hO, hk, hA⟩ := run_appN (w := w) 22 22 54 4 40 (.agg enZ.cells) Try.und22 Try.info54 rfl (by omega) w.heap.size 0 0 none (enL (([] : List En))) HO.out.own ya p yc (enL (es.take p)) (by rw [enL_len, HY.out.len]) HY.out.cap (HY.out.no HF.out.kept).src (enL_one _) (by omega) (by omega) HF.out.kept.size
  rw [Nat.zero_add] at hrun hO
  rw [← enL_app] at hO
  refine wp_runW (.slice o1a p o1c) wk1 (exec_appN _ _ 22 22 rfl _ _ (by kernel_rfl) (by kernel_rfl) hrun) (by kernel_rfl) ?_
  try simp only [pA, pB, p1, p2, p3]
  have HF : Hid (Fr No w wk1 []) := ⟨HF.out.kept.trans hk (fun _ e => e) (fun i hi e => by have := HO.out.own.base e; omega), by simp, by simp, by simp⟩
  have HO : Hid (OwE wk1 w.heap.size ⟨o1a, p, o1c⟩ (([] : List En) ++ es.take p)) := ⟨hO, by have h1 : (([] : List En)).length = 0 := HO.out.len; have h2 : (es.take p).length = p := HY.out.len; show (([] : List En) ++ es.take p).length = p; rw [List.length_append, h1, h2]; omega⟩
  clear hrun hO hk hA
  refine tK (.slice o1a p o1c) ?_
  try simp only [pA, pB, p1, p2, p3]
  refine WL.nil ?_
  try simp only [pA, pB, p1, p2, p3]
  go_upto_region 3 with fail
  refine WL.start ?_
  refine tK (.slice o1a p o1c) ?_
  try simp only [pA, pB, p1, p2, p3]
  refine tK (.slice b m d) ?_
  try simp only [pA, pB, p1, p2, p3]
  obtain ⟨o2a, o2c, wk2, hrun, hO, hk, hA⟩ := run_appN (w := wk1) 22 22 54 4 40 (.agg enZ.cells) Try.und22 Try.info54 rfl (by omega) w.heap.size p o1c o1a (enL (([] : List En) ++ es.take p)) HO.out.own b m d (enL (xs)) (by rw [enL_len, HX.out.len]) HX.out.cap (HX.out.no HF.out.kept).src (enL_one _) (by omega) (by omega) HF.out.kept.size
  rw [← enL_app] at hO
  refine wp_runW (.slice o2a (p + m) o2c) wk2 (exec_appN _ _ 22 22 rfl _ _ (by kernel_rfl) (by kernel_rfl) hrun) (by kernel_rfl) ?_
  try simp only [pA, pB, p1, p2, p3]
  have HF : Hid (Fr No w wk2 []) := ⟨HF.out.kept.trans hk (fun _ e => e) (fun i hi e => by have := HO.out.own.base e; omega), by simp, by simp, by simp⟩
  have HO : Hid (OwE wk2 w.heap.size ⟨o2a, (p + m), o2c⟩ (([] : List En) ++ es.take p ++ xs)) := ⟨hO, by have h1 : (([] : List En) ++ es.take p).length = p := HO.out.len; have h2 : (xs).length = m := HX.out.len; show (([] : List En) ++ es.take p ++ xs).length = (p + m); rw [List.length_append, h1, h2]⟩
  clear hrun hO hk hA
  refine tK (.slice o2a (p + m) o2c) ?_
  try simp only [pA, pB, p1, p2, p3]
  refine WL.nil ?_
  try simp only [pA, pB, p1, p2, p3]
  go_upto_region 4 with fail
  refine WL.start ?_
  refine tK (.slice o2a (p + m) o2c) ?_
  try simp only [pA, pB, p1, p2, p3]
  refine tK (.slice a n c) ?_
  try simp only [pA, pB, p1, p2, p3]
  refine tK (.int .i64 ((p : Nat) : Int)) ?_
  try simp only [pA, pB, p1, p2, p3]
  refine tK (.int .i64 ((q : Nat) : Int)) ?_
  try simp only [pA, pB, p1, p2, p3]
  refine tW (.int .i64 (((p + q) : Nat) : Int)) (exec_bin .add 3 _ _ _ rfl (.int .i64 ((p : Nat) : Int)) (.int .i64 ((q : Nat) : Int)) (.int .i64 (((p + q) : Nat) : Int)) (by kernel_rfl) (by kernel_rfl) (by kernel_rfl) (b_addN p q (p + q) rfl (by omega) _)) ?_
  try simp only [pA, pB, p1, p2, p3]
  refine tW (.slice za (n - (p + q)) zc) (by rw [exec_slL 22 _ _ rfl 4 Try.und22e Try.size22e a n c (p + q) (by kernel_rfl) (by kernel_rfl) (by omega), HZ1.out]) ?_
  try simp only [pA, pB, p1, p2, p3]
  obtain ⟨o3a, o3c, wk3, hrun, hO, hk, hA⟩ := run_appN (w := wk2) 22 22 54 4 40 (.agg enZ.cells) Try.und22 Try.info54 rfl (by omega) w.heap.size (p + m) o2c o2a (enL (([] : List En) ++ es.take p ++ xs)) HO.out.own za (n - (p + q)) zc (enL (es.drop (p + q))) (by rw [enL_len, HZ.out.len]) HZ.out.cap (HZ.out.no HF.out.kept).src (enL_one _) (by omega) (by omega) HF.out.kept.size
  rw [← enL_app] at hO
  refine wp_runW (.slice o3a ((p + m) + (n - (p + q))) o3c) wk3 (exec_appN _ _ 22 22 rfl _ _ (by kernel_rfl) (by kernel_rfl) hrun) (by kernel_rfl) ?_
  try simp only [pA, pB, p1, p2, p3]
  have HF : Hid (Fr No w wk3 []) := ⟨HF.out.kept.trans hk (fun _ e => e) (fun i hi e => by have := HO.out.own.base e; omega), by simp, by simp, by simp⟩
  have HO : Hid (OwE wk3 w.heap.size ⟨o3a, ((p + m) + (n - (p + q))), o3c⟩ (([] : List En) ++ es.take p ++ xs ++ es.drop (p + q))) := ⟨hO, by have h1 : (([] : List En) ++ es.take p ++ xs).length = (p + m) := HO.out.len; have h2 : (es.drop (p + q)).length = (n - (p + q)) := HZ.out.len; show (([] : List En) ++ es.take p ++ xs ++ es.drop (p + q)).length = ((p + m) + (n - (p + q))); rw [List.length_append, h1, h2]⟩
  clear hrun hO hk hA
  refine tK (.slice o3a ((p + m) + (n - (p + q))) o3c) ?_
  try simp only [pA, pB, p1, p2, p3]
  refine WL.nil ?_
  try simp only [pA, pB, p1, p2, p3]
  go_wp2
  rw [HC.out]
  exact ⟨⟨_, _, _⟩, rfl, by have := HO.out; rw [List.nil_append] at this; exact this, HF.out.kept⟩

end Go.Proofs.Ytfemlnfknebalaa
