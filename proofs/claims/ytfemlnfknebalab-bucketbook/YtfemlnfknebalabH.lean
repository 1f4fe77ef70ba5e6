import Derived.Test.YtfemlnfknebalabG
namespace Go.Proofs.Ytfemlnfknebalab
open Go.RowKit
set_option linter.unusedVariables false
set_option linter.unusedSimpArgs false

theorem sliced_0 (g off h m c : Nat) : sliced (some ⟨g, off, none⟩) 0 h m c = .slice (some ⟨g, off, none⟩) h m := by
  unfold sliced
  split <;> simp [addr_add]
section
variable {o : Oper} {a : Act} {w : World}
theorem exec_slL' (t : TypeId) (x lo : Operand) (ho : o.op = .slice t x (some lo) none none) (c : Nat) (ht : Try.prog.underlying t = some (.slice (Try.prog.elem t))) (hs : (Try.prog.info? (Try.prog.elem t)).map (·.size) = some c) (g off len cap l : Nat)
    (hx : a.eval x = .slice (some ⟨g, off, none⟩) len cap) (hl : a.eval lo = .int .i64 (l : Int)) (h : l ≤ len) (h2 : l < cap) : (execOp a.eval o).run Try.prog w = .ok (.value (.slice (some ⟨g, off + l * c, none⟩) (len - l) (cap - l))) w := by
  rw [exec_slL t x lo ho c ht hs _ len cap l hx hl h, sliced_in _ _ _ _ _ _ h2]
theorem exec_slH' (t : TypeId) (x hi : Operand) (ho : o.op = .slice t x none (some hi) none) (c : Nat) (ht : Try.prog.underlying t = some (.slice (Try.prog.elem t))) (hs : (Try.prog.info? (Try.prog.elem t)).map (·.size) = some c) (g off len cap l : Nat)
    (hx : a.eval x = .slice (some ⟨g, off, none⟩) len cap) (hl : a.eval hi = .int .i64 (l : Int)) (h : l ≤ cap) : (execOp a.eval o).run Try.prog w = .ok (.value (.slice (some ⟨g, off, none⟩) l cap)) w := by
  rw [exec_slH t x hi ho c ht hs _ len cap l hx hl h, sliced_0]
theorem exec_callX {v : Value} (f : FuncId) (args : Array Value) (h1 : (execOp a.eval o).run Try.prog w = (callFunc f args).run Try.prog w) (h2 : (callFunc f args).run Try.prog w = .ok (.value v) w) : (execOp a.eval o).run Try.prog w = .ok (.value v) w := h1.trans h2
end
set_option maxRecDepth 100000 in
theorem run_growZ {w : World} (T ty E : TypeId) (c by' : Nat) (z : Value) (ht : Try.prog.underlying T = some (.slice E)) (hinf : (Try.prog.info? E).map (fun i => (i.zero, i.size, i.bytes)) = some (some z, c, by')) (hzc : z.cells.size = c) (hc0 : 0 < c)
    (g i cap k : Nat) (A : List Value) (hA : A.length = i * c) (hold : ∀ j u, A[j]? = some u → w.cell? ⟨g, 0 + j, none⟩ = some u) (hk : 0 < k) (hg : cap < i + k) (hb : (i + k) * by' ≤ 140737488355328) (h63 : i + k ≤ 4611686018427387904) :
    ∃ cap2 w2 cur2, (Builtin.append_ #[T, 3] ty #[.slice (some ⟨g, 0, none⟩) i cap, .int .i64 (k : Int)]).run Try.prog w = .ok (.slice (some ⟨w.heap.size, 0, none⟩) (i + k) cap2) w2 ∧ Kept No w w2 ∧ Box w2 w.heap.size E (List.toArray cur2) ∧ cur2.take (i * c) = A ∧ cur2.length = cap2 * c ∧ i + k ≤ cap2 ∧ cap2 ≤ 9223372036854775807 := by
  obtain ⟨i0, hi, hz0, hz1, hz2⟩ := info_parts hinf
  have hf := run_firstCells_some (P := Try.prog) w.drew i0.size i ⟨g, 0, none⟩ i cap A (by rw [hz1]; exact hA) (fun j u hj => by rw [addr_add]; exact hold j u hj)
  have hkb : k * i0.bytes ≤ 281474976710656 := by
    rw [hz2]
    have : k * by' ≤ (i + k) * by' := Nat.mul_le_mul_right _ (by omega)
    omega
  have hrun := Lib.run_append_grow_zeros (P := Try.prog) w T 3 ty E i0 z .i64 .i64 ht Try.und3 hi hz0 (some ⟨g, 0, none⟩) i cap A hf k hk (by rw [hz1]; exact hc0) hg (by omega) hkb (by rw [hz2]; exact growslice_fits (by omega) hb)
  have hge := grownCap_ge w (i + k) cap E
  have hle := grownCap_le_maxLen w (i + k) cap E (by unfold maxLen; omega)
  refine ⟨_, _, (A.toArray ++ Builtin.zeroCells z.cells k ++ Builtin.zeroCells z.cells (grownCap w (i + k) cap E - (i + k))).toList, hrun, (Kept.refl No w).drew.alloc _, ?_, ?_, ?_, hge, by unfold maxLen at hle; omega⟩
  · have := Box.new w.drew E (A.toArray ++ Builtin.zeroCells z.cells k ++ Builtin.zeroCells z.cells (grownCap w (i + k) cap E - (i + k)))
    rw [Array.toArray_toList]
    exact this
  · simp only [Array.toList_append, List.append_assoc]
    rw [← hA]
    exact List.take_left
  · simp only [Array.toList_append, List.length_append, Array.length_toList, List.size_toArray, size_zeroCells, hzc, hA]
    rw [← Nat.add_mul, ← Nat.add_mul]
    congr 1
    omega
theorem insL_end {α : Type} (l : List α) (x : α) : insL l l.length x = l ++ [x] := by simp [insL]
theorem enL_ins (es : List En) (i : Nat) (x : En) : enL (insL es i x) = enL (es.take i) ++ (x.cs ++ enL (es.drop i)) := by
  unfold insL
  rw [enL_app, show (x :: es.drop i) = [x] ++ es.drop i from rfl, enL_app, enL_1]
theorem laL_ins (es : List La) (i : Nat) (x : La) : laL (insL es i x) = laL (es.take i) ++ (x.cs ++ laL (es.drop i)) := by
  unfold insL
  rw [laL_app, show (x :: es.drop i) = [x] ++ es.drop i from rfl, laL_app, laL_1]
theorem enL_cut (es : List En) (i : Nat) : enL es = enL (es.take i) ++ enL (es.drop i) := by rw [← enL_app, List.take_append_drop]
theorem laL_cut (es : List La) (i : Nat) : laL es = laL (es.take i) ++ laL (es.drop i) := by rw [← laL_app, List.take_append_drop]
theorem insL_len {α : Type} (l : List α) (i : Nat) (x : α) (h : i ≤ l.length) : (insL l i x).length = l.length + 1 := by simp [insL]; omega
theorem delL_len {α : Type} (l : List α) (i : Nat) (h : i < l.length) : (delL l i).length = l.length - 1 := by simp [delL]; omega
theorem shape_box {w : World} {g : Nat} {t : TypeId} {cs : Array Value} (h : Box w g t cs) : w.shape? g = some (t, cs.size) := by
  unfold Box at h
  simp [World.shape?, h]
def InsE (w : World) (base : Nat) (s : Sl) (es : List En) (i : Nat) (x : En) (e : Ending) (w' : World) : Prop := ∃ s' : Sl, e = .returned s'.v ∧ OwE w' base s' (insL es i x) ∧ Kept (At s.a) w w' ∧ (∀ k, At s'.a k → At s.a k ∨ w.heap.size ≤ k)
def InsLa (w : World) (base : Nat) (s : Sl) (es : List La) (i : Nat) (x : La) (e : Ending) (w' : World) : Prop := ∃ s' : Sl, e = .returned s'.v ∧ OwL w' base s' (insL es i x) ∧ Kept (At s.a) w w' ∧ (∀ k, At s'.a k → At s.a k ∨ w.heap.size ≤ k)
set_option maxRecDepth 100000 in
set_option maxHeartbeats 4000000 in
theorem insE_end (a : Option Addr) (n c vb base : Nat) (es : List En) (x : En) (w : World) (ho : OwE w base ⟨a, n, c⟩ es) (hx : Box w vb 34 x.cells) (hb : (n + 1) * 40 ≤ 140737488355328) (hbase : base ≤ w.heap.size) : Calls Try.prog 44 #[.slice a n c, .int .i64 ((n : Nat) : Int), .slice (some ⟨vb, 0, none⟩) 1 1] w (InsE w base ⟨a, n, c⟩ es n x) := by
  obtain ⟨C, hC⟩ : ∃ C : Ending → World → Prop, C = (InsE w base ⟨a, n, c⟩ es n x) := ⟨_, rfl⟩
  have HC : Hid (C = (InsE w base ⟨a, n, c⟩ es n x)) := hC
  rw [← hC]
  clear hC
  obtain ⟨a', c', w', hrun, hO, hk, hA⟩ := run_appN (w := w) 23 23 34 4 40 (.agg enZ.cells) Try.und22 Try.info54 rfl (by omega) base n c a (enL es) ho.own (some ⟨vb, 0, none⟩) 1 1 x.cs rfl (fun e => by cases e) (fun j u hj => ⟨_, rfl, by rw [addr_add, Nat.zero_add, hx.cell]; show x.cs.toArray[j]? = _; rw [List.getElem?_toArray]; exact hj⟩) x.oneL (by omega) (by omega) hbase
  have HR : Hid _ := hrun
  have HO : Hid (OwE w' base ⟨a', n + 1, c'⟩ (insL es n x)) := ⟨by rw [show insL es n x = es ++ [x] by have hln : es.length = n := ho.len; rw [← hln]; exact insL_end es x, enL_app, enL_1]; exact hO, by rw [insL_len _ _ _ (by rw [ho.len]; exact Nat.le_refl _), ho.len]⟩
  have HK : Hid (Kept (At a) w w') := hk
  have HA : Hid (∀ k, At a' k → At a k ∨ k = w.heap.size) := hA
  clear hrun hO hk hA ho hx
  go_enter Try.func44, Try.ntmps44
  go_upto_region 0 with fail
  refine WL.start ?_
  refine tK (.slice none 0 0) ?_
  try simp only [pA, pB, p1, p2, p3]
  refine WL.nil ?_
  try simp only [pA, pB, p1, p2, p3]
  go_upto_region 1 with fail
  refine WL.start ?_
  refine tK (.slice a n c) ?_
  try simp only [pA, pB, p1, p2, p3]
  refine tK (.int .i64 ((n : Nat) : Int)) ?_
  try simp only [pA, pB, p1, p2, p3]
  refine tW (sliced a n n c 4) (exec_slL 23 _ _ rfl 4 Try.und22e Try.size22e a n c n (by kernel_rfl) (by kernel_rfl) (by omega)) ?_
  try simp only [pA, pB, p1, p2, p3]
  refine WL.nil ?_
  try simp only [pA, pB, p1, p2, p3]
  go_upto_region 2 with fail
  refine WL.start ?_
  refine tK (.slice (some ⟨vb, 0, none⟩) 1 1) ?_
  try simp only [pA, pB, p1, p2, p3]
  refine tK (.int .i64 ((1 : Nat) : Int)) ?_
  try simp only [pA, pB, p1, p2, p3]
  refine tK (.int .i64 ((1 : Nat) : Int)) ?_
  try simp only [pA, pB, p1, p2, p3]
  refine WL.nil ?_
  try simp only [pA, pB, p1, p2, p3]
  go_upto_region 3 with fail
  refine WL.start ?_
  refine tK (.int .i64 ((1 : Nat) : Int)) ?_
  try simp only [pA, pB, p1, p2, p3]
  refine tW (.bool false) (exec_bin .eql 3 _ _ _ rfl (.int .i64 ((1 : Nat) : Int)) (.int .i64 0) (.bool false) (by kernel_rfl) (by kernel_rfl) (by kernel_rfl) (b_eqB _ _ _ (by decide) _)) ?_
  try simp only [pA, pB, p1, p2, p3]
  refine WL.nil ?_
  try simp only [pA, pB, p1, p2, p3]
  go_upto_region 5 with fail
  refine WL.start ?_
  refine tK (.slice a n c) ?_
  try simp only [pA, pB, p1, p2, p3]
  refine tK (.int .i64 ((n : Nat) : Int)) ?_
  try simp only [pA, pB, p1, p2, p3]
  refine tK (.int .i64 ((n : Nat) : Int)) ?_
  try simp only [pA, pB, p1, p2, p3]
  refine WL.nil ?_
  try simp only [pA, pB, p1, p2, p3]
  go_upto_region 6 with fail
  refine WL.start ?_
  refine tK (.int .i64 ((n : Nat) : Int)) ?_
  try simp only [pA, pB, p1, p2, p3]
  refine tK (.int .i64 ((n : Nat) : Int)) ?_
  try simp only [pA, pB, p1, p2, p3]
  refine tW (.bool true) (exec_bin .eql 3 _ _ _ rfl (.int .i64 ((n : Nat) : Int)) (.int .i64 ((n : Nat) : Int)) (.bool true) (by kernel_rfl) (by kernel_rfl) (by kernel_rfl) (b_eqB _ _ _ (by simp) _)) ?_
  try simp only [pA, pB, p1, p2, p3]
  refine WL.nil ?_
  try simp only [pA, pB, p1, p2, p3]
  go_upto_region 7 with fail
  refine WL.start ?_
  refine tK (.slice a n c) ?_
  try simp only [pA, pB, p1, p2, p3]
  refine tK (.slice (some ⟨vb, 0, none⟩) 1 1) ?_
  try simp only [pA, pB, p1, p2, p3]
  refine wp_runW (.slice a' (n + 1) c') w' (exec_appN _ _ 23 23 rfl _ _ (by kernel_rfl) (by kernel_rfl) HR.out) (by kernel_rfl) ?_
  try simp only [pA, pB, p1, p2, p3]
  refine tK (.slice a' (n + 1) c') ?_
  try simp only [pA, pB, p1, p2, p3]
  refine WL.nil ?_
  try simp only [pA, pB, p1, p2, p3]
  go_wp2
  rw [HC.out]
  exact ⟨⟨a', n + 1, c'⟩, rfl, HO.out, HK.out, fun k h => (HA.out k h).imp id (fun e => by omega)⟩
set_option maxRecDepth 100000 in
set_option maxHeartbeats 4000000 in
theorem insE_grow (g n c i vb base : Nat) (es : List En) (x : En) (cur : List Value) (w : World) (hlen : es.length = n) (hbg : base ≤ g) (hgx : Box w g 34 cur.toArray) (hnc : n ≤ c) (hcm : c ≤ 9223372036854775807) (hcl : cur.length = c * 4) (htk : cur.take (n * 4) = enL es) (hx : Box w vb 34 x.cells) (hvg : vb ≠ g) (hi : i < n) (hroom : c < n + 1) (hb : (n + 1) * 40 ≤ 140737488355328) (hbase : base ≤ w.heap.size) : Calls Try.prog 44 #[.slice (some ⟨g, 0, none⟩) n c, .int .i64 ((i : Nat) : Int), .slice (some ⟨vb, 0, none⟩) 1 1] w (InsE w base ⟨some ⟨g, 0, none⟩, n, c⟩ es i x) := by
  obtain ⟨C, hC⟩ : ∃ C : Ending → World → Prop, C = (InsE w base ⟨some ⟨g, 0, none⟩, n, c⟩ es i x) := ⟨_, rfl⟩
  have HC : Hid (C = (InsE w base ⟨some ⟨g, 0, none⟩, n, c⟩ es i x)) := hC
  rw [← hC]
  clear hC
  have hAl : (enL (es.take i)).length = i * 4 := by rw [enL_len, List.length_take, hlen]; congr 1; omega
  have hBl : (enL (es.drop i)).length = (n - i) * 4 := by rw [enL_len, List.length_drop, hlen]
  have hcut : enL es = enL (es.take i) ++ enL (es.drop i) := enL_cut es i
  have hcA : cur.take (i * 4) = enL (es.take i) := by
    have := congrArg (List.take (i * 4)) htk
    rw [List.take_take, Nat.min_eq_left (Nat.mul_le_mul_right _ (by omega)), hcut, ← hAl, List.take_left] at this
    rw [← hAl]; exact this
  have hsrc : ∀ j u, (enL (es.drop i))[j]? = some u → cur[i * 4 + j]? = some u := by
    intro j u hj
    have hj2 := (List.getElem?_eq_some_iff.1 hj).1
    have h1 : (enL es)[i * 4 + j]? = some u := by rw [hcut, List.getElem?_append_right (by omega), hAl, Nat.add_sub_cancel_left]; exact hj
    rw [← htk, List.getElem?_take] at h1
    split at h1
    · exact h1
    · cases h1
  have hins : enL (insL es i x) = enL (es.take i) ++ (x.cs ++ enL (es.drop i)) := enL_ins es i x
  have hlen2 : (insL es i x).length = n + 1 := by rw [insL_len _ _ _ (by omega), hlen]
  have hBone := enL_one (es.drop i)
  have HLen : Hid (es.length = n) := hlen
  generalize enL (es.take i) = A at hAl hcut hcA hins
  generalize hBB : enL (es.drop i) = B at hBl hcut hsrc hins hBone
  have HIns : Hid (enL (insL es i x) = A ++ (x.cs ++ B)) := hins
  have HLn2 : Hid ((insL es i x).length = n + 1) := hlen2
  have HAl : Hid (A.length = i * 4) := hAl
  have HBl : Hid (B.length = (n - i) * 4) := hBl
  have HcA : Hid (cur.take (i * 4) = A) := hcA
  have HSrc : Hid (∀ j u, B[j]? = some u → cur[i * 4 + j]? = some u) := hsrc
  have HBone : Hid (∀ v ∈ B, v.oneCell' = true) := hBone
  have HCl : Hid (cur.length = c * 4) := hcl
  have HGX : Hid (Box w g 34 cur.toArray) := hgx
  have HV : Hid (Box w vb 34 x.cells) := hx
  have hgl : g < w.heap.size := hgx.lt
  have hxl : vb < w.heap.size := hx.lt
  clear hAl hcut hcA hins hBl hsrc hlen2 hcl hgx hx htk hlen hBB hBone
  obtain ⟨c2, w2, cur2, hrun, hk2, hbx2, ht2, hl2, hn2, hm2⟩ := run_growZ (w := w) 23 23 34 4 40 (.agg enZ.cells) Try.und22 Try.info54 rfl (by omega) g i c (n + 1 - i) A HAl.out (fun j u hj => by
    have hj2 := (List.getElem?_eq_some_iff.1 hj).1
    rw [Nat.zero_add, HGX.out.cell, List.getElem?_toArray]
    rw [← HcA.out, List.getElem?_take] at hj
    split at hj
    · exact hj
    · cases hj) (by omega) (by omega) (by rw [show i + (n + 1 - i) = n + 1 by omega]; exact hb) (by omega)
  rw [show i + (n + 1 - i) = n + 1 by omega] at hrun hn2
  have HR : Hid _ := hrun
  have HG : Hid (Box w2 w.heap.size 34 cur2.toArray) := hbx2
  have HT2 : Hid (cur2.take (i * 4) = A) := ht2
  have HL2 : Hid (cur2.length = c2 * 4) := hl2
  have HGX : Hid (Box w2 g 34 cur.toArray) := HGX.out.kept hk2 (fun e => e)
  have HV : Hid (Box w2 vb 34 x.cells) := HV.out.kept hk2 (fun e => e)
  have HK : Hid (Kept No w w2) := hk2
  clear hrun hbx2 ht2 hl2 hk2
  obtain ⟨G, hG⟩ : ∃ G, G = w.heap.size := ⟨_, rfl⟩
  rw [← hG] at HR HG
  have HGG : Hid (G = w.heap.size) := hG
  have hGg : g < G ∧ vb < G := by omega
  have hbG : base ≤ G := by omega
  clear hG
  go_enter Try.func44, Try.ntmps44
  go_upto_region 0 with fail
  refine WL.start ?_
  refine tK (.slice none 0 0) ?_
  try simp only [pA, pB, p1, p2, p3]
  refine WL.nil ?_
  try simp only [pA, pB, p1, p2, p3]
  go_upto_region 1 with fail
  refine WL.start ?_
  refine tK (.slice (some ⟨g, 0, none⟩) n c) ?_
  try simp only [pA, pB, p1, p2, p3]
  refine tK (.int .i64 ((i : Nat) : Int)) ?_
  try simp only [pA, pB, p1, p2, p3]
  refine tW (.slice (some ⟨g, 0 + i * 4, none⟩) (n - i) (c - i)) (exec_slL' 23 _ _ rfl 4 Try.und22e Try.size22e g 0 n c i (by kernel_rfl) (by kernel_rfl) (by omega) (by omega)) ?_
  try simp only [pA, pB, p1, p2, p3]
  refine WL.nil ?_
  try simp only [pA, pB, p1, p2, p3]
  go_upto_region 2 with fail
  refine WL.start ?_
  refine tK (.slice (some ⟨vb, 0, none⟩) 1 1) ?_
  try simp only [pA, pB, p1, p2, p3]
  refine tK (.int .i64 ((1 : Nat) : Int)) ?_
  try simp only [pA, pB, p1, p2, p3]
  refine tK (.int .i64 ((1 : Nat) : Int)) ?_
  try simp only [pA, pB, p1, p2, p3]
  refine WL.nil ?_
  try simp only [pA, pB, p1, p2, p3]
  go_upto_region 3 with fail
  refine WL.start ?_
  refine tK (.int .i64 ((1 : Nat) : Int)) ?_
  try simp only [pA, pB, p1, p2, p3]
  refine tW (.bool false) (exec_bin .eql 3 _ _ _ rfl (.int .i64 ((1 : Nat) : Int)) (.int .i64 0) (.bool false) (by kernel_rfl) (by kernel_rfl) (by kernel_rfl) (b_eqB _ _ _ (by decide) _)) ?_
  try simp only [pA, pB, p1, p2, p3]
  refine WL.nil ?_
  try simp only [pA, pB, p1, p2, p3]
  go_upto_region 5 with fail
  refine WL.start ?_
  refine tK (.slice (some ⟨g, 0, none⟩) n c) ?_
  try simp only [pA, pB, p1, p2, p3]
  refine tK (.int .i64 ((n : Nat) : Int)) ?_
  try simp only [pA, pB, p1, p2, p3]
  refine tK (.int .i64 ((n : Nat) : Int)) ?_
  try simp only [pA, pB, p1, p2, p3]
  refine WL.nil ?_
  try simp only [pA, pB, p1, p2, p3]
  go_upto_region 6 with fail
  refine WL.start ?_
  refine tK (.int .i64 ((i : Nat) : Int)) ?_
  try simp only [pA, pB, p1, p2, p3]
  refine tK (.int .i64 ((n : Nat) : Int)) ?_
  try simp only [pA, pB, p1, p2, p3]
  refine tW (.bool false) (exec_bin .eql 3 _ _ _ rfl (.int .i64 ((i : Nat) : Int)) (.int .i64 ((n : Nat) : Int)) (.bool false) (by kernel_rfl) (by kernel_rfl) (by kernel_rfl) (b_eqB _ _ _ (by simp; omega) _)) ?_
  try simp only [pA, pB, p1, p2, p3]
  refine WL.nil ?_
  try simp only [pA, pB, p1, p2, p3]
  go_upto_region 8 with fail
  refine WL.start ?_
  refine tK (.int .i64 ((n : Nat) : Int)) ?_
  try simp only [pA, pB, p1, p2, p3]
  refine tK (.int .i64 ((1 : Nat) : Int)) ?_
  try simp only [pA, pB, p1, p2, p3]
  refine tW (.int .i64 (((n + 1) : Nat) : Int)) (exec_bin .add 3 _ _ _ rfl (.int .i64 ((n : Nat) : Int)) (.int .i64 ((1 : Nat) : Int)) (.int .i64 (((n + 1) : Nat) : Int)) (by kernel_rfl) (by kernel_rfl) (by kernel_rfl) (b_addN n 1 (n + 1) rfl (by omega) _)) ?_
  try simp only [pA, pB, p1, p2, p3]
  refine tK (.slice (some ⟨g, 0, none⟩) n c) ?_
  try simp only [pA, pB, p1, p2, p3]
  refine tK (.int .i64 ((c : Nat) : Int)) ?_
  try simp only [pA, pB, p1, p2, p3]
  refine tW (.bool true) (exec_bin .gtr 3 _ _ _ rfl (.int .i64 (((n + 1) : Nat) : Int)) (.int .i64 ((c : Nat) : Int)) (.bool true) (by kernel_rfl) (by kernel_rfl) (by kernel_rfl) (b_gtB _ _ _ (by simp; omega) _)) ?_
  try simp only [pA, pB, p1, p2, p3]
  refine WL.nil ?_
  try simp only [pA, pB, p1, p2, p3]
  go_upto_region 9 with fail
  refine WL.start ?_
  refine tK (.slice (some ⟨g, 0, none⟩) n c) ?_
  try simp only [pA, pB, p1, p2, p3]
  refine tK (.int .i64 ((i : Nat) : Int)) ?_
  try simp only [pA, pB, p1, p2, p3]
  refine tW (.slice (some ⟨g, 0, none⟩) i c) (exec_slH' 23 _ _ rfl 4 Try.und22e Try.size22e g 0 n c i (by kernel_rfl) (by kernel_rfl) (by omega)) ?_
  try simp only [pA, pB, p1, p2, p3]
  refine tK (.int .i64 ((n : Nat) : Int)) ?_
  try simp only [pA, pB, p1, p2, p3]
  refine tK (.int .i64 ((1 : Nat) : Int)) ?_
  try simp only [pA, pB, p1, p2, p3]
  refine tW (.int .i64 (((n + 1) : Nat) : Int)) (exec_bin .add 3 _ _ _ rfl (.int .i64 ((n : Nat) : Int)) (.int .i64 ((1 : Nat) : Int)) (.int .i64 (((n + 1) : Nat) : Int)) (by kernel_rfl) (by kernel_rfl) (by kernel_rfl) (b_addN n 1 (n + 1) rfl (by omega) _)) ?_
  try simp only [pA, pB, p1, p2, p3]
  refine tK (.int .i64 ((i : Nat) : Int)) ?_
  try simp only [pA, pB, p1, p2, p3]
  refine tW (.int .i64 ((((n + 1) - i) : Nat) : Int)) (exec_bin .sub 3 _ _ _ rfl (.int .i64 (((n + 1) : Nat) : Int)) (.int .i64 ((i : Nat) : Int)) (.int .i64 ((((n + 1) - i) : Nat) : Int)) (by kernel_rfl) (by kernel_rfl) (by kernel_rfl) (b_subN (n + 1) i ((n + 1) - i) (by omega) (by omega) _)) ?_
  try simp only [pA, pB, p1, p2, p3]
  refine wp_runW (.slice (some ⟨G, 0, none⟩) (n + 1) c2) w2 (exec_appN _ _ 23 3 rfl _ _ (by kernel_rfl) (by kernel_rfl) HR.out) (by kernel_rfl) ?_
  try simp only [pA, pB, p1, p2, p3]
  refine tK (.slice (some ⟨G, 0, none⟩) (n + 1) c2) ?_
  try simp only [pA, pB, p1, p2, p3]
  refine WL.nil ?_
  try simp only [pA, pB, p1, p2, p3]
  go_upto_region 10 with fail
  refine WL.start ?_
  refine tK (.slice (some ⟨G, 0, none⟩) (n + 1) c2) ?_
  try simp only [pA, pB, p1, p2, p3]
  refine tK (.int .i64 ((i : Nat) : Int)) ?_
  try simp only [pA, pB, p1, p2, p3]
  refine tW (.slice (some ⟨G, 0 + i * 4, none⟩) ((n + 1) - i) (c2 - i)) (exec_slL' 23 _ _ rfl 4 Try.und22e Try.size22e G 0 (n + 1) c2 i (by kernel_rfl) (by kernel_rfl) (by omega) (by omega)) ?_
  try simp only [pA, pB, p1, p2, p3]
  refine tK (.slice (some ⟨vb, 0, none⟩) 1 1) ?_
  try simp only [pA, pB, p1, p2, p3]
  refine wp_runW (goInt 1) (w2.setRow G (putL cur2 (0 + i * 4) x.cs).toArray) (exec_copy _ _ 23 23 rfl _ _ (by kernel_rfl) (by kernel_rfl) (run_copyN 23 _ 34 4 Try.und22 Try.size54 (off := 0 + i * 4) HG.out ((n + 1) - i) (c2 - i) ⟨vb, 0, none⟩ 1 1 1 (by omega) x.cs rfl (fun j u hj => by rw [addr_add, Nat.zero_add, HV.out.cell]; show x.cs.toArray[j]? = _; rw [List.getElem?_toArray]; exact hj) (by rw [HL2.out]; show 0 + i * 4 + 4 ≤ _; omega) x.oneL)) (by kernel_rfl) ?_
  try simp only [pA, pB, p1, p2, p3]
  have HG : Hid (Box (w2.setRow G (putL cur2 (0 + i * 4) x.cs).toArray) G 34 (putL cur2 (0 + i * 4) x.cs).toArray) := HG.out.setRow _
  have HGX : Hid (Box (w2.setRow G (putL cur2 (0 + i * 4) x.cs).toArray) g 34 cur.toArray) := HGX.out.rowNe (by omega) _
  have HV : Hid (Box (w2.setRow G (putL cur2 (0 + i * 4) x.cs).toArray) vb 34 x.cells) := HV.out.rowNe (by omega) _
  have HK : Hid (Kept No w (w2.setRow G (putL cur2 (0 + i * 4) x.cs).toArray)) := HK.out.newRow (by have := HGG.out; omega) _
  generalize w2.setRow G (putL cur2 (0 + i * 4) x.cs).toArray = wk1 at HG HGX HV HK ⊢
  refine WL.nil ?_
  try simp only [pA, pB, p1, p2, p3]
  go_upto_region 11 with fail
  refine wp_region_held_drew (S := fun w' => True) rfl trivial (fun hH => ?_)
  have HG : Hid (Box (wk1.drew) G 34 (putL cur2 (0 + i * 4) x.cs).toArray) := HG.out
  have HGX : Hid (Box (wk1.drew) g 34 cur.toArray) := HGX.out
  have HV : Hid (Box (wk1.drew) vb 34 x.cells) := HV.out
  have HK : Hid (Kept No w (wk1.drew)) := HK.out.drew
  generalize wk1.drew = wk2 at HG HGX HV HK ⊢
  refine aK (i := 0) (oi := { dst := some 46, op := Op.move (Operand.tmp 9), type := 23, pos := "slices.go:154", after := #[], guard := none }) (v := .slice (some ⟨G, 0, none⟩) (n + 1) c2) hH ?_
  try simp only [pA, pB, p1, p2, p3]
  refine aK (i := 1) (oi := { dst := some 47, op := Op.move (Operand.tmp 1), type := 3, pos := "slices.go:154", after := #[], guard := none }) (v := .int .i64 ((i : Nat) : Int)) hH ?_
  try simp only [pA, pB, p1, p2, p3]
  refine aK (i := 2) (oi := { dst := some 48, op := Op.move (Operand.tmp 7), type := 3, pos := "slices.go:154", after := #[], guard := none }) (v := .int .i64 ((1 : Nat) : Int)) hH ?_
  try simp only [pA, pB, p1, p2, p3]
  refine aT (i := 3) (oi := { dst := some 49, op := Op.binOp BinOp.add 3 (Operand.tmp 47) (Operand.tmp 48) 3, type := 3, pos := "slices.go:154", after := #[{ on := 1, ground := Ground.data }, { on := 2, ground := Ground.data }], guard := none }) (v := .int .i64 (((i + 1) : Nat) : Int)) (fun w' hw => exec_bin .add 3 _ _ _ rfl (.int .i64 ((i : Nat) : Int)) (.int .i64 ((1 : Nat) : Int)) (.int .i64 (((i + 1) : Nat) : Int)) (by kernel_rfl) (by kernel_rfl) (by kernel_rfl) (b_addN i 1 (i + 1) rfl (by omega) _)) hH ?_
  try simp only [pA, pB, p1, p2, p3]
  refine aT (i := 4) (oi := { dst := some 50, op := Op.slice 23 (Operand.tmp 46) (some (Operand.tmp 49)) none none, type := 23, pos := "slices.go:154", after := #[{ on := 0, ground := Ground.data }, { on := 3, ground := Ground.data }], guard := none }) (v := .slice (some ⟨G, 0 + (i + 1) * 4, none⟩) ((n + 1) - (i + 1)) (c2 - (i + 1))) (fun w' hw => exec_slL' 23 _ _ rfl 4 Try.und22e Try.size22e G 0 (n + 1) c2 (i + 1) (by kernel_rfl) (by kernel_rfl) (by omega) (by omega)) hH ?_
  try simp only [pA, pB, p1, p2, p3]
  refine aK (i := 5) (oi := { dst := some 51, op := Op.move (Operand.tmp 0), type := 23, pos := "slices.go:154", after := #[], guard := none }) (v := .slice (some ⟨g, 0, none⟩) n c) hH ?_
  try simp only [pA, pB, p1, p2, p3]
  refine aK (i := 6) (oi := { dst := some 52, op := Op.move (Operand.tmp 1), type := 3, pos := "slices.go:154", after := #[], guard := none }) (v := .int .i64 ((i : Nat) : Int)) hH ?_
  try simp only [pA, pB, p1, p2, p3]
  refine aT (i := 7) (oi := { dst := some 53, op := Op.slice 23 (Operand.tmp 51) (some (Operand.tmp 52)) none none, type := 23, pos := "slices.go:154", after := #[{ on := 5, ground := Ground.data }, { on := 6, ground := Ground.data }], guard := none }) (v := .slice (some ⟨g, 0 + i * 4, none⟩) (n - i) (c - i)) (fun w' hw => exec_slL' 23 _ _ rfl 4 Try.und22e Try.size22e g 0 n c i (by kernel_rfl) (by kernel_rfl) (by omega) (by omega)) hH ?_
  try simp only [pA, pB, p1, p2, p3]
  refine any_step (i := 8) (o := { dst := some 54, op := Op.call { callee := Callee.builtin Builtin.copy, args := #[Operand.tmp 50, Operand.tmp 53], argTypes := #[23, 23] }, type := 3, pos := "slices.go:154", after := #[{ on := 4, ground := Ground.data }, { on := 7, ground := Ground.data }], guard := none }) (w' := wk2.setRow G (putL (putL cur2 (0 + i * 4) x.cs) (0 + (i + 1) * 4) B).toArray) (v := goInt ((n - i : Nat) : Int)) rfl (by kernel_rfl) (by kernel_rfl) (exec_copy _ _ 23 23 rfl _ _ (by kernel_rfl) (by kernel_rfl) (run_copyN 23 _ 34 4 Try.und22 Try.size54 (off := 0 + (i + 1) * 4) HG.out ((n + 1) - (i + 1)) (c2 - (i + 1)) ⟨g, 0 + i * 4, none⟩ (n - i) (c - i) (n - i) (by omega) B HBl.out (fun j u hj => by rw [addr_add, HGX.out.cell, List.getElem?_toArray, Nat.zero_add]; exact HSrc.out j u hj) (by rw [putL_len (by rw [HL2.out]; show 0 + i * 4 + 4 ≤ _; omega), HL2.out, HBl.out]; omega) HBone.out)) trivial (fun hH => ?_)
  try simp only [pA, pB, p1, p2, p3]
  have HO : Hid (OwE (wk2.setRow G (putL (putL cur2 (0 + i * 4) x.cs) (0 + (i + 1) * 4) B).toArray) base ⟨some ⟨G, 0, none⟩, n + 1, c2⟩ (insL es i x)) := by
    refine ⟨Own.shut (cur := putL (putL cur2 (0 + i * 4) x.cs) (0 + (i + 1) * 4) B) hbG (HG.out.setRow _) hn2 hm2 ?_ ?_, HLn2.out⟩
    · have h2 : (putL cur2 (0 + i * 4) x.cs).length = c2 * 4 := by rw [putL_len (by rw [HL2.out]; show 0 + i * 4 + 4 ≤ _; omega), HL2.out]
      rw [putL_len (by rw [h2, HBl.out]; omega), h2]
    · rw [HIns.out]
      have h1 := ins_grow cur2 A x.cs B 4 rfl (by rw [HL2.out, HAl.out, HBl.out]; omega) (by rw [HAl.out]; exact HT2.out)
      rw [HAl.out, HBl.out, show i * 4 + 4 + (n - i) * 4 = (n + 1) * 4 by omega] at h1
      rw [Nat.zero_add, Nat.zero_add, show (i + 1) * 4 = i * 4 + 4 by omega]
      exact h1
  have HK : Hid (Kept No w (wk2.setRow G (putL (putL cur2 (0 + i * 4) x.cs) (0 + (i + 1) * 4) B).toArray)) := HK.out.newRow (by have := HGG.out; omega) _
  generalize wk2.setRow G (putL (putL cur2 (0 + i * 4) x.cs) (0 + (i + 1) * 4) B).toArray = wk3 at HO HK ⊢
  refine wpAnyH_done (by kernel_rfl) ?_ _
  try simp only [pA, pB, p1, p2, p3]
  clear hH
  go_upto_region 12 with fail
  refine WL.start ?_
  refine tK (.slice (some ⟨G, 0, none⟩) (n + 1) c2) ?_
  try simp only [pA, pB, p1, p2, p3]
  refine tK (.slice (some ⟨G, 0, none⟩) (n + 1) c2) ?_
  try simp only [pA, pB, p1, p2, p3]
  refine WL.nil ?_
  try simp only [pA, pB, p1, p2, p3]
  go_wp2
  rw [HC.out]
  exact ⟨⟨some ⟨G, 0, none⟩, n + 1, c2⟩, rfl, HO.out, HK.out.of_no, fun k h => .inr (by obtain ⟨ad, e, rfl⟩ := h; cases e; have := HGG.out; show _ ≤ G; omega)⟩
set_option maxRecDepth 100000 in
set_option maxHeartbeats 4000000 in
theorem insE_room (g n c i vb base : Nat) (es : List En) (x : En) (cur : List Value) (w : World) (hlen : es.length = n) (hbg : base ≤ g) (hgx : Box w g 34 cur.toArray) (hnc : n ≤ c) (hcm : c ≤ 9223372036854775807) (hcl : cur.length = c * 4) (htk : cur.take (n * 4) = enL es) (hx : Box w vb 34 x.cells) (hvg : vb ≠ g) (hi : i < n) (hroom : n + 1 ≤ c) (hb : (n + 1) * 40 ≤ 140737488355328) (hbase : base ≤ w.heap.size) : Calls Try.prog 44 #[.slice (some ⟨g, 0, none⟩) n c, .int .i64 ((i : Nat) : Int), .slice (some ⟨vb, 0, none⟩) 1 1] w (InsE w base ⟨some ⟨g, 0, none⟩, n, c⟩ es i x) := by
  obtain ⟨C, hC⟩ : ∃ C : Ending → World → Prop, C = (InsE w base ⟨some ⟨g, 0, none⟩, n, c⟩ es i x) := ⟨_, rfl⟩
  have HC : Hid (C = (InsE w base ⟨some ⟨g, 0, none⟩, n, c⟩ es i x)) := hC
  rw [← hC]
  clear hC
  have hAl : (enL (es.take i)).length = i * 4 := by rw [enL_len, List.length_take, hlen]; congr 1; omega
  have hBl : (enL (es.drop i)).length = (n - i) * 4 := by rw [enL_len, List.length_drop, hlen]
  have hcut : enL es = enL (es.take i) ++ enL (es.drop i) := enL_cut es i
  have hcA : cur.take (i * 4) = enL (es.take i) := by
    have := congrArg (List.take (i * 4)) htk
    rw [List.take_take, Nat.min_eq_left (Nat.mul_le_mul_right _ (by omega)), hcut, ← hAl, List.take_left] at this
    rw [← hAl]; exact this
  have hsrc : ∀ j u, (enL (es.drop i))[j]? = some u → cur[i * 4 + j]? = some u := by
    intro j u hj
    have hj2 := (List.getElem?_eq_some_iff.1 hj).1
    have h1 : (enL es)[i * 4 + j]? = some u := by rw [hcut, List.getElem?_append_right (by omega), hAl, Nat.add_sub_cancel_left]; exact hj
    rw [← htk, List.getElem?_take] at h1
    split at h1
    · exact h1
    · cases h1
  have hins : enL (insL es i x) = enL (es.take i) ++ (x.cs ++ enL (es.drop i)) := enL_ins es i x
  have hlen2 : (insL es i x).length = n + 1 := by rw [insL_len _ _ _ (by omega), hlen]
  have hBone := enL_one (es.drop i)
  have HLen : Hid (es.length = n) := hlen
  generalize enL (es.take i) = A at hAl hcut hcA hins
  generalize hBB : enL (es.drop i) = B at hBl hcut hsrc hins hBone
  have HIns : Hid (enL (insL es i x) = A ++ (x.cs ++ B)) := hins
  have HLn2 : Hid ((insL es i x).length = n + 1) := hlen2
  have HAl : Hid (A.length = i * 4) := hAl
  have HBl : Hid (B.length = (n - i) * 4) := hBl
  have HcA : Hid (cur.take (i * 4) = A) := hcA
  have HSrc : Hid (∀ j u, B[j]? = some u → cur[i * 4 + j]? = some u) := hsrc
  have HBone : Hid (∀ v ∈ B, v.oneCell' = true) := hBone
  have HCl : Hid (cur.length = c * 4) := hcl
  have HGX : Hid (Box w g 34 cur.toArray) := hgx
  have HV : Hid (Box w vb 34 x.cells) := hx
  have hgl : g < w.heap.size := hgx.lt
  have hxl : vb < w.heap.size := hx.lt
  clear hAl hcut hcA hins hBl hsrc hlen2 hcl hgx hx htk hlen hBB hBone
  have HK : Hid (Kept (At (some ⟨g, 0, none⟩)) w w) := Kept.refl _ _
  go_enter Try.func44, Try.ntmps44
  go_upto_region 0 with fail
  refine WL.start ?_
  refine tK (.slice none 0 0) ?_
  try simp only [pA, pB, p1, p2, p3]
  refine WL.nil ?_
  try simp only [pA, pB, p1, p2, p3]
  go_upto_region 1 with fail
  refine WL.start ?_
  refine tK (.slice (some ⟨g, 0, none⟩) n c) ?_
  try simp only [pA, pB, p1, p2, p3]
  refine tK (.int .i64 ((i : Nat) : Int)) ?_
  try simp only [pA, pB, p1, p2, p3]
  refine tW (.slice (some ⟨g, 0 + i * 4, none⟩) (n - i) (c - i)) (exec_slL' 23 _ _ rfl 4 Try.und22e Try.size22e g 0 n c i (by kernel_rfl) (by kernel_rfl) (by omega) (by omega)) ?_
  try simp only [pA, pB, p1, p2, p3]
  refine WL.nil ?_
  try simp only [pA, pB, p1, p2, p3]
  go_upto_region 2 with fail
  refine WL.start ?_
  refine tK (.slice (some ⟨vb, 0, none⟩) 1 1) ?_
  try simp only [pA, pB, p1, p2, p3]
  refine tK (.int .i64 ((1 : Nat) : Int)) ?_
  try simp only [pA, pB, p1, p2, p3]
  refine tK (.int .i64 ((1 : Nat) : Int)) ?_
  try simp only [pA, pB, p1, p2, p3]
  refine WL.nil ?_
  try simp only [pA, pB, p1, p2, p3]
  go_upto_region 3 with fail
  refine WL.start ?_
  refine tK (.int .i64 ((1 : Nat) : Int)) ?_
  try simp only [pA, pB, p1, p2, p3]
  refine tW (.bool false) (exec_bin .eql 3 _ _ _ rfl (.int .i64 ((1 : Nat) : Int)) (.int .i64 0) (.bool false) (by kernel_rfl) (by kernel_rfl) (by kernel_rfl) (b_eqB _ _ _ (by decide) _)) ?_
  try simp only [pA, pB, p1, p2, p3]
  refine WL.nil ?_
  try simp only [pA, pB, p1, p2, p3]
  go_upto_region 5 with fail
  refine WL.start ?_
  refine tK (.slice (some ⟨g, 0, none⟩) n c) ?_
  try simp only [pA, pB, p1, p2, p3]
  refine tK (.int .i64 ((n : Nat) : Int)) ?_
  try simp only [pA, pB, p1, p2, p3]
  refine tK (.int .i64 ((n : Nat) : Int)) ?_
  try simp only [pA, pB, p1, p2, p3]
  refine WL.nil ?_
  try simp only [pA, pB, p1, p2, p3]
  go_upto_region 6 with fail
  refine WL.start ?_
  refine tK (.int .i64 ((i : Nat) : Int)) ?_
  try simp only [pA, pB, p1, p2, p3]
  refine tK (.int .i64 ((n : Nat) : Int)) ?_
  try simp only [pA, pB, p1, p2, p3]
  refine tW (.bool false) (exec_bin .eql 3 _ _ _ rfl (.int .i64 ((i : Nat) : Int)) (.int .i64 ((n : Nat) : Int)) (.bool false) (by kernel_rfl) (by kernel_rfl) (by kernel_rfl) (b_eqB _ _ _ (by simp; omega) _)) ?_
  try simp only [pA, pB, p1, p2, p3]
  refine WL.nil ?_
  try simp only [pA, pB, p1, p2, p3]
  go_upto_region 8 with fail
  refine WL.start ?_
  refine tK (.int .i64 ((n : Nat) : Int)) ?_
  try simp only [pA, pB, p1, p2, p3]
  refine tK (.int .i64 ((1 : Nat) : Int)) ?_
  try simp only [pA, pB, p1, p2, p3]
  refine tW (.int .i64 (((n + 1) : Nat) : Int)) (exec_bin .add 3 _ _ _ rfl (.int .i64 ((n : Nat) : Int)) (.int .i64 ((1 : Nat) : Int)) (.int .i64 (((n + 1) : Nat) : Int)) (by kernel_rfl) (by kernel_rfl) (by kernel_rfl) (b_addN n 1 (n + 1) rfl (by omega) _)) ?_
  try simp only [pA, pB, p1, p2, p3]
  refine tK (.slice (some ⟨g, 0, none⟩) n c) ?_
  try simp only [pA, pB, p1, p2, p3]
  refine tK (.int .i64 ((c : Nat) : Int)) ?_
  try simp only [pA, pB, p1, p2, p3]
  refine tW (.bool false) (exec_bin .gtr 3 _ _ _ rfl (.int .i64 (((n + 1) : Nat) : Int)) (.int .i64 ((c : Nat) : Int)) (.bool false) (by kernel_rfl) (by kernel_rfl) (by kernel_rfl) (b_gtB _ _ _ (by simp; omega) _)) ?_
  try simp only [pA, pB, p1, p2, p3]
  refine WL.nil ?_
  try simp only [pA, pB, p1, p2, p3]
  go_upto_region 13 with fail
  refine WL.start ?_
  refine tK (.slice (some ⟨g, 0, none⟩) n c) ?_
  try simp only [pA, pB, p1, p2, p3]
  refine tK (.int .i64 ((n : Nat) : Int)) ?_
  try simp only [pA, pB, p1, p2, p3]
  refine tK (.int .i64 ((1 : Nat) : Int)) ?_
  try simp only [pA, pB, p1, p2, p3]
  refine tW (.int .i64 (((n + 1) : Nat) : Int)) (exec_bin .add 3 _ _ _ rfl (.int .i64 ((n : Nat) : Int)) (.int .i64 ((1 : Nat) : Int)) (.int .i64 (((n + 1) : Nat) : Int)) (by kernel_rfl) (by kernel_rfl) (by kernel_rfl) (b_addN n 1 (n + 1) rfl (by omega) _)) ?_
  try simp only [pA, pB, p1, p2, p3]
  refine tW (.slice (some ⟨g, 0, none⟩) (n + 1) c) (exec_slH' 23 _ _ rfl 4 Try.und22e Try.size22e g 0 n c (n + 1) (by kernel_rfl) (by kernel_rfl) (by omega)) ?_
  try simp only [pA, pB, p1, p2, p3]
  refine tK (.slice (some ⟨g, 0, none⟩) (n + 1) c) ?_
  try simp only [pA, pB, p1, p2, p3]
  refine WL.nil ?_
  try simp only [pA, pB, p1, p2, p3]
  go_upto_region 14 with fail
  refine WL.start ?_
  refine tK (.slice (some ⟨vb, 0, none⟩) 1 1) ?_
  try simp only [pA, pB, p1, p2, p3]
  refine tK (.slice (some ⟨g, 0, none⟩) (n + 1) c) ?_
  try simp only [pA, pB, p1, p2, p3]
  refine tK (.int .i64 ((i : Nat) : Int)) ?_
  try simp only [pA, pB, p1, p2, p3]
  refine tK (.int .i64 ((1 : Nat) : Int)) ?_
  try simp only [pA, pB, p1, p2, p3]
  refine tW (.int .i64 (((i + 1) : Nat) : Int)) (exec_bin .add 3 _ _ _ rfl (.int .i64 ((i : Nat) : Int)) (.int .i64 ((1 : Nat) : Int)) (.int .i64 (((i + 1) : Nat) : Int)) (by kernel_rfl) (by kernel_rfl) (by kernel_rfl) (b_addN i 1 (i + 1) rfl (by omega) _)) ?_
  try simp only [pA, pB, p1, p2, p3]
  refine tW (.slice (some ⟨g, 0 + (i + 1) * 4, none⟩) ((n + 1) - (i + 1)) (c - (i + 1))) (exec_slL' 23 _ _ rfl 4 Try.und22e Try.size22e g 0 (n + 1) c (i + 1) (by kernel_rfl) (by kernel_rfl) (by omega) (by omega)) ?_
  try simp only [pA, pB, p1, p2, p3]
  refine wp_takeW (.bool false) (exec_callX 51 #[.slice (some ⟨vb, 0, none⟩) 1 1, .slice (some ⟨g, 0 + (i + 1) * 4, none⟩) ((n + 1) - (i + 1)) (c - (i + 1))] (by kernel_rfl) (by
      rw [run_callFunc_extern Try.func51 (by kernel_rfl) (by kernel_rfl) (by kernel_rfl) (e := Extern.SlicesOverlaps.overlaps #[23, 23] #[4]) (by kernel_rfl), Lib.run_overlaps_apart _ 23 4 34 Try.und22 4 (size_of Try.size54) ⟨vb, 0, none⟩ ⟨g, 0 + (i + 1) * 4, none⟩ 1 1 (n + 1 - (i + 1)) (c - (i + 1)) hvg 34 34 4 cur.toArray.size (shape_box HV.out) (shape_box HGX.out) (by rw [List.size_toArray, HCl.out]; omega) (HV.out.frozen 0) (HV.out.frozen _)]
      rfl)) (by kernel_rfl) ?_
  try simp only [pA, pB, p1, p2, p3]
  refine tK (.bool true) ?_
  try simp only [pA, pB, p1, p2, p3]
  refine WL.nil ?_
  try simp only [pA, pB, p1, p2, p3]
  go_upto_region 15 with fail
  refine wp_region_held_drew (S := fun w' => True) rfl trivial (fun hH => ?_)
  have HGX : Hid (Box (w.drew) g 34 cur.toArray) := HGX.out
  have HV : Hid (Box (w.drew) vb 34 x.cells) := HV.out
  have HK : Hid (Kept (At (some ⟨g, 0, none⟩)) w (w.drew)) := HK.out.drew
  generalize w.drew = wk1 at HGX HV HK ⊢
  refine aK (i := 0) (oi := { dst := some 69, op := Op.move (Operand.tmp 0), type := 23, pos := "slices.go:178", after := #[], guard := none }) (v := .slice (some ⟨g, 0, none⟩) (n + 1) c) hH ?_
  try simp only [pA, pB, p1, p2, p3]
  refine aK (i := 1) (oi := { dst := some 70, op := Op.move (Operand.tmp 1), type := 3, pos := "slices.go:178", after := #[], guard := none }) (v := .int .i64 ((i : Nat) : Int)) hH ?_
  try simp only [pA, pB, p1, p2, p3]
  refine aK (i := 2) (oi := { dst := some 71, op := Op.move (Operand.tmp 7), type := 3, pos := "slices.go:178", after := #[], guard := none }) (v := .int .i64 ((1 : Nat) : Int)) hH ?_
  try simp only [pA, pB, p1, p2, p3]
  refine aT (i := 3) (oi := { dst := some 72, op := Op.binOp BinOp.add 3 (Operand.tmp 70) (Operand.tmp 71) 3, type := 3, pos := "slices.go:178", after := #[{ on := 1, ground := Ground.data }, { on := 2, ground := Ground.data }], guard := none }) (v := .int .i64 (((i + 1) : Nat) : Int)) (fun w' hw => exec_bin .add 3 _ _ _ rfl (.int .i64 ((i : Nat) : Int)) (.int .i64 ((1 : Nat) : Int)) (.int .i64 (((i + 1) : Nat) : Int)) (by kernel_rfl) (by kernel_rfl) (by kernel_rfl) (b_addN i 1 (i + 1) rfl (by omega) _)) hH ?_
  try simp only [pA, pB, p1, p2, p3]
  refine aT (i := 4) (oi := { dst := some 73, op := Op.slice 23 (Operand.tmp 69) (some (Operand.tmp 72)) none none, type := 23, pos := "slices.go:178", after := #[{ on := 0, ground := Ground.data }, { on := 3, ground := Ground.data }], guard := none }) (v := .slice (some ⟨g, 0 + (i + 1) * 4, none⟩) ((n + 1) - (i + 1)) (c - (i + 1))) (fun w' hw => exec_slL' 23 _ _ rfl 4 Try.und22e Try.size22e g 0 (n + 1) c (i + 1) (by kernel_rfl) (by kernel_rfl) (by omega) (by omega)) hH ?_
  try simp only [pA, pB, p1, p2, p3]
  refine aK (i := 5) (oi := { dst := some 74, op := Op.move (Operand.tmp 0), type := 23, pos := "slices.go:178", after := #[], guard := none }) (v := .slice (some ⟨g, 0, none⟩) (n + 1) c) hH ?_
  try simp only [pA, pB, p1, p2, p3]
  refine aK (i := 6) (oi := { dst := some 75, op := Op.move (Operand.tmp 1), type := 3, pos := "slices.go:178", after := #[], guard := none }) (v := .int .i64 ((i : Nat) : Int)) hH ?_
  try simp only [pA, pB, p1, p2, p3]
  refine aT (i := 7) (oi := { dst := some 76, op := Op.slice 23 (Operand.tmp 74) (some (Operand.tmp 75)) none none, type := 23, pos := "slices.go:178", after := #[{ on := 5, ground := Ground.data }, { on := 6, ground := Ground.data }], guard := none }) (v := .slice (some ⟨g, 0 + i * 4, none⟩) ((n + 1) - i) (c - i)) (fun w' hw => exec_slL' 23 _ _ rfl 4 Try.und22e Try.size22e g 0 (n + 1) c i (by kernel_rfl) (by kernel_rfl) (by omega) (by omega)) hH ?_
  try simp only [pA, pB, p1, p2, p3]
  refine any_step (i := 8) (o := { dst := some 77, op := Op.call { callee := Callee.builtin Builtin.copy, args := #[Operand.tmp 73, Operand.tmp 76], argTypes := #[23, 23] }, type := 3, pos := "slices.go:178", after := #[{ on := 4, ground := Ground.data }, { on := 7, ground := Ground.data }], guard := none }) (w' := wk1.setRow g (putL cur (0 + (i + 1) * 4) B).toArray) (v := goInt ((n - i : Nat) : Int)) rfl (by kernel_rfl) (by kernel_rfl) (exec_copy _ _ 23 23 rfl _ _ (by kernel_rfl) (by kernel_rfl) (run_copyN 23 _ 34 4 Try.und22 Try.size54 (off := 0 + (i + 1) * 4) HGX.out ((n + 1) - (i + 1)) (c - (i + 1)) ⟨g, 0 + i * 4, none⟩ (n + 1 - i) (c - i) (n - i) (by omega) B HBl.out (fun j u hj => by rw [addr_add, HGX.out.cell, List.getElem?_toArray, Nat.zero_add]; exact HSrc.out j u hj) (by rw [HCl.out, HBl.out]; omega) HBone.out)) trivial (fun hH => ?_)
  try simp only [pA, pB, p1, p2, p3]
  have HGX : Hid (Box (wk1.setRow g (putL cur (0 + (i + 1) * 4) B).toArray) g 34 (putL cur (0 + (i + 1) * 4) B).toArray) := HGX.out.setRow _
  have HV : Hid (Box (wk1.setRow g (putL cur (0 + (i + 1) * 4) B).toArray) vb 34 x.cells) := HV.out.rowNe hvg _
  have HK : Hid (Kept (At (some ⟨g, 0, none⟩)) w (wk1.setRow g (putL cur (0 + (i + 1) * 4) B).toArray)) := HK.out.inRow ⟨_, rfl, rfl⟩ _
  generalize wk1.setRow g (putL cur (0 + (i + 1) * 4) B).toArray = wk2 at HGX HV HK ⊢
  refine wpAnyH_done (by kernel_rfl) ?_ _
  try simp only [pA, pB, p1, p2, p3]
  clear hH
  go_upto_region 16 with fail
  refine WL.start ?_
  refine tK (.slice (some ⟨g, 0, none⟩) (n + 1) c) ?_
  try simp only [pA, pB, p1, p2, p3]
  refine tK (.int .i64 ((i : Nat) : Int)) ?_
  try simp only [pA, pB, p1, p2, p3]
  refine tW (.slice (some ⟨g, 0 + i * 4, none⟩) ((n + 1) - i) (c - i)) (exec_slL' 23 _ _ rfl 4 Try.und22e Try.size22e g 0 (n + 1) c i (by kernel_rfl) (by kernel_rfl) (by omega) (by omega)) ?_
  try simp only [pA, pB, p1, p2, p3]
  refine tK (.slice (some ⟨vb, 0, none⟩) 1 1) ?_
  try simp only [pA, pB, p1, p2, p3]
  have HPL : Hid ((putL cur (0 + (i + 1) * 4) B).length = c * 4) := by
    show _ = _
    rw [putL_len (by rw [HCl.out, HBl.out]; omega), HCl.out]
  refine wp_runW (goInt 1) (wk2.setRow g (putL (putL cur (0 + (i + 1) * 4) B) (0 + i * 4) x.cs).toArray) (exec_copy _ _ 23 23 rfl _ _ (by kernel_rfl) (by kernel_rfl) (run_copyN 23 _ 34 4 Try.und22 Try.size54 (off := 0 + i * 4) HGX.out ((n + 1) - i) (c - i) ⟨vb, 0, none⟩ 1 1 1 (by omega) x.cs rfl (fun j u hj => by rw [addr_add, Nat.zero_add, HV.out.cell]; show x.cs.toArray[j]? = _; rw [List.getElem?_toArray]; exact hj) (by rw [HPL.out]; show 0 + i * 4 + 4 ≤ _; omega) x.oneL)) (by kernel_rfl) ?_
  try simp only [pA, pB, p1, p2, p3]
  have HO : Hid (OwE (wk2.setRow g (putL (putL cur (0 + (i + 1) * 4) B) (0 + i * 4) x.cs).toArray) base ⟨some ⟨g, 0, none⟩, n + 1, c⟩ (insL es i x)) := by
    refine ⟨Own.shut (cur := putL (putL cur (0 + (i + 1) * 4) B) (0 + i * 4) x.cs) hbg (HGX.out.setRow _) hroom hcm ?_ ?_, HLn2.out⟩
    · rw [putL_len (by rw [HPL.out]; show 0 + i * 4 + 4 ≤ _; omega), HPL.out]
    · rw [HIns.out]
      have h1 := ins_room cur A x.cs B 4 rfl (by rw [HCl.out, HAl.out, HBl.out]; omega) (by rw [HAl.out]; exact HcA.out)
      rw [HAl.out, HBl.out, show i * 4 + 4 + (n - i) * 4 = (n + 1) * 4 by omega] at h1
      rw [Nat.zero_add, Nat.zero_add, show (i + 1) * 4 = i * 4 + 4 by omega]
      exact h1
  have HK : Hid (Kept (At (some ⟨g, 0, none⟩)) w (wk2.setRow g (putL (putL cur (0 + (i + 1) * 4) B) (0 + i * 4) x.cs).toArray)) := HK.out.inRow ⟨_, rfl, rfl⟩ _
  generalize wk2.setRow g (putL (putL cur (0 + (i + 1) * 4) B) (0 + i * 4) x.cs).toArray = wk3 at HO HK ⊢
  refine WL.nil ?_
  try simp only [pA, pB, p1, p2, p3]
  go_upto_region 17 with fail
  refine WL.start ?_
  refine tK (.slice (some ⟨g, 0, none⟩) (n + 1) c) ?_
  try simp only [pA, pB, p1, p2, p3]
  refine tK (.slice (some ⟨g, 0, none⟩) (n + 1) c) ?_
  try simp only [pA, pB, p1, p2, p3]
  refine WL.nil ?_
  try simp only [pA, pB, p1, p2, p3]
  go_wp2
  rw [HC.out]
  exact ⟨⟨some ⟨g, 0, none⟩, n + 1, c⟩, rfl, HO.out, HK.out, fun k h => .inl h⟩
theorem insE_any (a : Option Addr) (n c i vb base : Nat) (es : List En) (x : En) (w : World) (ho : OwE w base ⟨a, n, c⟩ es) (hx : Box w vb 34 x.cells) (hv : ¬ At a vb) (hi : i ≤ n) (hb : (n + 1) * 40 ≤ 140737488355328) (hbase : base ≤ w.heap.size) :
    Calls Try.prog 44 #[.slice a n c, .int .i64 ((i : Nat) : Int), .slice (some ⟨vb, 0, none⟩) 1 1] w (InsE w base ⟨a, n, c⟩ es i x) := by
  by_cases hin : i = n
  · subst hin
    exact insE_end a i c vb base es x w ho hx hb hbase
  · obtain ⟨g, cur, rfl, h1, h2, h3, h4, h5, h6⟩ := Own.op ho.own (show 0 < n by omega)
    have hvg : vb ≠ g := fun e => hv ⟨_, rfl, e.symm⟩
    by_cases hr : n + 1 ≤ c
    · exact insE_room g n c i vb base es x cur w ho.len h1 h2 h3 h4 h5 h6 hx hvg (by omega) hr hb hbase
    · exact insE_grow g n c i vb base es x cur w ho.len h1 h2 h3 h4 h5 h6 hx hvg (by omega) (by omega) hb hbase
set_option maxRecDepth 100000 in
set_option maxHeartbeats 4000000 in
theorem insLa_end (a : Option Addr) (n c vb base : Nat) (es : List La) (x : La) (w : World) (ho : OwL w base ⟨a, n, c⟩ es) (hx : Box w vb 67 x.cells) (hb : (n + 1) * 56 ≤ 140737488355328) (hbase : base ≤ w.heap.size) : Calls Try.prog 42 #[.slice a n c, .int .i64 ((n : Nat) : Int), .slice (some ⟨vb, 0, none⟩) 1 1] w (InsLa w base ⟨a, n, c⟩ es n x) := by
  obtain ⟨C, hC⟩ : ∃ C : Ending → World → Prop, C = (InsLa w base ⟨a, n, c⟩ es n x) := ⟨_, rfl⟩
  have HC : Hid (C = (InsLa w base ⟨a, n, c⟩ es n x)) := hC
  rw [← hC]
  clear hC
  obtain ⟨a', c', w', hrun, hO, hk, hA⟩ := run_appN (w := w) 24 24 67 7 56 (.agg laZ.cells) Try.und23 Try.info64 rfl (by omega) base n c a (laL es) ho.own (some ⟨vb, 0, none⟩) 1 1 x.cs rfl (fun e => by cases e) (fun j u hj => ⟨_, rfl, by rw [addr_add, Nat.zero_add, hx.cell]; show x.cs.toArray[j]? = _; rw [List.getElem?_toArray]; exact hj⟩) x.oneL (by omega) (by omega) hbase
  have HR : Hid _ := hrun
  have HO : Hid (OwL w' base ⟨a', n + 1, c'⟩ (insL es n x)) := ⟨by rw [show insL es n x = es ++ [x] by have hln : es.length = n := ho.len; rw [← hln]; exact insL_end es x, laL_app, laL_1]; exact hO, by rw [insL_len _ _ _ (by rw [ho.len]; exact Nat.le_refl _), ho.len]⟩
  have HK : Hid (Kept (At a) w w') := hk
  have HA : Hid (∀ k, At a' k → At a k ∨ k = w.heap.size) := hA
  clear hrun hO hk hA ho hx
  go_enter Try.func42, Try.ntmps42
  go_upto_region 0 with fail
  refine WL.start ?_
  refine tK (.slice none 0 0) ?_
  try simp only [pA, pB, p1, p2, p3]
  refine WL.nil ?_
  try simp only [pA, pB, p1, p2, p3]
  go_upto_region 1 with fail
  refine WL.start ?_
  refine tK (.slice a n c) ?_
  try simp only [pA, pB, p1, p2, p3]
  refine tK (.int .i64 ((n : Nat) : Int)) ?_
  try simp only [pA, pB, p1, p2, p3]
  refine tW (sliced a n n c 7) (exec_slL 24 _ _ rfl 7 Try.und23e Try.size23e a n c n (by kernel_rfl) (by kernel_rfl) (by omega)) ?_
  try simp only [pA, pB, p1, p2, p3]
  refine WL.nil ?_
  try simp only [pA, pB, p1, p2, p3]
  go_upto_region 2 with fail
  refine WL.start ?_
  refine tK (.slice (some ⟨vb, 0, none⟩) 1 1) ?_
  try simp only [pA, pB, p1, p2, p3]
  refine tK (.int .i64 ((1 : Nat) : Int)) ?_
  try simp only [pA, pB, p1, p2, p3]
  refine tK (.int .i64 ((1 : Nat) : Int)) ?_
  try simp only [pA, pB, p1, p2, p3]
  refine WL.nil ?_
  try simp only [pA, pB, p1, p2, p3]
  go_upto_region 3 with fail
  refine WL.start ?_
  refine tK (.int .i64 ((1 : Nat) : Int)) ?_
  try simp only [pA, pB, p1, p2, p3]
  refine tW (.bool false) (exec_bin .eql 3 _ _ _ rfl (.int .i64 ((1 : Nat) : Int)) (.int .i64 0) (.bool false) (by kernel_rfl) (by kernel_rfl) (by kernel_rfl) (b_eqB _ _ _ (by decide) _)) ?_
  try simp only [pA, pB, p1, p2, p3]
  refine WL.nil ?_
  try simp only [pA, pB, p1, p2, p3]
  go_upto_region 5 with fail
  refine WL.start ?_
  refine tK (.slice a n c) ?_
  try simp only [pA, pB, p1, p2, p3]
  refine tK (.int .i64 ((n : Nat) : Int)) ?_
  try simp only [pA, pB, p1, p2, p3]
  refine tK (.int .i64 ((n : Nat) : Int)) ?_
  try simp only [pA, pB, p1, p2, p3]
  refine WL.nil ?_
  try simp only [pA, pB, p1, p2, p3]
  go_upto_region 6 with fail
  refine WL.start ?_
  refine tK (.int .i64 ((n : Nat) : Int)) ?_
  try simp only [pA, pB, p1, p2, p3]
  refine tK (.int .i64 ((n : Nat) : Int)) ?_
  try simp only [pA, pB, p1, p2, p3]
  refine tW (.bool true) (exec_bin .eql 3 _ _ _ rfl (.int .i64 ((n : Nat) : Int)) (.int .i64 ((n : Nat) : Int)) (.bool true) (by kernel_rfl) (by kernel_rfl) (by kernel_rfl) (b_eqB _ _ _ (by simp) _)) ?_
  try simp only [pA, pB, p1, p2, p3]
  refine WL.nil ?_
  try simp only [pA, pB, p1, p2, p3]
  go_upto_region 7 with fail
  refine WL.start ?_
  refine tK (.slice a n c) ?_
  try simp only [pA, pB, p1, p2, p3]
  refine tK (.slice (some ⟨vb, 0, none⟩) 1 1) ?_
  try simp only [pA, pB, p1, p2, p3]
  refine wp_runW (.slice a' (n + 1) c') w' (exec_appN _ _ 24 24 rfl _ _ (by kernel_rfl) (by kernel_rfl) HR.out) (by kernel_rfl) ?_
  try simp only [pA, pB, p1, p2, p3]
  refine tK (.slice a' (n + 1) c') ?_
  try simp only [pA, pB, p1, p2, p3]
  refine WL.nil ?_
  try simp only [pA, pB, p1, p2, p3]
  go_wp2
  rw [HC.out]
  exact ⟨⟨a', n + 1, c'⟩, rfl, HO.out, HK.out, fun k h => (HA.out k h).imp id (fun e => by omega)⟩
set_option maxRecDepth 100000 in
set_option maxHeartbeats 4000000 in
theorem insLa_grow (g n c i vb base : Nat) (es : List La) (x : La) (cur : List Value) (w : World) (hlen : es.length = n) (hbg : base ≤ g) (hgx : Box w g 67 cur.toArray) (hnc : n ≤ c) (hcm : c ≤ 9223372036854775807) (hcl : cur.length = c * 7) (htk : cur.take (n * 7) = laL es) (hx : Box w vb 67 x.cells) (hvg : vb ≠ g) (hi : i < n) (hroom : c < n + 1) (hb : (n + 1) * 56 ≤ 140737488355328) (hbase : base ≤ w.heap.size) : Calls Try.prog 42 #[.slice (some ⟨g, 0, none⟩) n c, .int .i64 ((i : Nat) : Int), .slice (some ⟨vb, 0, none⟩) 1 1] w (InsLa w base ⟨some ⟨g, 0, none⟩, n, c⟩ es i x) := by
  obtain ⟨C, hC⟩ : ∃ C : Ending → World → Prop, C = (InsLa w base ⟨some ⟨g, 0, none⟩, n, c⟩ es i x) := ⟨_, rfl⟩
  have HC : Hid (C = (InsLa w base ⟨some ⟨g, 0, none⟩, n, c⟩ es i x)) := hC
  rw [← hC]
  clear hC
  have hAl : (laL (es.take i)).length = i * 7 := by rw [laL_len, List.length_take, hlen]; congr 1; omega
  have hBl : (laL (es.drop i)).length = (n - i) * 7 := by rw [laL_len, List.length_drop, hlen]
  have hcut : laL es = laL (es.take i) ++ laL (es.drop i) := laL_cut es i
  have hcA : cur.take (i * 7) = laL (es.take i) := by
    have := congrArg (List.take (i * 7)) htk
    rw [List.take_take, Nat.min_eq_left (Nat.mul_le_mul_right _ (by omega)), hcut, ← hAl, List.take_left] at this
    rw [← hAl]; exact this
  have hsrc : ∀ j u, (laL (es.drop i))[j]? = some u → cur[i * 7 + j]? = some u := by
    intro j u hj
    have hj2 := (List.getElem?_eq_some_iff.1 hj).1
    have h1 : (laL es)[i * 7 + j]? = some u := by rw [hcut, List.getElem?_append_right (by omega), hAl, Nat.add_sub_cancel_left]; exact hj
    rw [← htk, List.getElem?_take] at h1
    split at h1
    · exact h1
    · cases h1
  have hins : laL (insL es i x) = laL (es.take i) ++ (x.cs ++ laL (es.drop i)) := laL_ins es i x
  have hlen2 : (insL es i x).length = n + 1 := by rw [insL_len _ _ _ (by omega), hlen]
  have hBone := laL_one (es.drop i)
  have HLen : Hid (es.length = n) := hlen
  generalize laL (es.take i) = A at hAl hcut hcA hins
  generalize hBB : laL (es.drop i) = B at hBl hcut hsrc hins hBone
  have HIns : Hid (laL (insL es i x) = A ++ (x.cs ++ B)) := hins
  have HLn2 : Hid ((insL es i x).length = n + 1) := hlen2
  have HAl : Hid (A.length = i * 7) := hAl
  have HBl : Hid (B.length = (n - i) * 7) := hBl
  have HcA : Hid (cur.take (i * 7) = A) := hcA
  have HSrc : Hid (∀ j u, B[j]? = some u → cur[i * 7 + j]? = some u) := hsrc
  have HBone : Hid (∀ v ∈ B, v.oneCell' = true) := hBone
  have HCl : Hid (cur.length = c * 7) := hcl
  have HGX : Hid (Box w g 67 cur.toArray) := hgx
  have HV : Hid (Box w vb 67 x.cells) := hx
  have hgl : g < w.heap.size := hgx.lt
  have hxl : vb < w.heap.size := hx.lt
  clear hAl hcut hcA hins hBl hsrc hlen2 hcl hgx hx htk hlen hBB hBone
  obtain ⟨c2, w2, cur2, hrun, hk2, hbx2, ht2, hl2, hn2, hm2⟩ := run_growZ (w := w) 24 24 67 7 56 (.agg laZ.cells) Try.und23 Try.info64 rfl (by omega) g i c (n + 1 - i) A HAl.out (fun j u hj => by
    have hj2 := (List.getElem?_eq_some_iff.1 hj).1
    rw [Nat.zero_add, HGX.out.cell, List.getElem?_toArray]
    rw [← HcA.out, List.getElem?_take] at hj
    split at hj
    · exact hj
    · cases hj) (by omega) (by omega) (by rw [show i + (n + 1 - i) = n + 1 by omega]; exact hb) (by omega)
  rw [show i + (n + 1 - i) = n + 1 by omega] at hrun hn2
  have HR : Hid _ := hrun
  have HG : Hid (Box w2 w.heap.size 67 cur2.toArray) := hbx2
  have HT2 : Hid (cur2.take (i * 7) = A) := ht2
  have HL2 : Hid (cur2.length = c2 * 7) := hl2
  have HGX : Hid (Box w2 g 67 cur.toArray) := HGX.out.kept hk2 (fun e => e)
  have HV : Hid (Box w2 vb 67 x.cells) := HV.out.kept hk2 (fun e => e)
  have HK : Hid (Kept No w w2) := hk2
  clear hrun hbx2 ht2 hl2 hk2
  obtain ⟨G, hG⟩ : ∃ G, G = w.heap.size := ⟨_, rfl⟩
  rw [← hG] at HR HG
  have HGG : Hid (G = w.heap.size) := hG
  have hGg : g < G ∧ vb < G := by omega
  have hbG : base ≤ G := by omega
  clear hG
  go_enter Try.func42, Try.ntmps42
  go_upto_region 0 with fail
  refine WL.start ?_
  refine tK (.slice none 0 0) ?_
  try simp only [pA, pB, p1, p2, p3]
  refine WL.nil ?_
  try simp only [pA, pB, p1, p2, p3]
  go_upto_region 1 with fail
  refine WL.start ?_
  refine tK (.slice (some ⟨g, 0, none⟩) n c) ?_
  try simp only [pA, pB, p1, p2, p3]
  refine tK (.int .i64 ((i : Nat) : Int)) ?_
  try simp only [pA, pB, p1, p2, p3]
  refine tW (.slice (some ⟨g, 0 + i * 7, none⟩) (n - i) (c - i)) (exec_slL' 24 _ _ rfl 7 Try.und23e Try.size23e g 0 n c i (by kernel_rfl) (by kernel_rfl) (by omega) (by omega)) ?_
  try simp only [pA, pB, p1, p2, p3]
  refine WL.nil ?_
  try simp only [pA, pB, p1, p2, p3]
  go_upto_region 2 with fail
  refine WL.start ?_
  refine tK (.slice (some ⟨vb, 0, none⟩) 1 1) ?_
  try simp only [pA, pB, p1, p2, p3]
  refine tK (.int .i64 ((1 : Nat) : Int)) ?_
  try simp only [pA, pB, p1, p2, p3]
  refine tK (.int .i64 ((1 : Nat) : Int)) ?_
  try simp only [pA, pB, p1, p2, p3]
  refine WL.nil ?_
  try simp only [pA, pB, p1, p2, p3]
  go_upto_region 3 with fail
  refine WL.start ?_
  refine tK (.int .i64 ((1 : Nat) : Int)) ?_
  try simp only [pA, pB, p1, p2, p3]
  refine tW (.bool false) (exec_bin .eql 3 _ _ _ rfl (.int .i64 ((1 : Nat) : Int)) (.int .i64 0) (.bool false) (by kernel_rfl) (by kernel_rfl) (by kernel_rfl) (b_eqB _ _ _ (by decide) _)) ?_
  try simp only [pA, pB, p1, p2, p3]
  refine WL.nil ?_
  try simp only [pA, pB, p1, p2, p3]
  go_upto_region 5 with fail
  refine WL.start ?_
  refine tK (.slice (some ⟨g, 0, none⟩) n c) ?_
  try simp only [pA, pB, p1, p2, p3]
  refine tK (.int .i64 ((n : Nat) : Int)) ?_
  try simp only [pA, pB, p1, p2, p3]
  refine tK (.int .i64 ((n : Nat) : Int)) ?_
  try simp only [pA, pB, p1, p2, p3]
  refine WL.nil ?_
  try simp only [pA, pB, p1, p2, p3]
  go_upto_region 6 with fail
  refine WL.start ?_
  refine tK (.int .i64 ((i : Nat) : Int)) ?_
  try simp only [pA, pB, p1, p2, p3]
  refine tK (.int .i64 ((n : Nat) : Int)) ?_
  try simp only [pA, pB, p1, p2, p3]
  refine tW (.bool false) (exec_bin .eql 3 _ _ _ rfl (.int .i64 ((i : Nat) : Int)) (.int .i64 ((n : Nat) : Int)) (.bool false) (by kernel_rfl) (by kernel_rfl) (by kernel_rfl) (b_eqB _ _ _ (by simp; omega) _)) ?_
  try simp only [pA, pB, p1, p2, p3]
  refine WL.nil ?_
  try simp only [pA, pB, p1, p2, p3]
  go_upto_region 8 with fail
  refine WL.start ?_
  refine tK (.int .i64 ((n : Nat) : Int)) ?_
  try simp only [pA, pB, p1, p2, p3]
  refine tK (.int .i64 ((1 : Nat) : Int)) ?_
  try simp only [pA, pB, p1, p2, p3]
  refine tW (.int .i64 (((n + 1) : Nat) : Int)) (exec_bin .add 3 _ _ _ rfl (.int .i64 ((n : Nat) : Int)) (.int .i64 ((1 : Nat) : Int)) (.int .i64 (((n + 1) : Nat) : Int)) (by kernel_rfl) (by kernel_rfl) (by kernel_rfl) (b_addN n 1 (n + 1) rfl (by omega) _)) ?_
  try simp only [pA, pB, p1, p2, p3]
  refine tK (.slice (some ⟨g, 0, none⟩) n c) ?_
  try simp only [pA, pB, p1, p2, p3]
  refine tK (.int .i64 ((c : Nat) : Int)) ?_
  try simp only [pA, pB, p1, p2, p3]
  refine tW (.bool true) (exec_bin .gtr 3 _ _ _ rfl (.int .i64 (((n + 1) : Nat) : Int)) (.int .i64 ((c : Nat) : Int)) (.bool true) (by kernel_rfl) (by kernel_rfl) (by kernel_rfl) (b_gtB _ _ _ (by simp; omega) _)) ?_
  try simp only [pA, pB, p1, p2, p3]
  refine WL.nil ?_
  try simp only [pA, pB, p1, p2, p3]
  go_upto_region 9 with fail
  refine WL.start ?_
  refine tK (.slice (some ⟨g, 0, none⟩) n c) ?_
  try simp only [pA, pB, p1, p2, p3]
  refine tK (.int .i64 ((i : Nat) : Int)) ?_
  try simp only [pA, pB, p1, p2, p3]
  refine tW (.slice (some ⟨g, 0, none⟩) i c) (exec_slH' 24 _ _ rfl 7 Try.und23e Try.size23e g 0 n c i (by kernel_rfl) (by kernel_rfl) (by omega)) ?_
  try simp only [pA, pB, p1, p2, p3]
  refine tK (.int .i64 ((n : Nat) : Int)) ?_
  try simp only [pA, pB, p1, p2, p3]
  refine tK (.int .i64 ((1 : Nat) : Int)) ?_
  try simp only [pA, pB, p1, p2, p3]
  refine tW (.int .i64 (((n + 1) : Nat) : Int)) (exec_bin .add 3 _ _ _ rfl (.int .i64 ((n : Nat) : Int)) (.int .i64 ((1 : Nat) : Int)) (.int .i64 (((n + 1) : Nat) : Int)) (by kernel_rfl) (by kernel_rfl) (by kernel_rfl) (b_addN n 1 (n + 1) rfl (by omega) _)) ?_
  try simp only [pA, pB, p1, p2, p3]
  refine tK (.int .i64 ((i : Nat) : Int)) ?_
  try simp only [pA, pB, p1, p2, p3]
  refine tW (.int .i64 ((((n + 1) - i) : Nat) : Int)) (exec_bin .sub 3 _ _ _ rfl (.int .i64 (((n + 1) : Nat) : Int)) (.int .i64 ((i : Nat) : Int)) (.int .i64 ((((n + 1) - i) : Nat) : Int)) (by kernel_rfl) (by kernel_rfl) (by kernel_rfl) (b_subN (n + 1) i ((n + 1) - i) (by omega) (by omega) _)) ?_
  try simp only [pA, pB, p1, p2, p3]
  refine wp_runW (.slice (some ⟨G, 0, none⟩) (n + 1) c2) w2 (exec_appN _ _ 24 3 rfl _ _ (by kernel_rfl) (by kernel_rfl) HR.out) (by kernel_rfl) ?_
  try simp only [pA, pB, p1, p2, p3]
  refine tK (.slice (some ⟨G, 0, none⟩) (n + 1) c2) ?_
  try simp only [pA, pB, p1, p2, p3]
  refine WL.nil ?_
  try simp only [pA, pB, p1, p2, p3]
  go_upto_region 10 with fail
  refine WL.start ?_
  refine tK (.slice (some ⟨G, 0, none⟩) (n + 1) c2) ?_
  try simp only [pA, pB, p1, p2, p3]
  refine tK (.int .i64 ((i : Nat) : Int)) ?_
  try simp only [pA, pB, p1, p2, p3]
  refine tW (.slice (some ⟨G, 0 + i * 7, none⟩) ((n + 1) - i) (c2 - i)) (exec_slL' 24 _ _ rfl 7 Try.und23e Try.size23e G 0 (n + 1) c2 i (by kernel_rfl) (by kernel_rfl) (by omega) (by omega)) ?_
  try simp only [pA, pB, p1, p2, p3]
  refine tK (.slice (some ⟨vb, 0, none⟩) 1 1) ?_
  try simp only [pA, pB, p1, p2, p3]
  refine wp_runW (goInt 1) (w2.setRow G (putL cur2 (0 + i * 7) x.cs).toArray) (exec_copy _ _ 24 24 rfl _ _ (by kernel_rfl) (by kernel_rfl) (run_copyN 24 _ 67 7 Try.und23 Try.size64 (off := 0 + i * 7) HG.out ((n + 1) - i) (c2 - i) ⟨vb, 0, none⟩ 1 1 1 (by omega) x.cs rfl (fun j u hj => by rw [addr_add, Nat.zero_add, HV.out.cell]; show x.cs.toArray[j]? = _; rw [List.getElem?_toArray]; exact hj) (by rw [HL2.out]; show 0 + i * 7 + 7 ≤ _; omega) x.oneL)) (by kernel_rfl) ?_
  try simp only [pA, pB, p1, p2, p3]
  have HG : Hid (Box (w2.setRow G (putL cur2 (0 + i * 7) x.cs).toArray) G 67 (putL cur2 (0 + i * 7) x.cs).toArray) := HG.out.setRow _
  have HGX : Hid (Box (w2.setRow G (putL cur2 (0 + i * 7) x.cs).toArray) g 67 cur.toArray) := HGX.out.rowNe (by omega) _
  have HV : Hid (Box (w2.setRow G (putL cur2 (0 + i * 7) x.cs).toArray) vb 67 x.cells) := HV.out.rowNe (by omega) _
  have HK : Hid (Kept No w (w2.setRow G (putL cur2 (0 + i * 7) x.cs).toArray)) := HK.out.newRow (by have := HGG.out; omega) _
  generalize w2.setRow G (putL cur2 (0 + i * 7) x.cs).toArray = wk1 at HG HGX HV HK ⊢
  refine WL.nil ?_
  try simp only [pA, pB, p1, p2, p3]
  go_upto_region 11 with fail
  refine wp_region_held_drew (S := fun w' => True) rfl trivial (fun hH => ?_)
  have HG : Hid (Box (wk1.drew) G 67 (putL cur2 (0 + i * 7) x.cs).toArray) := HG.out
  have HGX : Hid (Box (wk1.drew) g 67 cur.toArray) := HGX.out
  have HV : Hid (Box (wk1.drew) vb 67 x.cells) := HV.out
  have HK : Hid (Kept No w (wk1.drew)) := HK.out.drew
  generalize wk1.drew = wk2 at HG HGX HV HK ⊢
  refine aK (i := 0) (oi := { dst := some 46, op := Op.move (Operand.tmp 9), type := 24, pos := "slices.go:154", after := #[], guard := none }) (v := .slice (some ⟨G, 0, none⟩) (n + 1) c2) hH ?_
  try simp only [pA, pB, p1, p2, p3]
  refine aK (i := 1) (oi := { dst := some 47, op := Op.move (Operand.tmp 1), type := 3, pos := "slices.go:154", after := #[], guard := none }) (v := .int .i64 ((i : Nat) : Int)) hH ?_
  try simp only [pA, pB, p1, p2, p3]
  refine aK (i := 2) (oi := { dst := some 48, op := Op.move (Operand.tmp 7), type := 3, pos := "slices.go:154", after := #[], guard := none }) (v := .int .i64 ((1 : Nat) : Int)) hH ?_
  try simp only [pA, pB, p1, p2, p3]
  refine aT (i := 3) (oi := { dst := some 49, op := Op.binOp BinOp.add 3 (Operand.tmp 47) (Operand.tmp 48) 3, type := 3, pos := "slices.go:154", after := #[{ on := 1, ground := Ground.data }, { on := 2, ground := Ground.data }], guard := none }) (v := .int .i64 (((i + 1) : Nat) : Int)) (fun w' hw => exec_bin .add 3 _ _ _ rfl (.int .i64 ((i : Nat) : Int)) (.int .i64 ((1 : Nat) : Int)) (.int .i64 (((i + 1) : Nat) : Int)) (by kernel_rfl) (by kernel_rfl) (by kernel_rfl) (b_addN i 1 (i + 1) rfl (by omega) _)) hH ?_
  try simp only [pA, pB, p1, p2, p3]
  refine aT (i := 4) (oi := { dst := some 50, op := Op.slice 24 (Operand.tmp 46) (some (Operand.tmp 49)) none none, type := 24, pos := "slices.go:154", after := #[{ on := 0, ground := Ground.data }, { on := 3, ground := Ground.data }], guard := none }) (v := .slice (some ⟨G, 0 + (i + 1) * 7, none⟩) ((n + 1) - (i + 1)) (c2 - (i + 1))) (fun w' hw => exec_slL' 24 _ _ rfl 7 Try.und23e Try.size23e G 0 (n + 1) c2 (i + 1) (by kernel_rfl) (by kernel_rfl) (by omega) (by omega)) hH ?_
  try simp only [pA, pB, p1, p2, p3]
  refine aK (i := 5) (oi := { dst := some 51, op := Op.move (Operand.tmp 0), type := 24, pos := "slices.go:154", after := #[], guard := none }) (v := .slice (some ⟨g, 0, none⟩) n c) hH ?_
  try simp only [pA, pB, p1, p2, p3]
  refine aK (i := 6) (oi := { dst := some 52, op := Op.move (Operand.tmp 1), type := 3, pos := "slices.go:154", after := #[], guard := none }) (v := .int .i64 ((i : Nat) : Int)) hH ?_
  try simp only [pA, pB, p1, p2, p3]
  refine aT (i := 7) (oi := { dst := some 53, op := Op.slice 24 (Operand.tmp 51) (some (Operand.tmp 52)) none none, type := 24, pos := "slices.go:154", after := #[{ on := 5, ground := Ground.data }, { on := 6, ground := Ground.data }], guard := none }) (v := .slice (some ⟨g, 0 + i * 7, none⟩) (n - i) (c - i)) (fun w' hw => exec_slL' 24 _ _ rfl 7 Try.und23e Try.size23e g 0 n c i (by kernel_rfl) (by kernel_rfl) (by omega) (by omega)) hH ?_
  try simp only [pA, pB, p1, p2, p3]
  refine any_step (i := 8) (o := { dst := some 54, op := Op.call { callee := Callee.builtin Builtin.copy, args := #[Operand.tmp 50, Operand.tmp 53], argTypes := #[24, 24] }, type := 3, pos := "slices.go:154", after := #[{ on := 4, ground := Ground.data }, { on := 7, ground := Ground.data }], guard := none }) (w' := wk2.setRow G (putL (putL cur2 (0 + i * 7) x.cs) (0 + (i + 1) * 7) B).toArray) (v := goInt ((n - i : Nat) : Int)) rfl (by kernel_rfl) (by kernel_rfl) (exec_copy _ _ 24 24 rfl _ _ (by kernel_rfl) (by kernel_rfl) (run_copyN 24 _ 67 7 Try.und23 Try.size64 (off := 0 + (i + 1) * 7) HG.out ((n + 1) - (i + 1)) (c2 - (i + 1)) ⟨g, 0 + i * 7, none⟩ (n - i) (c - i) (n - i) (by omega) B HBl.out (fun j u hj => by rw [addr_add, HGX.out.cell, List.getElem?_toArray, Nat.zero_add]; exact HSrc.out j u hj) (by rw [putL_len (by rw [HL2.out]; show 0 + i * 7 + 7 ≤ _; omega), HL2.out, HBl.out]; omega) HBone.out)) trivial (fun hH => ?_)
  try simp only [pA, pB, p1, p2, p3]
  have HO : Hid (OwL (wk2.setRow G (putL (putL cur2 (0 + i * 7) x.cs) (0 + (i + 1) * 7) B).toArray) base ⟨some ⟨G, 0, none⟩, n + 1, c2⟩ (insL es i x)) := by
    refine ⟨Own.shut (cur := putL (putL cur2 (0 + i * 7) x.cs) (0 + (i + 1) * 7) B) hbG (HG.out.setRow _) hn2 hm2 ?_ ?_, HLn2.out⟩
    · have h2 : (putL cur2 (0 + i * 7) x.cs).length = c2 * 7 := by rw [putL_len (by rw [HL2.out]; show 0 + i * 7 + 7 ≤ _; omega), HL2.out]
      rw [putL_len (by rw [h2, HBl.out]; omega), h2]
    · rw [HIns.out]
      have h1 := ins_grow cur2 A x.cs B 7 rfl (by rw [HL2.out, HAl.out, HBl.out]; omega) (by rw [HAl.out]; exact HT2.out)
      rw [HAl.out, HBl.out, show i * 7 + 7 + (n - i) * 7 = (n + 1) * 7 by omega] at h1
      rw [Nat.zero_add, Nat.zero_add, show (i + 1) * 7 = i * 7 + 7 by omega]
      exact h1
  have HK : Hid (Kept No w (wk2.setRow G (putL (putL cur2 (0 + i * 7) x.cs) (0 + (i + 1) * 7) B).toArray)) := HK.out.newRow (by have := HGG.out; omega) _
  generalize wk2.setRow G (putL (putL cur2 (0 + i * 7) x.cs) (0 + (i + 1) * 7) B).toArray = wk3 at HO HK ⊢
  refine wpAnyH_done (by kernel_rfl) ?_ _
  try simp only [pA, pB, p1, p2, p3]
  clear hH
  go_upto_region 12 with fail
  refine WL.start ?_
  refine tK (.slice (some ⟨G, 0, none⟩) (n + 1) c2) ?_
  try simp only [pA, pB, p1, p2, p3]
  refine tK (.slice (some ⟨G, 0, none⟩) (n + 1) c2) ?_
  try simp only [pA, pB, p1, p2, p3]
  refine WL.nil ?_
  try simp only [pA, pB, p1, p2, p3]
  go_wp2
  rw [HC.out]
  exact ⟨⟨some ⟨G, 0, none⟩, n + 1, c2⟩, rfl, HO.out, HK.out.of_no, fun k h => .inr (by obtain ⟨ad, e, rfl⟩ := h; cases e; have := HGG.out; show _ ≤ G; omega)⟩
set_option maxRecDepth 100000 in
set_option maxHeartbeats 4000000 in
theorem insLa_room (g n c i vb base : Nat) (es : List La) (x : La) (cur : List Value) (w : World) (hlen : es.length = n) (hbg : base ≤ g) (hgx : Box w g 67 cur.toArray) (hnc : n ≤ c) (hcm : c ≤ 9223372036854775807) (hcl : cur.length = c * 7) (htk : cur.take (n * 7) = laL es) (hx : Box w vb 67 x.cells) (hvg : vb ≠ g) (hi : i < n) (hroom : n + 1 ≤ c) (hb : (n + 1) * 56 ≤ 140737488355328) (hbase : base ≤ w.heap.size) : Calls Try.prog 42 #[.slice (some ⟨g, 0, none⟩) n c, .int .i64 ((i : Nat) : Int), .slice (some ⟨vb, 0, none⟩) 1 1] w (InsLa w base ⟨some ⟨g, 0, none⟩, n, c⟩ es i x) := by
  obtain ⟨C, hC⟩ : ∃ C : Ending → World → Prop, C = (InsLa w base ⟨some ⟨g, 0, none⟩, n, c⟩ es i x) := ⟨_, rfl⟩
  have HC : Hid (C = (InsLa w base ⟨some ⟨g, 0, none⟩, n, c⟩ es i x)) := hC
  rw [← hC]
  clear hC
  have hAl : (laL (es.take i)).length = i * 7 := by rw [laL_len, List.length_take, hlen]; congr 1; omega
  have hBl : (laL (es.drop i)).length = (n - i) * 7 := by rw [laL_len, List.length_drop, hlen]
  have hcut : laL es = laL (es.take i) ++ laL (es.drop i) := laL_cut es i
  have hcA : cur.take (i * 7) = laL (es.take i) := by
    have := congrArg (List.take (i * 7)) htk
    rw [List.take_take, Nat.min_eq_left (Nat.mul_le_mul_right _ (by omega)), hcut, ← hAl, List.take_left] at this
    rw [← hAl]; exact this
  have hsrc : ∀ j u, (laL (es.drop i))[j]? = some u → cur[i * 7 + j]? = some u := by
    intro j u hj
    have hj2 := (List.getElem?_eq_some_iff.1 hj).1
    have h1 : (laL es)[i * 7 + j]? = some u := by rw [hcut, List.getElem?_append_right (by omega), hAl, Nat.add_sub_cancel_left]; exact hj
    rw [← htk, List.getElem?_take] at h1
    split at h1
    · exact h1
    · cases h1
  have hins : laL (insL es i x) = laL (es.take i) ++ (x.cs ++ laL (es.drop i)) := laL_ins es i x
  have hlen2 : (insL es i x).length = n + 1 := by rw [insL_len _ _ _ (by omega), hlen]
  have hBone := laL_one (es.drop i)
  have HLen : Hid (es.length = n) := hlen
  generalize laL (es.take i) = A at hAl hcut hcA hins
  generalize hBB : laL (es.drop i) = B at hBl hcut hsrc hins hBone
  have HIns : Hid (laL (insL es i x) = A ++ (x.cs ++ B)) := hins
  have HLn2 : Hid ((insL es i x).length = n + 1) := hlen2
  have HAl : Hid (A.length = i * 7) := hAl
  have HBl : Hid (B.length = (n - i) * 7) := hBl
  have HcA : Hid (cur.take (i * 7) = A) := hcA
  have HSrc : Hid (∀ j u, B[j]? = some u → cur[i * 7 + j]? = some u) := hsrc
  have HBone : Hid (∀ v ∈ B, v.oneCell' = true) := hBone
  have HCl : Hid (cur.length = c * 7) := hcl
  have HGX : Hid (Box w g 67 cur.toArray) := hgx
  have HV : Hid (Box w vb 67 x.cells) := hx
  have hgl : g < w.heap.size := hgx.lt
  have hxl : vb < w.heap.size := hx.lt
  clear hAl hcut hcA hins hBl hsrc hlen2 hcl hgx hx htk hlen hBB hBone
  have HK : Hid (Kept (At (some ⟨g, 0, none⟩)) w w) := Kept.refl _ _
  go_enter Try.func42, Try.ntmps42
  go_upto_region 0 with fail
  refine WL.start ?_
  refine tK (.slice none 0 0) ?_
  try simp only [pA, pB, p1, p2, p3]
  refine WL.nil ?_
  try simp only [pA, pB, p1, p2, p3]
  go_upto_region 1 with fail
  refine WL.start ?_
  refine tK (.slice (some ⟨g, 0, none⟩) n c) ?_
  try simp only [pA, pB, p1, p2, p3]
  refine tK (.int .i64 ((i : Nat) : Int)) ?_
  try simp only [pA, pB, p1, p2, p3]
  refine tW (.slice (some ⟨g, 0 + i * 7, none⟩) (n - i) (c - i)) (exec_slL' 24 _ _ rfl 7 Try.und23e Try.size23e g 0 n c i (by kernel_rfl) (by kernel_rfl) (by omega) (by omega)) ?_
  try simp only [pA, pB, p1, p2, p3]
  refine WL.nil ?_
  try simp only [pA, pB, p1, p2, p3]
  go_upto_region 2 with fail
  refine WL.start ?_
  refine tK (.slice (some ⟨vb, 0, none⟩) 1 1) ?_
  try simp only [pA, pB, p1, p2, p3]
  refine tK (.int .i64 ((1 : Nat) : Int)) ?_
  try simp only [pA, pB, p1, p2, p3]
  refine tK (.int .i64 ((1 : Nat) : Int)) ?_
  try simp only [pA, pB, p1, p2, p3]
  refine WL.nil ?_
  try simp only [pA, pB, p1, p2, p3]
  go_upto_region 3 with fail
  refine WL.start ?_
  refine tK (.int .i64 ((1 : Nat) : Int)) ?_
  try simp only [pA, pB, p1, p2, p3]
  refine tW (.bool false) (exec_bin .eql 3 _ _ _ rfl (.int .i64 ((1 : Nat) : Int)) (.int .i64 0) (.bool false) (by kernel_rfl) (by kernel_rfl) (by kernel_rfl) (b_eqB _ _ _ (by decide) _)) ?_
  try simp only [pA, pB, p1, p2, p3]
  refine WL.nil ?_
  try simp only [pA, pB, p1, p2, p3]
  go_upto_region 5 with fail
  refine WL.start ?_
  refine tK (.slice (some ⟨g, 0, none⟩) n c) ?_
  try simp only [pA, pB, p1, p2, p3]
  refine tK (.int .i64 ((n : Nat) : Int)) ?_
  try simp only [pA, pB, p1, p2, p3]
  refine tK (.int .i64 ((n : Nat) : Int)) ?_
  try simp only [pA, pB, p1, p2, p3]
  refine WL.nil ?_
  try simp only [pA, pB, p1, p2, p3]
  go_upto_region 6 with fail
  refine WL.start ?_
  refine tK (.int .i64 ((i : Nat) : Int)) ?_
  try simp only [pA, pB, p1, p2, p3]
  refine tK (.int .i64 ((n : Nat) : Int)) ?_
  try simp only [pA, pB, p1, p2, p3]
  refine tW (.bool false) (exec_bin .eql 3 _ _ _ rfl (.int .i64 ((i : Nat) : Int)) (.int .i64 ((n : Nat) : Int)) (.bool false) (by kernel_rfl) (by kernel_rfl) (by kernel_rfl) (b_eqB _ _ _ (by simp; omega) _)) ?_
  try simp only [pA, pB, p1, p2, p3]
  refine WL.nil ?_
  try simp only [pA, pB, p1, p2, p3]
  go_upto_region 8 with fail
  refine WL.start ?_
  refine tK (.int .i64 ((n : Nat) : Int)) ?_
  try simp only [pA, pB, p1, p2, p3]
  refine tK (.int .i64 ((1 : Nat) : Int)) ?_
  try simp only [pA, pB, p1, p2, p3]
  refine tW (.int .i64 (((n + 1) : Nat) : Int)) (exec_bin .add 3 _ _ _ rfl (.int .i64 ((n : Nat) : Int)) (.int .i64 ((1 : Nat) : Int)) (.int .i64 (((n + 1) : Nat) : Int)) (by kernel_rfl) (by kernel_rfl) (by kernel_rfl) (b_addN n 1 (n + 1) rfl (by omega) _)) ?_
  try simp only [pA, pB, p1, p2, p3]
  refine tK (.slice (some ⟨g, 0, none⟩) n c) ?_
  try simp only [pA, pB, p1, p2, p3]
  refine tK (.int .i64 ((c : Nat) : Int)) ?_
  try simp only [pA, pB, p1, p2, p3]
  refine tW (.bool false) (exec_bin .gtr 3 _ _ _ rfl (.int .i64 (((n + 1) : Nat) : Int)) (.int .i64 ((c : Nat) : Int)) (.bool false) (by kernel_rfl) (by kernel_rfl) (by kernel_rfl) (b_gtB _ _ _ (by simp; omega) _)) ?_
  try simp only [pA, pB, p1, p2, p3]
  refine WL.nil ?_
  try simp only [pA, pB, p1, p2, p3]
  go_upto_region 13 with fail
  refine WL.start ?_
  refine tK (.slice (some ⟨g, 0, none⟩) n c) ?_
  try simp only [pA, pB, p1, p2, p3]
  refine tK (.int .i64 ((n : Nat) : Int)) ?_
  try simp only [pA, pB, p1, p2, p3]
  refine tK (.int .i64 ((1 : Nat) : Int)) ?_
  try simp only [pA, pB, p1, p2, p3]
  refine tW (.int .i64 (((n + 1) : Nat) : Int)) (exec_bin .add 3 _ _ _ rfl (.int .i64 ((n : Nat) : Int)) (.int .i64 ((1 : Nat) : Int)) (.int .i64 (((n + 1) : Nat) : Int)) (by kernel_rfl) (by kernel_rfl) (by kernel_rfl) (b_addN n 1 (n + 1) rfl (by omega) _)) ?_
  try simp only [pA, pB, p1, p2, p3]
  refine tW (.slice (some ⟨g, 0, none⟩) (n + 1) c) (exec_slH' 24 _ _ rfl 7 Try.und23e Try.size23e g 0 n c (n + 1) (by kernel_rfl) (by kernel_rfl) (by omega)) ?_
  try simp only [pA, pB, p1, p2, p3]
  refine tK (.slice (some ⟨g, 0, none⟩) (n + 1) c) ?_
  try simp only [pA, pB, p1, p2, p3]
  refine WL.nil ?_
  try simp only [pA, pB, p1, p2, p3]
  go_upto_region 14 with fail
  refine WL.start ?_
  refine tK (.slice (some ⟨vb, 0, none⟩) 1 1) ?_
  try simp only [pA, pB, p1, p2, p3]
  refine tK (.slice (some ⟨g, 0, none⟩) (n + 1) c) ?_
  try simp only [pA, pB, p1, p2, p3]
  refine tK (.int .i64 ((i : Nat) : Int)) ?_
  try simp only [pA, pB, p1, p2, p3]
  refine tK (.int .i64 ((1 : Nat) : Int)) ?_
  try simp only [pA, pB, p1, p2, p3]
  refine tW (.int .i64 (((i + 1) : Nat) : Int)) (exec_bin .add 3 _ _ _ rfl (.int .i64 ((i : Nat) : Int)) (.int .i64 ((1 : Nat) : Int)) (.int .i64 (((i + 1) : Nat) : Int)) (by kernel_rfl) (by kernel_rfl) (by kernel_rfl) (b_addN i 1 (i + 1) rfl (by omega) _)) ?_
  try simp only [pA, pB, p1, p2, p3]
  refine tW (.slice (some ⟨g, 0 + (i + 1) * 7, none⟩) ((n + 1) - (i + 1)) (c - (i + 1))) (exec_slL' 24 _ _ rfl 7 Try.und23e Try.size23e g 0 (n + 1) c (i + 1) (by kernel_rfl) (by kernel_rfl) (by omega) (by omega)) ?_
  try simp only [pA, pB, p1, p2, p3]
  refine wp_takeW (.bool false) (exec_callX 48 #[.slice (some ⟨vb, 0, none⟩) 1 1, .slice (some ⟨g, 0 + (i + 1) * 7, none⟩) ((n + 1) - (i + 1)) (c - (i + 1))] (by kernel_rfl) (by
      rw [run_callFunc_extern Try.func48 (by kernel_rfl) (by kernel_rfl) (by kernel_rfl) (e := Extern.SlicesOverlaps.overlaps #[24, 24] #[4]) (by kernel_rfl), Lib.run_overlaps_apart _ 24 4 67 Try.und23 7 (size_of Try.size64) ⟨vb, 0, none⟩ ⟨g, 0 + (i + 1) * 7, none⟩ 1 1 (n + 1 - (i + 1)) (c - (i + 1)) hvg 67 67 7 cur.toArray.size (shape_box HV.out) (shape_box HGX.out) (by rw [List.size_toArray, HCl.out]; omega) (HV.out.frozen 0) (HV.out.frozen _)]
      rfl)) (by kernel_rfl) ?_
  try simp only [pA, pB, p1, p2, p3]
  refine tK (.bool true) ?_
  try simp only [pA, pB, p1, p2, p3]
  refine WL.nil ?_
  try simp only [pA, pB, p1, p2, p3]
  go_upto_region 15 with fail
  refine wp_region_held_drew (S := fun w' => True) rfl trivial (fun hH => ?_)
  have HGX : Hid (Box (w.drew) g 67 cur.toArray) := HGX.out
  have HV : Hid (Box (w.drew) vb 67 x.cells) := HV.out
  have HK : Hid (Kept (At (some ⟨g, 0, none⟩)) w (w.drew)) := HK.out.drew
  generalize w.drew = wk1 at HGX HV HK ⊢
  refine aK (i := 0) (oi := { dst := some 69, op := Op.move (Operand.tmp 0), type := 24, pos := "slices.go:178", after := #[], guard := none }) (v := .slice (some ⟨g, 0, none⟩) (n + 1) c) hH ?_
  try simp only [pA, pB, p1, p2, p3]
  refine aK (i := 1) (oi := { dst := some 70, op := Op.move (Operand.tmp 1), type := 3, pos := "slices.go:178", after := #[], guard := none }) (v := .int .i64 ((i : Nat) : Int)) hH ?_
  try simp only [pA, pB, p1, p2, p3]
  refine aK (i := 2) (oi := { dst := some 71, op := Op.move (Operand.tmp 7), type := 3, pos := "slices.go:178", after := #[], guard := none }) (v := .int .i64 ((1 : Nat) : Int)) hH ?_
  try simp only [pA, pB, p1, p2, p3]
  refine aT (i := 3) (oi := { dst := some 72, op := Op.binOp BinOp.add 3 (Operand.tmp 70) (Operand.tmp 71) 3, type := 3, pos := "slices.go:178", after := #[{ on := 1, ground := Ground.data }, { on := 2, ground := Ground.data }], guard := none }) (v := .int .i64 (((i + 1) : Nat) : Int)) (fun w' hw => exec_bin .add 3 _ _ _ rfl (.int .i64 ((i : Nat) : Int)) (.int .i64 ((1 : Nat) : Int)) (.int .i64 (((i + 1) : Nat) : Int)) (by kernel_rfl) (by kernel_rfl) (by kernel_rfl) (b_addN i 1 (i + 1) rfl (by omega) _)) hH ?_
  try simp only [pA, pB, p1, p2, p3]
  refine aT (i := 4) (oi := { dst := some 73, op := Op.slice 24 (Operand.tmp 69) (some (Operand.tmp 72)) none none, type := 24, pos := "slices.go:178", after := #[{ on := 0, ground := Ground.data }, { on := 3, ground := Ground.data }], guard := none }) (v := .slice (some ⟨g, 0 + (i + 1) * 7, none⟩) ((n + 1) - (i + 1)) (c - (i + 1))) (fun w' hw => exec_slL' 24 _ _ rfl 7 Try.und23e Try.size23e g 0 (n + 1) c (i + 1) (by kernel_rfl) (by kernel_rfl) (by omega) (by omega)) hH ?_
  try simp only [pA, pB, p1, p2, p3]
  refine aK (i := 5) (oi := { dst := some 74, op := Op.move (Operand.tmp 0), type := 24, pos := "slices.go:178", after := #[], guard := none }) (v := .slice (some ⟨g, 0, none⟩) (n + 1) c) hH ?_
  try simp only [pA, pB, p1, p2, p3]
  refine aK (i := 6) (oi := { dst := some 75, op := Op.move (Operand.tmp 1), type := 3, pos := "slices.go:178", after := #[], guard := none }) (v := .int .i64 ((i : Nat) : Int)) hH ?_
  try simp only [pA, pB, p1, p2, p3]
  refine aT (i := 7) (oi := { dst := some 76, op := Op.slice 24 (Operand.tmp 74) (some (Operand.tmp 75)) none none, type := 24, pos := "slices.go:178", after := #[{ on := 5, ground := Ground.data }, { on := 6, ground := Ground.data }], guard := none }) (v := .slice (some ⟨g, 0 + i * 7, none⟩) ((n + 1) - i) (c - i)) (fun w' hw => exec_slL' 24 _ _ rfl 7 Try.und23e Try.size23e g 0 (n + 1) c i (by kernel_rfl) (by kernel_rfl) (by omega) (by omega)) hH ?_
  try simp only [pA, pB, p1, p2, p3]
  refine any_step (i := 8) (o := { dst := some 77, op := Op.call { callee := Callee.builtin Builtin.copy, args := #[Operand.tmp 73, Operand.tmp 76], argTypes := #[24, 24] }, type := 3, pos := "slices.go:178", after := #[{ on := 4, ground := Ground.data }, { on := 7, ground := Ground.data }], guard := none }) (w' := wk1.setRow g (putL cur (0 + (i + 1) * 7) B).toArray) (v := goInt ((n - i : Nat) : Int)) rfl (by kernel_rfl) (by kernel_rfl) (exec_copy _ _ 24 24 rfl _ _ (by kernel_rfl) (by kernel_rfl) (run_copyN 24 _ 67 7 Try.und23 Try.size64 (off := 0 + (i + 1) * 7) HGX.out ((n + 1) - (i + 1)) (c - (i + 1)) ⟨g, 0 + i * 7, none⟩ (n + 1 - i) (c - i) (n - i) (by omega) B HBl.out (fun j u hj => by rw [addr_add, HGX.out.cell, List.getElem?_toArray, Nat.zero_add]; exact HSrc.out j u hj) (by rw [HCl.out, HBl.out]; omega) HBone.out)) trivial (fun hH => ?_)
  try simp only [pA, pB, p1, p2, p3]
  have HGX : Hid (Box (wk1.setRow g (putL cur (0 + (i + 1) * 7) B).toArray) g 67 (putL cur (0 + (i + 1) * 7) B).toArray) := HGX.out.setRow _
  have HV : Hid (Box (wk1.setRow g (putL cur (0 + (i + 1) * 7) B).toArray) vb 67 x.cells) := HV.out.rowNe hvg _
  have HK : Hid (Kept (At (some ⟨g, 0, none⟩)) w (wk1.setRow g (putL cur (0 + (i + 1) * 7) B).toArray)) := HK.out.inRow ⟨_, rfl, rfl⟩ _
  generalize wk1.setRow g (putL cur (0 + (i + 1) * 7) B).toArray = wk2 at HGX HV HK ⊢
  refine wpAnyH_done (by kernel_rfl) ?_ _
  try simp only [pA, pB, p1, p2, p3]
  clear hH
  go_upto_region 16 with fail
  refine WL.start ?_
  refine tK (.slice (some ⟨g, 0, none⟩) (n + 1) c) ?_
  try simp only [pA, pB, p1, p2, p3]
  refine tK (.int .i64 ((i : Nat) : Int)) ?_
  try simp only [pA, pB, p1, p2, p3]
  refine tW (.slice (some ⟨g, 0 + i * 7, none⟩) ((n + 1) - i) (c - i)) (exec_slL' 24 _ _ rfl 7 Try.und23e Try.size23e g 0 (n + 1) c i (by kernel_rfl) (by kernel_rfl) (by omega) (by omega)) ?_
  try simp only [pA, pB, p1, p2, p3]
  refine tK (.slice (some ⟨vb, 0, none⟩) 1 1) ?_
  try simp only [pA, pB, p1, p2, p3]
  have HPL : Hid ((putL cur (0 + (i + 1) * 7) B).length = c * 7) := by
    show _ = _
    rw [putL_len (by rw [HCl.out, HBl.out]; omega), HCl.out]
  refine wp_runW (goInt 1) (wk2.setRow g (putL (putL cur (0 + (i + 1) * 7) B) (0 + i * 7) x.cs).toArray) (exec_copy _ _ 24 24 rfl _ _ (by kernel_rfl) (by kernel_rfl) (run_copyN 24 _ 67 7 Try.und23 Try.size64 (off := 0 + i * 7) HGX.out ((n + 1) - i) (c - i) ⟨vb, 0, none⟩ 1 1 1 (by omega) x.cs rfl (fun j u hj => by rw [addr_add, Nat.zero_add, HV.out.cell]; show x.cs.toArray[j]? = _; rw [List.getElem?_toArray]; exact hj) (by rw [HPL.out]; show 0 + i * 7 + 7 ≤ _; omega) x.oneL)) (by kernel_rfl) ?_
  try simp only [pA, pB, p1, p2, p3]
  have HO : Hid (OwL (wk2.setRow g (putL (putL cur (0 + (i + 1) * 7) B) (0 + i * 7) x.cs).toArray) base ⟨some ⟨g, 0, none⟩, n + 1, c⟩ (insL es i x)) := by
    refine ⟨Own.shut (cur := putL (putL cur (0 + (i + 1) * 7) B) (0 + i * 7) x.cs) hbg (HGX.out.setRow _) hroom hcm ?_ ?_, HLn2.out⟩
    · rw [putL_len (by rw [HPL.out]; show 0 + i * 7 + 7 ≤ _; omega), HPL.out]
    · rw [HIns.out]
      have h1 := ins_room cur A x.cs B 7 rfl (by rw [HCl.out, HAl.out, HBl.out]; omega) (by rw [HAl.out]; exact HcA.out)
      rw [HAl.out, HBl.out, show i * 7 + 7 + (n - i) * 7 = (n + 1) * 7 by omega] at h1
      rw [Nat.zero_add, Nat.zero_add, show (i + 1) * 7 = i * 7 + 7 by omega]
      exact h1
  have HK : Hid (Kept (At (some ⟨g, 0, none⟩)) w (wk2.setRow g (putL (putL cur (0 + (i + 1) * 7) B) (0 + i * 7) x.cs).toArray)) := HK.out.inRow ⟨_, rfl, rfl⟩ _
  generalize wk2.setRow g (putL (putL cur (0 + (i + 1) * 7) B) (0 + i * 7) x.cs).toArray = wk3 at HO HK ⊢
  refine WL.nil ?_
  try simp only [pA, pB, p1, p2, p3]
  go_upto_region 17 with fail
  refine WL.start ?_
  refine tK (.slice (some ⟨g, 0, none⟩) (n + 1) c) ?_
  try simp only [pA, pB, p1, p2, p3]
  refine tK (.slice (some ⟨g, 0, none⟩) (n + 1) c) ?_
  try simp only [pA, pB, p1, p2, p3]
  refine WL.nil ?_
  try simp only [pA, pB, p1, p2, p3]
  go_wp2
  rw [HC.out]
  exact ⟨⟨some ⟨g, 0, none⟩, n + 1, c⟩, rfl, HO.out, HK.out, fun k h => .inl h⟩
theorem insLa_any (a : Option Addr) (n c i vb base : Nat) (es : List La) (x : La) (w : World) (ho : OwL w base ⟨a, n, c⟩ es) (hx : Box w vb 67 x.cells) (hv : ¬ At a vb) (hi : i ≤ n) (hb : (n + 1) * 56 ≤ 140737488355328) (hbase : base ≤ w.heap.size) :
    Calls Try.prog 42 #[.slice a n c, .int .i64 ((i : Nat) : Int), .slice (some ⟨vb, 0, none⟩) 1 1] w (InsLa w base ⟨a, n, c⟩ es i x) := by
  by_cases hin : i = n
  · subst hin
    exact insLa_end a i c vb base es x w ho hx hb hbase
  · obtain ⟨g, cur, rfl, h1, h2, h3, h4, h5, h6⟩ := Own.op ho.own (show 0 < n by omega)
    have hvg : vb ≠ g := fun e => hv ⟨_, rfl, e.symm⟩
    by_cases hr : n + 1 ≤ c
    · exact insLa_room g n c i vb base es x cur w ho.len h1 h2 h3 h4 h5 h6 hx hvg (by omega) hr hb hbase
    · exact insLa_grow g n c i vb base es x cur w ho.len h1 h2 h3 h4 h5 h6 hx hvg (by omega) (by omega) hb hbase

end Go.Proofs.Ytfemlnfknebalab
