import Derived.Test.YtfemlnfknebalabN
import Derived.Deep.Slices
namespace Go.Proofs.Ytfemlnfknebalab
open Go.RowKit
set_option linter.unusedVariables false
set_option linter.unusedSimpArgs false

def namesS (es : List En) (n : ByteArray) : List En := (es.drop (eIx es n)).takeWhile (fun e => hasP e.nm n)
theorem takeWhile_take {α : Type} (p : α → Bool) : ∀ (l : List α) (k : Nat), k ≤ l.length → (∀ i x, i < k → l[i]? = some x → p x = true) → (∀ x, l[k]? = some x → p x = false) → l.takeWhile p = l.take k
  | [], k, hk, _, _ => by simp
  | x :: l, 0, _, _, h => by
    have := h x rfl
    simp [this]
  | x :: l, k + 1, hk, h1, h2 => by
    have hx := h1 0 x (by omega) rfl
    rw [List.takeWhile_cons_of_pos hx, List.take_succ_cons, takeWhile_take p l k (by simpa using hk) (fun i y hi hy => h1 (i + 1) y (by omega) hy) (fun y hy => h2 y hy)]
theorem names_take {es : List En} {n : ByteArray} {to : Nat} (h0 : eIx es n ≤ to) (h1 : to ≤ es.length) (hp : ∀ i, eIx es n ≤ i → i < to → hasP (eAt es i).nm n = true) (hq : to < es.length → hasP (eAt es to).nm n = false) : namesS es n = (es.take to).drop (eIx es n) := by
  unfold namesS
  rw [takeWhile_take _ _ (to - eIx es n) (by simp; omega), List.drop_take]
  · intro i x hi hx
    rw [List.getElem?_drop] at hx
    have hl := (List.getElem?_eq_some_iff.1 hx).1
    have := hp (eIx es n + i) (by omega) (by omega)
    rw [eAt_some hl] at hx
    cases hx
    exact this
  · intro x hx
    rw [List.getElem?_drop, show eIx es n + (to - eIx es n) = to by omega] at hx
    have hl := (List.getElem?_eq_some_iff.1 hx).1
    have := hq hl
    rw [eAt_some hl] at hx
    cases hx
    exact this
theorem exec_alloc1 {o : Oper} {a : Act} {w : World} (t : TypeId) (ho : o.op = .alloc t) (v : Value) (hv : v.cells = #[v]) (hz : (Try.prog.info? t).bind (·.zero) = some v) : (execOp a.eval o).run Try.prog w = .ok (.value (.pointer (some ⟨w.heap.size, 0, none⟩))) (w.alloc (.cells #[v] t)) := by
  simp only [execOp, ho, Instr.alloc, Sem.run_bind, zero_of hz, Result.andThen_ok, newVar, newRow, run_newObj_alloc, Sem.run_pure, hv]
theorem st22 {w : World} {g : Nat} {cur x : Value} (h : Box w g 23 #[cur]) (hx : x.cells = #[x]) (h1 : x.oneCell' = true) : (storeVar 23 ⟨g, 0, none⟩ x).run Try.prog w = .ok () (w.setRow g #[x]) :=
  run_store_at (cur := [cur]) (vs := [x]) h (by rw [hx]) Try.size22 (by simp) (by simpa using h1)
/-- A sequence of entries in memory: the box that its function holds, the row behind it. -/
structure SeqAt (W : World) (lb : Nat) (a : Option Addr) (cap : Nat) (ps : List En) : Prop where
  box : Box W lb 23 #[.slice a ps.length cap]
  row : Own 34 4 W 0 a cap ps.length (enL ps)
def NamOut (w : World) (es : List En) (n : ByteArray) (e : Ending) (w' : World) : Prop :=
  ∃ lb sa sc, e = .returned (.func (.func 30) #[] #[.pointer (some ⟨lb, 0, none⟩)]) ∧ SeqAt w' lb sa sc (namesS es n) ∧ w.heap.size ≤ lb ∧ (∀ k, At sa k → w.heap.size ≤ k) ∧ Kept No w w'
theorem Part.cut {a b : List Value} {k : Nat} (h : b = a.drop k) : Part a k b := fun j v hv => by subst h; rwa [List.getElem?_drop] at hv
set_option maxRecDepth 100000 in
set_option maxHeartbeats 4000000 in
theorem names_any (up : Int) (a : Option Addr) (m cap : Nat) (sl : Sl) (es : List En) (n : ByteArray) (w : World) (hm : es.length = m) (hb : m * 40 ≤ 140737488355328) (hr : RdE w ⟨a, m, cap⟩ es) (hmc : m ≤ cap) : Calls Try.prog 17 #[.agg (Bv.cells ⟨up, ⟨a, m, cap⟩, sl⟩), .string n] w (NamOut w es n) := by
  obtain ⟨C, hC⟩ : ∃ C : Ending → World → Prop, C = (NamOut w es n) := ⟨_, rfl⟩
  have HC : Hid (C = (NamOut w es n)) := hC
  rw [← hC]
  clear hC
  have HX : Hid (∀ W, Kept No w W → Calls Try.prog 28 #[.slice a m cap, .string n] W (fun e w' => e = .returned (.tuple #[.int .i64 (eIx es n : Nat), .bool (eIs es n)]) ∧ Kept No W w')) := fun W hk => entryAt_any a m cap es n W hm (by omega) (RowsAt.no hr.row hk)
  have HM : Hid (es.length = m) := hm
  have HR : Hid (RdE w ⟨a, m, cap⟩ es) := hr
  have hfm : eIx es n ≤ m := by rw [← hm]; exact eIx_le _ _
  have HNM : Hid (∀ to, eIx es n ≤ to → to ≤ m → (∀ i, eIx es n ≤ i → i < to → hasP (eAt es i).nm n = true) → (to < m → hasP (eAt es to).nm n = false) → namesS es n = (es.take to).drop (eIx es n)) := fun to h0 h1 h2 h3 => names_take h0 (by omega) h2 (fun h => h3 (by omega))
  clear hm hr
  obtain ⟨fr, hfr⟩ : ∃ fr, fr = eIx es n := ⟨_, rfl⟩
  rw [← hfr] at HX hfm HNM
  clear hfr
  generalize eIs es n = fb at HX
  have HF : Hid (Fr No w w []) := Fr.start _ _
  go_enter Try.func17, Try.ntmps17
  go_upto_region 0 with fail
  refine WL.start ?_
  refine wp_runW (.pointer (some ⟨w.heap.size, 0, none⟩)) (w.alloc (.cells (Bv.cells ⟨up, ⟨a, m, cap⟩, sl⟩) 26)) (exec_box 26 _ rfl (Bv.cells ⟨up, ⟨a, m, cap⟩, sl⟩) (by kernel_rfl)) (by kernel_rfl) ?_
  try simp only [pA, pB, p1, p2, p3]
  have HF : Hid (Fr No w (w.alloc (.cells (Bv.cells ⟨up, ⟨a, m, cap⟩, sl⟩) 26)) [(w.heap.size, 26, Bv.cells ⟨up, ⟨a, m, cap⟩, sl⟩)]) := HF.out.alloc _ _
  generalize w.alloc (.cells (Bv.cells ⟨up, ⟨a, m, cap⟩, sl⟩) 26) = wk2 at HF ⊢
  generalize w.heap.size = gk1 at HF ⊢
  refine tK (.nilFunc) ?_
  try simp only [pA, pB, p1, p2, p3]
  refine WL.nil ?_
  try simp only [pA, pB, p1, p2, p3]
  go_upto_region 1 with fail
  refine WL.start ?_
  refine tK (.pointer (some ⟨gk1, 1, none⟩)) ?_
  try simp only [pA, pB, p1, p2, p3]
  refine tW (.slice a m cap) (exec_load 23 _ rfl ⟨gk1, 1, none⟩ (by kernel_rfl) (.slice a m cap) (ld22 ((HF.out.box 0 _ _ _ rfl).cell 1))) ?_
  try simp only [pA, pB, p1, p2, p3]
  refine tK (.string n) ?_
  try simp only [pA, pB, p1, p2, p3]
  refine wp_callW 28 #[.slice a m cap, .string n] (by kernel_rfl) _ (HX.out _ HF.out.kept) (by kernel_rfl) ?_
  rintro e wk3 ⟨rfl, hk⟩
  have HF : Hid (Fr No w (wk3) [(gk1, 26, Bv.cells ⟨up, ⟨a, m, cap⟩, sl⟩)]) := HF.out.no hk
  clear hk
  refine ⟨.tuple #[.int .i64 (fr : Nat), .bool fb], rfl, ?_⟩
  try simp only [pA, pB, p1, p2, p3]
  refine tK (.tuple #[.int .i64 (fr : Nat), .bool fb]) ?_
  try simp only [pA, pB, p1, p2, p3]
  refine tK (.int .i64 ((fr : Nat) : Int)) ?_
  try simp only [pA, pB, p1, p2, p3]
  refine tK (.bool fb) ?_
  try simp only [pA, pB, p1, p2, p3]
  refine tK (.int .i64 ((fr : Nat) : Int)) ?_
  try simp only [pA, pB, p1, p2, p3]
  refine tK (.bool fb) ?_
  try simp only [pA, pB, p1, p2, p3]
  refine WL.nil ?_
  try simp only [pA, pB, p1, p2, p3]
  go_upto_region 2 with fail
  refine WL.start ?_
  refine tK (.int .i64 ((fr : Nat) : Int)) ?_
  try simp only [pA, pB, p1, p2, p3]
  refine tK (.int .i64 ((fr : Nat) : Int)) ?_
  try simp only [pA, pB, p1, p2, p3]
  refine WL.nil ?_
  try simp only [pA, pB, p1, p2, p3]
  go_wp2
  clear HX
  go_loopw [7] (fun v7 wr => ∃ to : Nat, v7 = .int .i64 ((to : Nat) : Int) ∧ fr ≤ to ∧ to ≤ m ∧ Hid (∀ i, fr ≤ i → i < to → hasP (eAt es i).nm n = true) ∧ Hid (Fr No w wr [(gk1, 26, Bv.cells ⟨up, ⟨a, m, cap⟩, sl⟩)])) (fun i _ => m - (intOf i).toNat)
  case atStart => exact ⟨fr, rfl, Nat.le_refl _, hfm, (fun i h1 h2 => by omega : ∀ i, fr ≤ i → i < fr → hasP (eAt es i).nm n = true), HF⟩
  case round =>
    obtain ⟨to, rfl, h1, h2, HPre, HF⟩ := hrel
    by_cases hlt : to < m
    · have hlt' : (to : Int) < (m : Int) := by omega
      have hcell := Es.at (HR.out.no HF.out.kept).row (i := to) (by rw [HM.out]; exact hlt)
      obtain ⟨b, off, e0, hcell⟩ := hcell
      have e0 : a = some ⟨b, off, none⟩ := e0
      subst e0
      have hc0 := hcell 0 _ rfl
      have HC0 : Hid (wr.cell? ⟨b, off + to * 4, none⟩ = some (.string (eAt es to).nm)) := by show _ = _; simpa using hc0
      have HYes : Hid (hasP (eAt es to).nm n = true → ∀ i, fr ≤ i → i < to + 1 → hasP (eAt es i).nm n = true) := fun h i h3 h4 => by
        by_cases h5 : i < to
        · exact HPre.out i h3 h5
        · obtain rfl : i = to := by omega
          exact h
      have HNo : Hid (hasP (eAt es to).nm n = false → namesS es n = (es.take to).drop fr) := fun h => HNM.out to h1 h2 HPre.out (fun _ => h)
      clear hcell hc0
      generalize eAt es to = x at HC0 HYes HNo
      go_upto_region 3 with fail
      refine WL.start ?_
      refine tK (.int .i64 ((to : Nat) : Int)) ?_
      try simp only [pA, pB, p1, p2, p3]
      refine tK (.pointer (some ⟨gk1, 1, none⟩)) ?_
      try simp only [pA, pB, p1, p2, p3]
      refine tW (.slice (some ⟨b, off, none⟩) m cap) (exec_load 23 _ rfl ⟨gk1, 1, none⟩ (by kernel_rfl) (.slice (some ⟨b, off, none⟩) m cap) (ld22 ((HF.out.box 0 _ _ _ rfl).cell 1))) ?_
      try simp only [pA, pB, p1, p2, p3]
      refine tK (.int .i64 ((m : Nat) : Int)) ?_
      try simp only [pA, pB, p1, p2, p3]
      refine tW (.bool true) (exec_bin .lss 3 _ _ _ rfl (.int .i64 ((to : Nat) : Int)) (.int .i64 ((m : Nat) : Int)) (.bool true) (by kernel_rfl) (by kernel_rfl) (by kernel_rfl) (by rw [b_lss, decide_eq_true hlt'])) ?_
      try simp only [pA, pB, p1, p2, p3]
      refine tK (.bool true) ?_
      try simp only [pA, pB, p1, p2, p3]
      refine tK (.pointer (some ⟨gk1, 1, none⟩)) ?_
      try simp only [pA, pB, p1, p2, p3]
      refine tW (.slice (some ⟨b, off, none⟩) m cap) (exec_load 23 _ rfl ⟨gk1, 1, none⟩ (by kernel_rfl) (.slice (some ⟨b, off, none⟩) m cap) (ld22 ((HF.out.box 0 _ _ _ rfl).cell 1))) ?_
      try simp only [pA, pB, p1, p2, p3]
      refine tK (.int .i64 ((to : Nat) : Int)) ?_
      try simp only [pA, pB, p1, p2, p3]
      refine tW (.pointer (some ⟨b, off + to * 4, none⟩)) (exec_ixA 23 4 Try.und22e Try.size22e _ _ rfl b off m cap to (by kernel_rfl) (by kernel_rfl) hlt) ?_
      try simp only [pA, pB, p1, p2, p3]
      refine tK (.pointer (some ⟨b, off + to * 4, none⟩)) ?_
      try simp only [pA, pB, p1, p2, p3]
      refine tW (.string x.nm) (exec_load 9 _ rfl ⟨b, off + to * 4, none⟩ (by kernel_rfl) (.string x.nm) (ld9 HC0.out)) ?_
      try simp only [pA, pB, p1, p2, p3]
      refine tK (.string n) ?_
      try simp only [pA, pB, p1, p2, p3]
      cases q1 : (hasP x.nm n)
      ·skip
       refine wp_callW 29 #[.string x.nm, .string n] (by kernel_rfl) _ (hasPrefix_any _ _ _) (by kernel_rfl) ?_
       rintro e wq ⟨rfl, hwq⟩
       rw [hwq]
       clear hwq wq
       refine ⟨.bool false, by rw [q1], ?_⟩
       try simp only [pA, pB, p1, p2, p3]
       refine tK (.bool false) ?_
       try simp only [pA, pB, p1, p2, p3]
       refine WL.nil ?_
       try simp only [pA, pB, p1, p2, p3]
       have HNS : Hid (namesS es n = (es.take to).drop fr) := HNo.out q1
       clear HYes HNo HC0 HPre q1
       go_upto_region 5 with fail
       refine WL.start ?_
       refine tK (.pointer (some ⟨gk1, 1, none⟩)) ?_
       try simp only [pA, pB, p1, p2, p3]
       refine tW (.slice (some ⟨b, off, none⟩) m cap) (exec_load 23 _ rfl ⟨gk1, 1, none⟩ (by kernel_rfl) (.slice (some ⟨b, off, none⟩) m cap) (ld22 ((HF.out.box 0 _ _ _ rfl).cell 1))) ?_
       try simp only [pA, pB, p1, p2, p3]
       refine tK (.int .i64 ((fr : Nat) : Int)) ?_
       try simp only [pA, pB, p1, p2, p3]
       refine tK (.int .i64 ((to : Nat) : Int)) ?_
       try simp only [pA, pB, p1, p2, p3]
       refine tW (.slice (if cap = fr then ((some ⟨b, off, none⟩) : Option Addr) else Option.map (fun x : Addr => x.add (fr * 4)) (some ⟨b, off, none⟩)) (to - fr) (cap - fr)) (exec_slLH 23 _ _ _ rfl 4 Try.und22e Try.size22e (some ⟨b, off, none⟩) m cap fr to (by kernel_rfl) (by kernel_rfl) (by kernel_rfl) (by omega) (by omega)) ?_
       try simp only [pA, pB, p1, p2, p3]
       have HRw := HR.out.no HF.out.kept
       have hsrc : ∀ (j : Nat) u, (enL ((es.take to).drop fr))[j]? = some u → ∃ ad, (if cap = fr then ((some ⟨b, off, none⟩) : Option Addr) else Option.map (fun x : Addr => x.add (fr * 4)) (some ⟨b, off, none⟩)) = some ad ∧ wr.cell? (ad.add j) = some u := by
         intro j u hj
         have hj2 := (List.getElem?_eq_some_iff.1 hj).1
         rw [enL_len, List.length_drop, List.length_take, HM.out] at hj2
         have h3 : (enL es)[fr * 4 + j]? = some u := by
           have e1 : enL (es.take to) = enL ((es.take to).take fr) ++ enL ((es.take to).drop fr) := enL_cut _ _
           have e2 : (enL ((es.take to).take fr)).length = fr * 4 := by rw [enL_len, List.length_take, List.length_take, HM.out]; congr 1; omega
           have e3 : (enL (es.take to))[fr * 4 + j]? = some u := by rw [e1, List.getElem?_append_right (by omega), e2, Nat.add_sub_cancel_left]; exact hj
           rw [enL_cut es to, List.getElem?_append_left (List.getElem?_eq_some_iff.1 e3).1]
           exact e3
         obtain ⟨ad, e4, h4⟩ := HRw.src _ _ h3
         have e4 : ((some ⟨b, off, none⟩) : Option Addr) = some ad := e4
         rw [if_neg (by omega), e4]
         refine ⟨_, rfl, ?_⟩
         rw [Go.Deep.add_add]
         exact h4
       have hlen3 : ((es.take to).drop fr).length = to - fr := by rw [List.length_drop, List.length_take, HM.out]; omega
       obtain ⟨sa, sc, wk4, hrun, hO, hk, hA⟩ := run_appN (w := wr) 23 23 34 4 40 (.agg enZ.cells) Try.und22 Try.info54 rfl (by omega) w.heap.size 0 0 none [] (Own.nil _ _ _ _) (if cap = fr then ((some ⟨b, off, none⟩) : Option Addr) else Option.map (fun x : Addr => x.add (fr * 4)) (some ⟨b, off, none⟩)) (to - fr) (cap - fr) (enL ((es.take to).drop fr)) (by rw [enL_len, hlen3]) (fun e => by
           have h5 : ((some ⟨b, off, none⟩) : Option Addr) = none → cap = 0 := HRw.cap
           split at e
           · have := h5 e; omega
           · rw [Option.map_eq_none_iff] at e
             have := h5 e; omega) hsrc (enL_one _) (by omega) (by omega) HF.out.kept.size
       rw [Nat.zero_add] at hrun hO
       have hkn : Kept No wr wk4 := hk.mono (fun _ _ e => absurd e At.none)
       refine wp_runW (.slice sa (to - fr) sc) wk4 (exec_appN _ _ 23 23 rfl _ _ (by kernel_rfl) (by kernel_rfl) hrun) (by kernel_rfl) ?_
       try simp only [pA, pB, p1, p2, p3]
       have HF : Hid (Fr No w (wk4) [(gk1, 26, Bv.cells ⟨up, ⟨(some ⟨b, off, none⟩), m, cap⟩, sl⟩)]) := HF.out.no hkn
       have HO : Hid (Own 34 4 wk4 w.heap.size sa sc (to - fr) (enL ((es.take to).drop fr))) := hO
       clear hrun hO hk hA hkn hsrc HRw
       refine wp_runW (.pointer (some ⟨wk4.heap.size, 0, none⟩)) (wk4.alloc (.cells (#[.slice none 0 0]) 23)) (exec_alloc1 23 rfl (.slice none 0 0) rfl zero22) (by kernel_rfl) ?_
       try simp only [pA, pB, p1, p2, p3]
       have HO : Hid (Own 34 4 (wk4.alloc (.cells (#[.slice none 0 0]) 23)) w.heap.size sa sc (to - fr) (enL ((es.take to).drop fr))) := HO.out.no ((Kept.refl No _).alloc _)
       have HF : Hid (Fr No w (wk4.alloc (.cells (#[.slice none 0 0]) 23)) [(gk1, 26, Bv.cells ⟨up, ⟨(some ⟨b, off, none⟩), m, cap⟩, sl⟩), (wk4.heap.size, 23, #[.slice none 0 0])]) := HF.out.alloc _ _
       generalize wk4.alloc (.cells (#[.slice none 0 0]) 23) = wk6 at HF HO ⊢
       generalize wk4.heap.size = gk5 at HF ⊢
       refine wp_storeW 23 _ _ rfl ⟨gk5, 0, none⟩ (.slice sa (to - fr) sc) (by kernel_rfl) (by kernel_rfl) (wk6.setRow gk5 (#[.slice sa (to - fr) sc])) (st22 (HF.out.box 1 _ _ _ rfl) rfl rfl) (by kernel_rfl) ?_
       try simp only [pA, pB, p1, p2, p3]
       have HO : Hid (Own 34 4 (wk6.setRow gk5 (#[.slice sa (to - fr) sc])) w.heap.size sa sc (to - fr) (enL ((es.take to).drop fr))) := HO.out.kept (Kept.setRow _ _ _) (fun k h e => HO.out.notBox (HF.out.box 1 _ _ _ rfl) (by decide) ((show k = gk5 from e) ▸ h))
       have HF : Hid (Fr No w (wk6.setRow gk5 (#[.slice sa (to - fr) sc])) [(gk1, 26, Bv.cells ⟨up, ⟨(some ⟨b, off, none⟩), m, cap⟩, sl⟩), (gk5, 23, #[.slice sa (to - fr) sc])]) := HF.out.set 1 rfl _
       generalize wk6.setRow gk5 (#[.slice sa (to - fr) sc]) = wk7 at HF HO ⊢
       refine WL.nil ?_
       try simp only [pA, pB, p1, p2, p3]
       go_upto_region 6 with fail
       refine WL.start ?_
       refine tK (.func (.func 30) #[] #[.pointer (some ⟨gk5, 0, none⟩)]) ?_
       try simp only [pA, pB, p1, p2, p3]
       refine tK (.func (.func 30) #[] #[.pointer (some ⟨gk5, 0, none⟩)]) ?_
       try simp only [pA, pB, p1, p2, p3]
       refine WL.nil ?_
       try simp only [pA, pB, p1, p2, p3]
       go_wp2
       rw [HC.out]
       have hb1 := HF.out.box 1 _ _ _ rfl
       have hlow := HF.out.low 1 _ _ _ rfl
       refine ⟨_, sa, sc, rfl, ⟨?_, ?_⟩, hlow, fun k h => HO.out.base h, HF.out.kept⟩
       · rw [HNS.out, hlen3]; exact hb1
       · rw [HNS.out, hlen3]; exact HO.out.lower (Nat.zero_le _)
      ·skip
       refine wp_callW 29 #[.string x.nm, .string n] (by kernel_rfl) _ (hasPrefix_any _ _ _) (by kernel_rfl) ?_
       rintro e wq ⟨rfl, hwq⟩
       rw [hwq]
       clear hwq wq
       refine ⟨.bool true, by rw [q1], ?_⟩
       try simp only [pA, pB, p1, p2, p3]
       refine tK (.bool true) ?_
       try simp only [pA, pB, p1, p2, p3]
       refine WL.nil ?_
       try simp only [pA, pB, p1, p2, p3]
       have HP2 : Hid (∀ i, fr ≤ i → i < to + 1 → hasP (eAt es i).nm n = true) := HYes.out q1
       clear HYes HNo HC0 HPre
       go_wp2
       go_roundw
       case rel => exact ⟨to + 1, by go_num, by omega, by omega, HP2, HF⟩
       case measure => simp [intOf]; omega
      
    · have hlt' : ¬ (to : Int) < (m : Int) := by omega
      have HNS : Hid (namesS es n = (es.take to).drop fr) := HNM.out to h1 h2 HPre.out (fun h => absurd h hlt)
      clear HPre
      go_upto_region 3 with fail
      refine WL.start ?_
      refine tK (.int .i64 ((to : Nat) : Int)) ?_
      try simp only [pA, pB, p1, p2, p3]
      refine tK (.pointer (some ⟨gk1, 1, none⟩)) ?_
      try simp only [pA, pB, p1, p2, p3]
      refine tW (.slice a m cap) (exec_load 23 _ rfl ⟨gk1, 1, none⟩ (by kernel_rfl) (.slice a m cap) (ld22 ((HF.out.box 0 _ _ _ rfl).cell 1))) ?_
      try simp only [pA, pB, p1, p2, p3]
      refine tK (.int .i64 ((m : Nat) : Int)) ?_
      try simp only [pA, pB, p1, p2, p3]
      refine tW (.bool false) (exec_bin .lss 3 _ _ _ rfl (.int .i64 ((to : Nat) : Int)) (.int .i64 ((m : Nat) : Int)) (.bool false) (by kernel_rfl) (by kernel_rfl) (by kernel_rfl) (by rw [b_lss, decide_eq_false hlt'])) ?_
      try simp only [pA, pB, p1, p2, p3]
      refine tK (.bool false) ?_
      try simp only [pA, pB, p1, p2, p3]
      refine sK ?_
      try simp only [pA, pB, p1, p2, p3]
      refine sK ?_
      try simp only [pA, pB, p1, p2, p3]
      refine sK ?_
      try simp only [pA, pB, p1, p2, p3]
      refine sK ?_
      try simp only [pA, pB, p1, p2, p3]
      refine sK ?_
      try simp only [pA, pB, p1, p2, p3]
      refine sK ?_
      try simp only [pA, pB, p1, p2, p3]
      refine sK ?_
      try simp only [pA, pB, p1, p2, p3]
      refine sK ?_
      try simp only [pA, pB, p1, p2, p3]
      refine tK (.bool false) ?_
      try simp only [pA, pB, p1, p2, p3]
      refine WL.nil ?_
      try simp only [pA, pB, p1, p2, p3]
      go_upto_region 5 with fail
      refine WL.start ?_
      refine tK (.pointer (some ⟨gk1, 1, none⟩)) ?_
      try simp only [pA, pB, p1, p2, p3]
      refine tW (.slice a m cap) (exec_load 23 _ rfl ⟨gk1, 1, none⟩ (by kernel_rfl) (.slice a m cap) (ld22 ((HF.out.box 0 _ _ _ rfl).cell 1))) ?_
      try simp only [pA, pB, p1, p2, p3]
      refine tK (.int .i64 ((fr : Nat) : Int)) ?_
      try simp only [pA, pB, p1, p2, p3]
      refine tK (.int .i64 ((to : Nat) : Int)) ?_
      try simp only [pA, pB, p1, p2, p3]
      refine tW (.slice (if cap = fr then (a : Option Addr) else Option.map (fun x : Addr => x.add (fr * 4)) a) (to - fr) (cap - fr)) (exec_slLH 23 _ _ _ rfl 4 Try.und22e Try.size22e a m cap fr to (by kernel_rfl) (by kernel_rfl) (by kernel_rfl) (by omega) (by omega)) ?_
      try simp only [pA, pB, p1, p2, p3]
      have HRw := HR.out.no HF.out.kept
      have hsrc : ∀ (j : Nat) u, (enL ((es.take to).drop fr))[j]? = some u → ∃ ad, (if cap = fr then (a : Option Addr) else Option.map (fun x : Addr => x.add (fr * 4)) a) = some ad ∧ wr.cell? (ad.add j) = some u := by
        intro j u hj
        have hj2 := (List.getElem?_eq_some_iff.1 hj).1
        rw [enL_len, List.length_drop, List.length_take, HM.out] at hj2
        have h3 : (enL es)[fr * 4 + j]? = some u := by
          have e1 : enL (es.take to) = enL ((es.take to).take fr) ++ enL ((es.take to).drop fr) := enL_cut _ _
          have e2 : (enL ((es.take to).take fr)).length = fr * 4 := by rw [enL_len, List.length_take, List.length_take, HM.out]; congr 1; omega
          have e3 : (enL (es.take to))[fr * 4 + j]? = some u := by rw [e1, List.getElem?_append_right (by omega), e2, Nat.add_sub_cancel_left]; exact hj
          rw [enL_cut es to, List.getElem?_append_left (List.getElem?_eq_some_iff.1 e3).1]
          exact e3
        obtain ⟨ad, e4, h4⟩ := HRw.src _ _ h3
        have e4 : (a : Option Addr) = some ad := e4
        rw [if_neg (by omega), e4]
        refine ⟨_, rfl, ?_⟩
        rw [Go.Deep.add_add]
        exact h4
      have hlen3 : ((es.take to).drop fr).length = to - fr := by rw [List.length_drop, List.length_take, HM.out]; omega
      obtain ⟨sa, sc, wk8, hrun, hO, hk, hA⟩ := run_appN (w := wr) 23 23 34 4 40 (.agg enZ.cells) Try.und22 Try.info54 rfl (by omega) w.heap.size 0 0 none [] (Own.nil _ _ _ _) (if cap = fr then (a : Option Addr) else Option.map (fun x : Addr => x.add (fr * 4)) a) (to - fr) (cap - fr) (enL ((es.take to).drop fr)) (by rw [enL_len, hlen3]) (fun e => by
          have h5 : (a : Option Addr) = none → cap = 0 := HRw.cap
          split at e
          · have := h5 e; omega
          · rw [Option.map_eq_none_iff] at e
            have := h5 e; omega) hsrc (enL_one _) (by omega) (by omega) HF.out.kept.size
      rw [Nat.zero_add] at hrun hO
      have hkn : Kept No wr wk8 := hk.mono (fun _ _ e => absurd e At.none)
      refine wp_runW (.slice sa (to - fr) sc) wk8 (exec_appN _ _ 23 23 rfl _ _ (by kernel_rfl) (by kernel_rfl) hrun) (by kernel_rfl) ?_
      try simp only [pA, pB, p1, p2, p3]
      have HF : Hid (Fr No w (wk8) [(gk1, 26, Bv.cells ⟨up, ⟨a, m, cap⟩, sl⟩)]) := HF.out.no hkn
      have HO : Hid (Own 34 4 wk8 w.heap.size sa sc (to - fr) (enL ((es.take to).drop fr))) := hO
      clear hrun hO hk hA hkn hsrc HRw
      refine wp_runW (.pointer (some ⟨wk8.heap.size, 0, none⟩)) (wk8.alloc (.cells (#[.slice none 0 0]) 23)) (exec_alloc1 23 rfl (.slice none 0 0) rfl zero22) (by kernel_rfl) ?_
      try simp only [pA, pB, p1, p2, p3]
      have HO : Hid (Own 34 4 (wk8.alloc (.cells (#[.slice none 0 0]) 23)) w.heap.size sa sc (to - fr) (enL ((es.take to).drop fr))) := HO.out.no ((Kept.refl No _).alloc _)
      have HF : Hid (Fr No w (wk8.alloc (.cells (#[.slice none 0 0]) 23)) [(gk1, 26, Bv.cells ⟨up, ⟨a, m, cap⟩, sl⟩), (wk8.heap.size, 23, #[.slice none 0 0])]) := HF.out.alloc _ _
      generalize wk8.alloc (.cells (#[.slice none 0 0]) 23) = wk10 at HF HO ⊢
      generalize wk8.heap.size = gk9 at HF ⊢
      refine wp_storeW 23 _ _ rfl ⟨gk9, 0, none⟩ (.slice sa (to - fr) sc) (by kernel_rfl) (by kernel_rfl) (wk10.setRow gk9 (#[.slice sa (to - fr) sc])) (st22 (HF.out.box 1 _ _ _ rfl) rfl rfl) (by kernel_rfl) ?_
      try simp only [pA, pB, p1, p2, p3]
      have HO : Hid (Own 34 4 (wk10.setRow gk9 (#[.slice sa (to - fr) sc])) w.heap.size sa sc (to - fr) (enL ((es.take to).drop fr))) := HO.out.kept (Kept.setRow _ _ _) (fun k h e => HO.out.notBox (HF.out.box 1 _ _ _ rfl) (by decide) ((show k = gk9 from e) ▸ h))
      have HF : Hid (Fr No w (wk10.setRow gk9 (#[.slice sa (to - fr) sc])) [(gk1, 26, Bv.cells ⟨up, ⟨a, m, cap⟩, sl⟩), (gk9, 23, #[.slice sa (to - fr) sc])]) := HF.out.set 1 rfl _
      generalize wk10.setRow gk9 (#[.slice sa (to - fr) sc]) = wk11 at HF HO ⊢
      refine WL.nil ?_
      try simp only [pA, pB, p1, p2, p3]
      go_upto_region 6 with fail
      refine WL.start ?_
      refine tK (.func (.func 30) #[] #[.pointer (some ⟨gk9, 0, none⟩)]) ?_
      try simp only [pA, pB, p1, p2, p3]
      refine tK (.func (.func 30) #[] #[.pointer (some ⟨gk9, 0, none⟩)]) ?_
      try simp only [pA, pB, p1, p2, p3]
      refine WL.nil ?_
      try simp only [pA, pB, p1, p2, p3]
      go_wp2
      rw [HC.out]
      have hb1 := HF.out.box 1 _ _ _ rfl
      have hlow := HF.out.low 1 _ _ _ rfl
      refine ⟨_, sa, sc, rfl, ⟨?_, ?_⟩, hlow, fun k h => HO.out.base h, HF.out.kept⟩
      · rw [HNS.out, hlen3]; exact hb1
      · rw [HNS.out, hlen3]; exact HO.out.lower (Nat.zero_le _)

end Go.Proofs.Ytfemlnfknebalab
