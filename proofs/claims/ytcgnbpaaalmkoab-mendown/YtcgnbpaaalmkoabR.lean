import Derived.Test.YtcgnbpaaalmkoabQ
namespace Go.Proofs.Ytcgnbpaaalmkoab
open Go.RowKit
set_option linter.unusedVariables false
set_option linter.unusedSimpArgs false

structure RdC (w : World) (s : Sl) (cs : List Cm) : Prop where
  row : Cs w s.a cs
  len : cs.length = s.l
  cap : s.a = none → s.k = 0
theorem RdC.kept {S : Nat → Prop} {w w' : World} {s : Sl} {cs : List Cm} (h : RdC w s cs) (hk : Kept S w w') (hS : ∀ k, At s.a k → ¬ S k) : RdC w' s cs := ⟨RowsAt.kept h.row hk hS, h.len, h.cap⟩
theorem RdC.no {w w' : World} {s : Sl} {cs : List Cm} (h : RdC w s cs) (hk : Kept No w w') : RdC w' s cs := h.kept hk (fun _ _ e => e)
theorem cmL_part (l : List Cm) (i : Nat) (hi : i < l.length) : Part (cmL l) (i * 9) (Cm.cs (cAt l i)) := fun j v hv =>
  flat_get 9 (l.map Cm.cs) (cmL_c l) i (Cm.cs (cAt l i)) (by rw [List.getElem?_map, cAt_some hi]; rfl) j v hv
theorem RdC.ofBox {w : World} {g n : Nat} {l : List Cm} (hb : Box w g 43 (cmL l).toArray) (hl : l.length = n) : RdC w ⟨some ⟨g, 0, none⟩, n, n⟩ l := by
  refine ⟨fun i it hi => ⟨g, 0, rfl, fun j v hv => ?_⟩, hl, fun e => by cases e⟩
  have := flat_get 9 (l.map Cm.cs) (cmL_c l) i it hi j v hv
  rw [Nat.zero_add, hb.cell, List.getElem?_toArray]
  exact this
def chL (es : List Ch) : List Value := (es.map Ch.cs).flatten
theorem chL_c (es : List Ch) : ∀ x ∈ es.map Ch.cs, x.length = 24 := by intro x hx; obtain ⟨e, _, rfl⟩ := List.mem_map.1 hx; rfl
theorem chL_app (a b : List Ch) : chL (a ++ b) = chL a ++ chL b := by simp [chL]
theorem chL_1 (e : Ch) : chL [e] = e.cs := by simp [chL]
structure OwH (w : World) (base : Nat) (s : Sl) (cs : List Ch) : Prop where
  own : Own 67 24 w base s.a s.k s.l (chL cs)
  len : cs.length = s.l
theorem OwH.kept {S : Nat → Prop} {w w' : World} {base : Nat} {s : Sl} {cs : List Ch} (h : OwH w base s cs) (hk : Kept S w w') (hS : ∀ k, At s.a k → ¬ S k) : OwH w' base s cs := ⟨h.own.kept hk hS, h.len⟩
theorem OwH.no {w w' : World} {base : Nat} {s : Sl} {cs : List Ch} (h : OwH w base s cs) (hk : Kept No w w') : OwH w' base s cs := h.kept hk (fun _ _ e => e)
theorem Fr.app {w0 w w' : World} {l : List (Nat × TypeId × Array Value)} {T : TypeId} {c cap n : Nat} {sa : Option Addr} {vs : List Value} (h : Fr No w0 w l) (ho : Own T c w w0.heap.size sa cap n vs) (hk : Kept (At sa) w w') (hT : ∀ x ∈ l, x.2.1 ≠ T) : Fr No w0 w' l :=
  ⟨h.kept.trans hk (fun _ e => e) (fun k hk' e => by have := ho.base e; omega), fun i g T' cs hi => (h.box i g T' cs hi).kept hk (fun e => ho.notBox (h.box i g T' cs hi) (fun e => hT _ (List.mem_of_getElem? hi) e.symm) e), h.low, h.inj⟩
def chM (a n : Int) (c : Cm) : Ch := ⟨⟨3, a, n, 0⟩, blZ, ⟨spZ, spZ, c, true⟩, bvZ⟩
def passB (f up : Int) (cs ks : List Cm) (i : Nat) : Bool := eqC (cAt cs i) cZ || (!eqC (cAt ks i) cZ || (decide (f + i ≤ up) || decide (1048576 < f + i)))
def newF (a f up : Int) (cs ks : List Cm) : Nat → List Ch
  | 0 => []
  | i + 1 => if passB f up cs ks i then newF a f up cs ks i else newF a f up cs ks i ++ [chM a (f + i) (cAt cs i)]
theorem newF_len (a f up : Int) (cs ks : List Cm) : ∀ i, (newF a f up cs ks i).length ≤ i
  | 0 => Nat.le_refl _
  | i + 1 => by
    have := newF_len a f up cs ks i
    unfold newF
    split
    · omega
    · simp; omega
theorem newF_no (a f up : Int) (cs ks : List Cm) (i : Nat) (h : passB f up cs ks i = false) : newF a f up cs ks (i + 1) = newF a f up cs ks i ++ [chM a (f + i) (cAt cs i)] := by simp [newF, h]
def NdOut (w : World) (chs : List Ch) (e : Ending) (w' : World) : Prop := ∃ s' : Sl, e = .returned s'.v ∧ OwH w' w.heap.size s' chs ∧ Kept No w w'
set_option maxRecDepth 100000 in
set_option maxHeartbeats 4000000 in
theorem newDecisions_any (m : Mg) (h : Hd) (ps : List Pl) (cs : List Cm) (w : World) (hcs : RdC w m.cm cs) (hr : RdP w h.r ps) (hlt : ∀ k, At h.r.a k → k < w.heap.size) (hm : ps.length ≤ 10000000000000) (hg0 : ∀ x ∈ decd ps, 0 ≤ x.1 ∧ x.1 ≤ 4611686018427387904) (hn : 1 ≤ m.st.n ∧ m.st.n ≤ 4611686018427387) (hl : m.cm.l ≤ 3518437208883) : Calls Try.prog 32 #[.agg (Mg.cells m), .agg (Hd.cells h)] w (NdOut w (newF m.ky.a m.st.n h.k.up cs (decF m.st.n m.cm.l (decd ps)) m.cm.l)) := by
  obtain ⟨C, hC⟩ : ∃ C : Ending → World → Prop, C = (NdOut w (newF m.ky.a m.st.n h.k.up cs (decF m.st.n m.cm.l (decd ps)) m.cm.l)) := ⟨_, rfl⟩
  have HC : Hid (C = (NdOut w (newF m.ky.a m.st.n h.k.up cs (decF m.st.n m.cm.l (decd ps)) m.cm.l))) := hC
  rw [← hC]
  clear hC
  have HCS : Hid (RdC w m.cm cs) := hcs
  have HDc : Hid (∀ W, Kept No w W → Calls Try.prog 40 #[h.r.v, .int .i64 m.st.n, .int .i64 ((m.cm.l : Nat) : Int)] W (DcOut W m.st.n m.cm.l ps)) := fun W hk => decisions_any h.r ps m.st.n m.cm.l W (hr.no hk) (fun k e => Nat.lt_of_lt_of_le (hlt k e) hk.size) hm hl (by omega) hg0
  clear hr hlt hm hg0 hcs
  obtain ⟨ks, hks⟩ : ∃ ks, ks = decF m.st.n m.cm.l (decd ps) := ⟨_, rfl⟩
  have HKL : Hid (ks.length = m.cm.l) := by show _ = _; rw [hks, decF_len]
  rw [← hks] at HC
  have HKS : Hid (∀ W e W', DcOut W m.st.n m.cm.l ps e W' → ∃ g : Nat, e = .returned (.slice (some ⟨g, 0, none⟩) m.cm.l m.cm.l) ∧ Box W' g 43 (cmL ks).toArray ∧ W.heap.size ≤ g ∧ Kept No W W') := by intro W e W' hh; rw [hks]; exact hh
  clear hks
  have HF : Hid (Fr No w w []) := Fr.start _ _
  go_enter Try.func32, Try.ntmps32
  go_upto_region 0 with fail
  refine WL.start ?_
  refine wp_runW (.pointer (some ⟨w.heap.size, 0, none⟩)) (w.alloc (.cells (Mg.cells m) 46)) (exec_box 46 _ rfl (Mg.cells m) (by kernel_rfl)) (by kernel_rfl) ?_
  try simp only [pS]
  have HF : Hid (Fr No w _ [(w.heap.size, 46, Mg.cells m)]) := HF.out.alloc _ _
  generalize w.alloc (.cells (Mg.cells m) 46) = wk2 at HF ⊢
  generalize w.heap.size = gk1 at HF ⊢
  refine wp_runW (.pointer (some ⟨wk2.heap.size, 0, none⟩)) (wk2.alloc (.cells (Hd.cells h) 49)) (exec_box 49 _ rfl (Hd.cells h) (by kernel_rfl)) (by kernel_rfl) ?_
  try simp only [pS]
  have HF : Hid (Fr No w _ [(gk1, 46, Mg.cells m), (wk2.heap.size, 49, Hd.cells h)]) := HF.out.alloc _ _
  generalize wk2.alloc (.cells (Hd.cells h) 49) = wk4 at HF ⊢
  generalize wk2.heap.size = gk3 at HF ⊢
  refine tK (.slice none 0 0) ?_
  try simp only [pS]
  refine WL.nil ?_
  try simp only [pS]
  go_upto_region 1 with fail
  refine WL.start ?_
  refine tK (.slice none 0 0) ?_
  try simp only [pS]
  refine WL.nil ?_
  try simp only [pS]
  go_upto_region 2 with fail
  refine WL.start ?_
  refine tK (.pointer (some ⟨gk1, 11, none⟩)) ?_
  refine tK (.pointer (some ⟨gk1, 11, none⟩)) ?_
  refine tW (.int .i64 m.st.n) (eL 3 _ rfl ⟨gk1, 11, none⟩ (load_one ((HF.out.box 0 _ _ _ rfl).cell 11 |>.trans (by kernel_rfl)) Try.und3 rfl)) ?_
  refine tK (.int .i64 m.st.n) ?_
  try simp only [pS]
  refine WL.nil ?_
  try simp only [pS]
  go_upto_region 3 with fail
  refine WL.start ?_
  refine tK (.pointer (some ⟨gk3, 6, none⟩)) ?_
  refine tW (h.r.v) (eL 47 _ rfl ⟨gk3, 6, none⟩ (load_one ((HF.out.box 1 _ _ _ rfl).cell 6 |>.trans (by kernel_rfl)) Try.und38 rfl)) ?_
  refine tK (.int .i64 m.st.n) ?_
  refine tK (.pointer (some ⟨gk1, 28, none⟩)) ?_
  refine tW (m.cm.v) (eL 44 _ rfl ⟨gk1, 28, none⟩ (load_one ((HF.out.box 0 _ _ _ rfl).cell 28 |>.trans (by kernel_rfl)) Try.und48 rfl)) ?_
  refine tK (.int .i64 ((m.cm.l : Nat) : Int)) ?_
  try simp only [pS]
  refine wp_callW 40 #[h.r.v, .int .i64 m.st.n, .int .i64 ((m.cm.l : Nat) : Int)] (by kernel_rfl) _ (HDc.out _ HF.out.kept) (by kernel_rfl) ?_
  rintro e wk5 hh
  obtain ⟨gk, rfl, hbg, hgl, hk⟩ := HKS.out _ _ _ hh
  have HF : Hid (Fr No w (wk5) [(gk1, 46, Mg.cells m), (gk3, 49, Hd.cells h), (gk, 43, (cmL ks).toArray)]) := HF.out.add hk hgl hbg
  clear hbg hgl hk hh
  refine ⟨.slice (some ⟨gk, 0, none⟩) m.cm.l m.cm.l, rfl, ?_⟩
  try simp only [pS]
  refine tK (.slice (some ⟨gk, 0, none⟩) m.cm.l m.cm.l) ?_
  try simp only [pS]
  refine WL.nil ?_
  try simp only [pS]
  go_upto_region 4 with fail
  refine WL.start ?_
  refine tK (.pointer (some ⟨gk1, 28, none⟩)) ?_
  refine tW (m.cm.v) (eL 44 _ rfl ⟨gk1, 28, none⟩ (load_one ((HF.out.box 0 _ _ _ rfl).cell 28 |>.trans (by kernel_rfl)) Try.und48 rfl)) ?_
  refine tK (.int .i64 ((m.cm.l : Nat) : Int)) ?_
  refine tK (.int .i64 0) ?_
  try simp only [pS]
  refine WL.nil ?_
  try simp only [pS]
  go_wp2
  go_loopw [5, 24] (fun v5 v24 wr => ∃ (i : Nat) (sa : Option Addr) (sn sc : Nat), v5 = .slice sa sn sc ∧ v24 = .int .i64 ((i : Nat) : Int) ∧ i ≤ m.cm.l ∧ sn ≤ i ∧ Hid (OwH wr w.heap.size ⟨sa, sn, sc⟩ (newF m.ky.a m.st.n h.k.up cs ks i)) ∧ Hid (Fr No w wr [(gk1, 46, Mg.cells m), (gk3, 49, Hd.cells h), (gk, 43, (cmL ks).toArray)])) (fun _ i _ => m.cm.l - (intOf i).toNat)
  case atStart => exact ⟨0, none, 0, 0, rfl, by go_num, by omega, by omega, ⟨Own.nil _ _ _ _, rfl⟩, HF⟩
  case round =>
    clear HF
    obtain ⟨i, sa, sn, sc, rfl, rfl, hi, hsn, HO, HF⟩ := hrel
    by_cases hlt : i < m.cm.l
    · skip
      obtain ⟨pb, po, hca, hcc⟩ := HCS.out.row.at (i := i) (by rw [HCS.out.len]; exact hlt)
      have hsl : m.cm.v = .slice (some ⟨pb, po, none⟩) m.cm.l m.cm.k := by unfold Sl.v; rw [hca]
      have HCC : Hid (∀ (j : Nat) v, (Cm.cs (cAt cs i))[j]? = some v → w.cell? ⟨pb, po + i * 9 + j, none⟩ = some v) := hcc
      clear hcc
      go_upto_region 5 with fail
      refine WL.start ?_
      refine tW (.bool true) (eB .lss 3 _ _ _ rfl (.int .i64 ((i : Nat) : Int)) (.int .i64 ((m.cm.l : Nat) : Int)) _ (by rw [b_lss, decide_eq_true (by omega)])) ?_
      try simp only [pS]
      refine WL.nil ?_
      try simp only [pS]
      go_upto_region 6 with fail
      refine WL.start ?_
      refine tK (.int .i64 ((i : Nat) : Int)) ?_
      refine tW (.pointer (some ⟨pb, po + i * 9, none⟩)) (exec_ixA 44 9 Try.und48e Try.size48e _ _ rfl pb po m.cm.l m.cm.k i (Eq.trans (b := m.cm.v) (by kernel_rfl) hsl) (by kernel_rfl) hlt) ?_
      refine tW (.agg (Cm.cells (cAt cs i))) (eL 43 _ rfl ⟨pb, po + i * 9, none⟩ (load_Ca (fun j v h => HF.out.kept.cell (HCC.out j v h) (fun e => e)))) ?_
      try simp only [pS]
      refine wp_runW (.pointer (some ⟨wr.heap.size, 0, none⟩)) (wr.alloc (.cells (Cm.cells cZ) 43)) (exec_alloc 43 rfl (Cm.cells cZ) zero47) (by kernel_rfl) ?_
      try simp only [pS]
      have HO : Hid (OwH (wr.alloc (.cells (Cm.cells cZ) 43)) w.heap.size ⟨sa, sn, sc⟩ (newF m.ky.a m.st.n h.k.up cs ks i)) := HO.out.no ((Kept.refl No _).alloc _)
      have HF : Hid (Fr No w _ [(gk1, 46, Mg.cells m), (gk3, 49, Hd.cells h), (gk, 43, (cmL ks).toArray), (wr.heap.size, 43, Cm.cells cZ)]) := HF.out.alloc _ _
      generalize wr.alloc (.cells (Cm.cells cZ) 43) = wk7 at HF HO ⊢
      generalize wr.heap.size = gk6 at HF ⊢
      refine tK (.int .i64 ((i : Nat) : Int)) ?_
      try simp only [pS]
      refine wp_storeW 43 _ _ rfl ⟨gk6, 0, none⟩ (.agg (Cm.cells (cAt cs i))) (by kernel_rfl) (by kernel_rfl) (wk7.setRow gk6 (Cm.cells (cAt cs i))) (run_store_to (cur := Cm.cs cZ) (vs := Cm.cs (cAt cs i)) (new := Cm.cs (cAt cs i)) (HF.out.box 3 _ _ _ rfl) (by kernel_rfl) Try.size47 (Nat.le_of_ble_eq_true (by kernel_rfl)) (Cm.oneL _) (by kernel_rfl)) (by kernel_rfl) ?_
      try simp only [pS]
      have HO : Hid (OwH (wk7.setRow gk6 (Cm.cells (cAt cs i))) w.heap.size ⟨sa, sn, sc⟩ (newF m.ky.a m.st.n h.k.up cs ks i)) := HO.out.kept (Kept.setRow _ _ _) (fun k h e => (HO.out.own.notBox (HF.out.box 3 _ _ _ rfl) (by decide)) ((show k = gk6 from e) ▸ h))
      have HF : Hid (Fr No w _ [(gk1, 46, Mg.cells m), (gk3, 49, Hd.cells h), (gk, 43, (cmL ks).toArray), (gk6, 43, Cm.cells (cAt cs i))]) := HF.out.set 3 rfl _
      generalize wk7.setRow gk6 (Cm.cells (cAt cs i)) = wk8 at HF HO ⊢
      refine WL.nil ?_
      try simp only [pS]
      go_upto_region 7 with fail
      refine WL.start ?_
      refine tK (.int .i64 m.st.n) ?_
      refine tK (.int .i64 ((i : Nat) : Int)) ?_
      refine tW (.int .i64 (m.st.n + (i : Int))) (eB .add 3 _ _ _ rfl (.int .i64 m.st.n) (.int .i64 ((i : Nat) : Int)) _ (b_addw _ _ _ (by rw [IntKind.wrap_i64]; omega) _)) ?_
      refine tK (.int .i64 (m.st.n + (i : Int))) ?_
      try simp only [pS]
      refine WL.nil ?_
      try simp only [pS]
      go_upto_region 8 with fail
      refine WL.start ?_
      refine tW (.agg (Cm.cells (cAt cs i))) (eL 43 _ rfl ⟨gk6, 0, none⟩ (run_load_part (cs := Cm.cs (cAt cs i)) (sub := Cm.cs (cAt cs i)) (HF.out.box 3 _ _ _ rfl) (Part.all _) Try.und47 rfl Try.size47)) ?_
      refine tW (.agg (Cm.cells cZ)) (exec_build 43 _ rfl (Cm.cells cZ) (by kernel_rfl)) ?_
      try simp only [pS]
      cases q1 : (eqC (cAt cs i) cZ)
      ·skip
       refine tW (.bool false) (eB .eql 43 _ _ _ rfl (.agg (Cm.cells (cAt cs i))) (.agg (Cm.cells cZ)) _ (by rw [eqC_eql, q1]; try rfl)) ?_
       refine tK (.bool false) ?_
       refine tK (.slice (some ⟨gk, 0, none⟩) m.cm.l m.cm.l) ?_
       refine tK (.int .i64 ((i : Nat) : Int)) ?_
       refine tW (.pointer (some ⟨gk, 0 + i * 9, none⟩)) (exec_ixA 44 9 Try.und48e Try.size48e _ _ rfl gk 0 m.cm.l m.cm.l i (by kernel_rfl) (by kernel_rfl) hlt) ?_
       refine tW (.agg (Cm.cells (cAt ks i))) (eL 43 _ rfl ⟨gk, 0 + i * 9, none⟩ (by rw [Nat.zero_add]; exact run_load_part (cs := cmL ks) (sub := Cm.cs (cAt ks i)) (HF.out.box 2 _ _ _ rfl) (cmL_part _ _ (by rw [HKL.out]; exact hlt)) Try.und47 rfl Try.size47)) ?_
       refine tW (.agg (Cm.cells cZ)) (exec_build 43 _ rfl (Cm.cells cZ) (by kernel_rfl)) ?_
       try simp only [pS]
       cases q2 : (eqC (cAt ks i) cZ)
       ·skip
        refine tW (.bool true) (eB .neq 43 _ _ _ rfl (.agg (Cm.cells (cAt ks i))) (.agg (Cm.cells cZ)) _ (by rw [eqC_neq, q2]; try rfl)) ?_
        refine tK (.bool true) ?_
        refine tK (.bool true) ?_
        refine sK ?_
        refine sK ?_
        refine sK ?_
        refine sK ?_
        refine sK ?_
        refine tK (.bool true) ?_
        refine tK (.bool true) ?_
        refine sK ?_
        refine sK ?_
        refine tK (.bool true) ?_
        try simp only [pS]
        refine WL.nil ?_
        try simp only [pS]
        have hp : passB m.st.n h.k.up cs ks i = true := by simp [passB, q1, q2]
        have HO2 : Hid (OwH wk8 w.heap.size ⟨sa, sn, sc⟩ (newF m.ky.a m.st.n h.k.up cs ks (i + 1))) := by unfold newF; rw [if_pos hp]; exact HO
        have HF0 : Hid (Fr No w wk8 [(gk1, 46, Mg.cells m), (gk3, 49, Hd.cells h), (gk, 43, (cmL ks).toArray)]) := (show Fr No w wk8 ([(gk1, 46, Mg.cells m), (gk3, 49, Hd.cells h), (gk, 43, (cmL ks).toArray)] ++ [(gk6, 43, Cm.cells (cAt cs i))]) from HF.out).front
        clear q1 q2 hp
        go_wp2
        go_roundw
        case rel => exact ⟨i + 1, sa, sn, sc, rfl, by go_num, by omega, by omega, HO2, HF0⟩
        case measure => simp [intOf]; omega
       ·skip
        refine tW (.bool false) (eB .neq 43 _ _ _ rfl (.agg (Cm.cells (cAt ks i))) (.agg (Cm.cells cZ)) _ (by rw [eqC_neq, q2]; try rfl)) ?_
        refine tK (.bool false) ?_
        refine tK (.bool false) ?_
        refine tK (.int .i64 (m.st.n + (i : Int))) ?_
        refine tK (.pointer (some ⟨gk3, 3, none⟩)) ?_
        refine tK (.pointer (some ⟨gk3, 3, none⟩)) ?_
        refine tW (.int .i64 h.k.up) (eL 3 _ rfl ⟨gk3, 3, none⟩ (load_one ((HF.out.box 1 _ _ _ rfl).cell 3 |>.trans (by kernel_rfl)) Try.und3 rfl)) ?_
        try simp only [pS]
        cases q3 : (decide ((m.st.n + (i : Int)) ≤ h.k.up))
        ·skip
         refine tW (.bool false) (eB .leq 3 _ _ _ rfl (.int .i64 (m.st.n + (i : Int))) (.int .i64 h.k.up) _ (by rw [b_leq, q3]; try rfl)) ?_
         refine tK (.bool false) ?_
         refine tK (.bool false) ?_
         refine tK (.int .i64 (m.st.n + (i : Int))) ?_
         try simp only [pS]
         cases q4 : (decide (1048576 < (m.st.n + (i : Int))))
         ·skip
          refine tW (.bool false) (eB .gtr 3 _ _ _ rfl (.int .i64 (m.st.n + (i : Int))) (.int .i64 1048576) _ (by rw [b_gtr, q4]; try rfl)) ?_
          refine tK (.bool false) ?_
          try simp only [pS]
          refine WL.nil ?_
          try simp only [pS]
          have hp : passB m.st.n h.k.up cs ks i = false := by simp [passB, q1, q2, q3, q4]
          have HNf : Hid (newF m.ky.a m.st.n h.k.up cs ks (i + 1) = newF m.ky.a m.st.n h.k.up cs ks i ++ [chM m.ky.a (m.st.n + i) (cAt cs i)]) := newF_no _ _ _ _ _ _ hp
          have hi20 : m.st.n + (i : Int) ≤ 1048576 := by have := q4; simp at this; omega
          clear q1 q2 q3 q4 hp
          go_upto_region 9 with fail
          refine WL.start ?_
          refine tK (.slice sa sn sc) ?_
          refine tK (.pointer (some ⟨gk1, 7, none⟩)) ?_
          refine tK (.pointer (some ⟨gk1, 8, none⟩)) ?_
          refine tW (.int .i64 m.ky.a) (eL 3 _ rfl ⟨gk1, 8, none⟩ (load_one ((HF.out.box 0 _ _ _ rfl).cell 8 |>.trans (by kernel_rfl)) Try.und3 rfl)) ?_
          refine tK (.int .i64 (m.st.n + (i : Int))) ?_
          refine tW (.agg (Ky.cells ⟨3, m.ky.a, (m.st.n + (i : Int)), 0⟩)) (exec_build 39 _ rfl (Ky.cells ⟨3, m.ky.a, (m.st.n + (i : Int)), 0⟩) (by kernel_rfl)) ?_
          refine tW (.agg (Cm.cells (cAt cs i))) (eL 43 _ rfl ⟨gk6, 0, none⟩ (run_load_part (cs := Cm.cs (cAt cs i)) (sub := Cm.cs (cAt cs i)) (HF.out.box 3 _ _ _ rfl) (Part.all _) Try.und47 rfl Try.size47)) ?_
          refine tW (.agg (In.cells ⟨spZ, spZ, (cAt cs i), true⟩)) (exec_build 65 _ rfl (In.cells ⟨spZ, spZ, (cAt cs i), true⟩) (by kernel_rfl)) ?_
          refine tW (.agg (Ch.cells ⟨⟨3, m.ky.a, (m.st.n + (i : Int)), 0⟩, blZ, ⟨spZ, spZ, (cAt cs i), true⟩, bvZ⟩)) (exec_build 67 _ rfl (Ch.cells ⟨⟨3, m.ky.a, (m.st.n + (i : Int)), 0⟩, blZ, ⟨spZ, spZ, (cAt cs i), true⟩, bvZ⟩) (by kernel_rfl)) ?_
          try simp only [pS]
          refine wp_runW (.slice (some ⟨wk8.heap.size, 0, none⟩) 1 1) (wk8.alloc (.cells (Ch.cells ⟨⟨3, m.ky.a, (m.st.n + (i : Int)), 0⟩, blZ, ⟨spZ, spZ, (cAt cs i), true⟩, bvZ⟩) 67)) (exec_slice2 56 67 _ rfl (Ch.cells ⟨⟨3, m.ky.a, (m.st.n + (i : Int)), 0⟩, blZ, ⟨spZ, spZ, (cAt cs i), true⟩, bvZ⟩) (.agg (Ch.cells ⟨⟨3, m.ky.a, (m.st.n + (i : Int)), 0⟩, blZ, ⟨spZ, spZ, (cAt cs i), true⟩, bvZ⟩)) (by kernel_rfl) (by kernel_rfl)) (by kernel_rfl) ?_
          try simp only [pS]
          have HO : Hid (OwH (wk8.alloc (.cells (Ch.cells ⟨⟨3, m.ky.a, (m.st.n + (i : Int)), 0⟩, blZ, ⟨spZ, spZ, (cAt cs i), true⟩, bvZ⟩) 67)) w.heap.size ⟨sa, sn, sc⟩ (newF m.ky.a m.st.n h.k.up cs ks i)) := HO.out.no ((Kept.refl No _).alloc _)
          have HF : Hid (Fr No w _ [(gk1, 46, Mg.cells m), (gk3, 49, Hd.cells h), (gk, 43, (cmL ks).toArray), (gk6, 43, Cm.cells (cAt cs i)), (wk8.heap.size, 67, Ch.cells ⟨⟨3, m.ky.a, (m.st.n + (i : Int)), 0⟩, blZ, ⟨spZ, spZ, (cAt cs i), true⟩, bvZ⟩)]) := HF.out.alloc _ _
          generalize wk8.alloc (.cells (Ch.cells ⟨⟨3, m.ky.a, (m.st.n + (i : Int)), 0⟩, blZ, ⟨spZ, spZ, (cAt cs i), true⟩, bvZ⟩) 67) = wk10 at HF HO ⊢
          generalize wk8.heap.size = gk9 at HF ⊢
          obtain ⟨sa2, cap2, w2, hrun, hown, hk2, hat2⟩ := run_appN (w := wk10) 56 56 67 24 248 (.agg chZ.cells) Try.und61 Try.info88 rfl (by omega) w.heap.size sn sc sa (chL (newF m.ky.a m.st.n h.k.up cs ks i)) HO.out.own (some ⟨gk9, 0, none⟩) 1 1 (Ch.cs ⟨⟨3, m.ky.a, (m.st.n + (i : Int)), 0⟩, blZ, ⟨spZ, spZ, (cAt cs i), true⟩, bvZ⟩) rfl (fun e => by cases e) (fun j u hj => ⟨_, rfl, by rw [addr_add, Nat.zero_add, (HF.out.box 4 _ _ _ rfl).cell]; simpa [Ch.cells] using hj⟩) (Ch.oneL _) (by omega) (by omega) (by have := HF.out.kept.size; omega)
          refine wp_runW (.slice sa2 (sn + 1) cap2) w2 (exec_appN _ _ 56 56 rfl _ _ (by kernel_rfl) (by kernel_rfl) hrun) (by kernel_rfl) ?_
          try simp only [pS]
          have HO2 : Hid (OwH w2 w.heap.size ⟨sa2, sn + 1, cap2⟩ (newF m.ky.a m.st.n h.k.up cs ks (i + 1))) := ⟨by rw [HNf.out, chL_app, chL_1]; exact hown, by rw [HNf.out]; simpa using HO.out.len⟩
          have HF0 : Hid (Fr No w w2 [(gk1, 46, Mg.cells m), (gk3, 49, Hd.cells h), (gk, 43, (cmL ks).toArray)]) := (show Fr No w wk10 ([(gk1, 46, Mg.cells m), (gk3, 49, Hd.cells h), (gk, 43, (cmL ks).toArray)] ++ [(gk6, 43, Cm.cells (cAt cs i)), (gk9, 67, Ch.cells ⟨⟨3, m.ky.a, (m.st.n + (i : Int)), 0⟩, blZ, ⟨spZ, spZ, (cAt cs i), true⟩, bvZ⟩)]) from HF.out).front.app HO.out.own hk2 (by simp)
          clear hown hk2 hat2 hrun
          refine tK (.slice sa2 (sn + 1) cap2) ?_
          try simp only [pS]
          refine WL.nil ?_
          try simp only [pS]
          go_wp2
          go_roundw
          case rel => exact ⟨i + 1, sa2, sn + 1, cap2, rfl, by go_num, by omega, by omega, HO2, HF0⟩
          case measure => simp [intOf]; omega
         ·skip
          refine tW (.bool true) (eB .gtr 3 _ _ _ rfl (.int .i64 (m.st.n + (i : Int))) (.int .i64 1048576) _ (by rw [b_gtr, q4]; try rfl)) ?_
          refine tK (.bool true) ?_
          try simp only [pS]
          refine WL.nil ?_
          try simp only [pS]
          have hp : passB m.st.n h.k.up cs ks i = true := by simp [passB, q1, q2, q3, q4]
          have HO2 : Hid (OwH wk8 w.heap.size ⟨sa, sn, sc⟩ (newF m.ky.a m.st.n h.k.up cs ks (i + 1))) := by unfold newF; rw [if_pos hp]; exact HO
          have HF0 : Hid (Fr No w wk8 [(gk1, 46, Mg.cells m), (gk3, 49, Hd.cells h), (gk, 43, (cmL ks).toArray)]) := (show Fr No w wk8 ([(gk1, 46, Mg.cells m), (gk3, 49, Hd.cells h), (gk, 43, (cmL ks).toArray)] ++ [(gk6, 43, Cm.cells (cAt cs i))]) from HF.out).front
          clear q1 q2 q3 q4 hp
          go_wp2
          go_roundw
          case rel => exact ⟨i + 1, sa, sn, sc, rfl, by go_num, by omega, by omega, HO2, HF0⟩
          case measure => simp [intOf]; omega
        ·skip
         refine tW (.bool true) (eB .leq 3 _ _ _ rfl (.int .i64 (m.st.n + (i : Int))) (.int .i64 h.k.up) _ (by rw [b_leq, q3]; try rfl)) ?_
         refine tK (.bool true) ?_
         refine tK (.bool true) ?_
         refine sK ?_
         refine sK ?_
         refine tK (.bool true) ?_
         try simp only [pS]
         refine WL.nil ?_
         try simp only [pS]
         have hp : passB m.st.n h.k.up cs ks i = true := by simp [passB, q1, q2, q3]
         have HO2 : Hid (OwH wk8 w.heap.size ⟨sa, sn, sc⟩ (newF m.ky.a m.st.n h.k.up cs ks (i + 1))) := by unfold newF; rw [if_pos hp]; exact HO
         have HF0 : Hid (Fr No w wk8 [(gk1, 46, Mg.cells m), (gk3, 49, Hd.cells h), (gk, 43, (cmL ks).toArray)]) := (show Fr No w wk8 ([(gk1, 46, Mg.cells m), (gk3, 49, Hd.cells h), (gk, 43, (cmL ks).toArray)] ++ [(gk6, 43, Cm.cells (cAt cs i))]) from HF.out).front
         clear q1 q2 q3 hp
         go_wp2
         go_roundw
         case rel => exact ⟨i + 1, sa, sn, sc, rfl, by go_num, by omega, by omega, HO2, HF0⟩
         case measure => simp [intOf]; omega
      ·skip
       refine tW (.bool true) (eB .eql 43 _ _ _ rfl (.agg (Cm.cells (cAt cs i))) (.agg (Cm.cells cZ)) _ (by rw [eqC_eql, q1]; try rfl)) ?_
       refine tK (.bool true) ?_
       refine sK ?_
       refine sK ?_
       refine sK ?_
       refine sK ?_
       refine sK ?_
       refine sK ?_
       refine tK (.bool true) ?_
       refine tK (.bool true) ?_
       refine sK ?_
       refine sK ?_
       refine sK ?_
       refine sK ?_
       refine sK ?_
       refine tK (.bool true) ?_
       refine tK (.bool true) ?_
       refine sK ?_
       refine sK ?_
       refine tK (.bool true) ?_
       try simp only [pS]
       refine WL.nil ?_
       try simp only [pS]
       have hp : passB m.st.n h.k.up cs ks i = true := by simp [passB, q1]
       have HO2 : Hid (OwH wk8 w.heap.size ⟨sa, sn, sc⟩ (newF m.ky.a m.st.n h.k.up cs ks (i + 1))) := by unfold newF; rw [if_pos hp]; exact HO
       have HF0 : Hid (Fr No w wk8 [(gk1, 46, Mg.cells m), (gk3, 49, Hd.cells h), (gk, 43, (cmL ks).toArray)]) := (show Fr No w wk8 ([(gk1, 46, Mg.cells m), (gk3, 49, Hd.cells h), (gk, 43, (cmL ks).toArray)] ++ [(gk6, 43, Cm.cells (cAt cs i))]) from HF.out).front
       clear q1 hp
       go_wp2
       go_roundw
       case rel => exact ⟨i + 1, sa, sn, sc, rfl, by go_num, by omega, by omega, HO2, HF0⟩
       case measure => simp [intOf]; omega
    · skip
      go_upto_region 5 with fail
      refine WL.start ?_
      refine tW (.bool false) (eB .lss 3 _ _ _ rfl (.int .i64 ((i : Nat) : Int)) (.int .i64 ((m.cm.l : Nat) : Int)) _ (by rw [b_lss, decide_eq_false (by omega)])) ?_
      try simp only [pS]
      refine WL.nil ?_
      try simp only [pS]
      go_upto_region 11 with fail
      refine WL.start ?_
      refine tK (.slice sa sn sc) ?_
      refine tK (.slice sa sn sc) ?_
      try simp only [pS]
      refine WL.nil ?_
      try simp only [pS]
      go_wp2
      rw [HC.out]
      exact ⟨⟨sa, sn, sc⟩, rfl, by rw [show m.cm.l = i by omega]; exact HO.out, HF.out.kept⟩

end Go.Proofs.Ytcgnbpaaalmkoab
