import Derived.RangeFuncNested
import Derived.RangeFuncBound
import Derived.RangeFuncCalls
import Derived.RangeFuncLeaves
import Derived.RangeFuncBox
import Derived.Shelf.Abstract
import Derived.Sort.QuietTacIn
import Derived.Shelf.RegionOpen
import Derived.OwnWalkIn
import Derived.TacticsInMore
import Derived.LoopNIn
import Derived.LoopIn
import Derived.Sort.CutIn
import Derived.Test.YtcgnbpaaalmkoabN
namespace Go.Proofs.Ytcgnbpaaalmkoab
open Go.RowKit Go.Shelf
set_option linter.unusedVariables false
set_option linter.unusedSimpArgs false

theorem b_subw (x y z : Int) (h : IntKind.i64.wrap (x - y) = z) (w : World) : (binOp .sub 3 (.int .i64 x) (.int .i64 y)).run Try.prog w = .ok (.int .i64 z) w := by rw [← h]; kernel_rfl
theorem b_addw (x y z : Int) (h : IntKind.i64.wrap (x + y) = z) (w : World) : (binOp .add 3 (.int .i64 x) (.int .i64 y)).run Try.prog w = .ok (.int .i64 z) w := by rw [← h]; kernel_rfl
attribute [local go_sem] Oper.semAt_some
def decF (f : Int) (c : Nat) (l : List (Int × Cm)) : List Cm := l.foldl (fun acc x => if f ≤ x.1 ∧ x.1 - f < c then acc.set (x.1 - f).toNat x.2 else acc) (List.replicate c cZ)
theorem decF_snoc (f : Int) (c : Nat) (l : List (Int × Cm)) (x : Int × Cm) : decF f c (l ++ [x]) = if f ≤ x.1 ∧ x.1 - f < c then (decF f c l).set (x.1 - f).toNat x.2 else decF f c l := by simp [decF]
theorem fold_len (f : Int) (c : Nat) : ∀ (l : List (Int × Cm)) (acc : List Cm), (l.foldl (fun acc x => if f ≤ x.1 ∧ x.1 - f < c then acc.set (x.1 - f).toNat x.2 else acc) acc).length = acc.length
  | [], acc => rfl
  | x :: r, acc => by
    rw [List.foldl_cons, fold_len f c r]
    split <;> simp
theorem decF_len (f : Int) (c : Nat) (l : List (Int × Cm)) : (decF f c l).length = c := by unfold decF; rw [fold_len]; simp
structure OwC (w : World) (base : Nat) (s : Sl) (cs : List Cm) : Prop where
  own : Own 43 9 w base s.a s.k s.l (cmL cs)
  len : cs.length = s.l
def DcOut (w : World) (f : Int) (c : Nat) (ps : List Pl) (e : Ending) (w' : World) : Prop := ∃ g : Nat, e = .returned (.slice (some ⟨g, 0, none⟩) c c) ∧ Box w' g 43 (cmL (decF f c (decd ps))).toArray ∧ w.heap.size ≤ g ∧ Kept No w w'
/-- What the function holds while it goes over the row. -/
structure DcAt (w : World) (g1 g2 g3 g : Nat) (f : Int) (c : Nat) (l : List (Int × Cm)) (W : World) : Prop where
  b1 : Box W g1 3 #[.int .i64 f]
  b2 : Box W g2 3 #[.int .i64 (c : Int)]
  b3 : Box W g3 44 #[.slice (some ⟨g, 0, none⟩) c c]
  b4 : Box W g 43 (cmL (decF f c l)).toArray
  kept : Kept No w W
theorem DcAt.cells {w : World} {g1 g2 g3 g : Nat} {f : Int} {c : Nat} {l : List (Int × Cm)} {A' B' : World} {row : Option Nat} {N : Nat} (h : DcAt w g1 g2 g3 g f c l A') (hg : A'.grownBy B' row) (hr : ∀ r, row = some r → N ≤ r ∧ ∃ o : Obj, A'.heap[r]? = some o ∧ o.isCells = false) (hN : w.heap.size ≤ N) : DcAt w g1 g2 g3 g f c l B' := by
  have hr' : ∀ r, row = some r → ∃ o : Obj, A'.heap[r]? = some o ∧ o.isCells = false := fun r e => (hr r e).2
  exact ⟨box_cells h.b1 hg hr', box_cells h.b2 hg hr', box_cells h.b3 hg hr', box_cells h.b4 hg hr', h.kept.grown hg (fun k e hk => by have := (hr k e).1; omega)⟩
set_option maxRecDepth 100000 in
set_option maxHeartbeats 4000000 in
theorem decisions_any (s : Sl) (ps : List Pl) (f : Int) (c : Nat) (w : World) (hr : RdP w s ps) (hlt : ∀ k, At s.a k → k < w.heap.size) (hm : ps.length ≤ 10000000000000) (hc : c ≤ 3518437208883) (hf : 0 ≤ f ∧ f ≤ 4611686018427387904) (hg : ∀ x ∈ decd ps, 0 ≤ x.1 ∧ x.1 ≤ 4611686018427387904) : Calls Try.prog 40 #[s.v, .int .i64 f, .int .i64 (c : Int)] w (DcOut w f c ps) := by
  obtain ⟨C, hC⟩ : ∃ C : Ending → World → Prop, C = (DcOut w f c ps) := ⟨_, rfl⟩
  have HC : Hid (C = (DcOut w f c ps)) := hC
  rw [← hC]
  clear hC
  have HR : Hid (RdP w s ps) := hr
  have HLt : Hid (∀ k, At s.a k → k < w.heap.size) := hlt
  have HG : Hid (∀ x ∈ decd ps, 0 ≤ x.1 ∧ x.1 ≤ 4611686018427387904) := hg
  have HM : Hid (s.l ≤ 10000000000000) := by show _ ≤ _; rw [← hr.len]; exact hm
  clear hr hlt hg hm
  have HF : Hid (Fr No w w []) := Fr.start _ _
  refine (callsIn_wide (n := 3)).1 ?_
  refine callsIn_of_wp_marks Try.func40 rfl trivial ?_ rfl
  refine wpIn_wide.2 ?_
  simp only [Try.ntmps40, List.size_toArray, List.length_cons, List.length_nil, Nat.reduceAdd, Nat.reduceSub, Array.replicate_succ, Array.replicate_zero, List.push_toArray, List.append_toArray, List.nil_append, List.cons_append]
  go_upto_region 0 with fail
  refine WL.start ?_
  refine wp_runW (.pointer (some ⟨w.heap.size, 0, none⟩)) (w.alloc (.cells (#[.int .i64 f]) 3)) (exec_box1 3 _ rfl (.int .i64 f) (by kernel_rfl) (by kernel_rfl)) (by kernel_rfl) ?_
  try simp only [pS]
  have HF : Hid (Fr No w _ [(w.heap.size, 3, #[.int .i64 f])]) := HF.out.alloc _ _
  generalize w.alloc (.cells (#[.int .i64 f]) 3) = wk2 at HF ⊢
  generalize w.heap.size = gk1 at HF ⊢
  refine wp_runW (.pointer (some ⟨wk2.heap.size, 0, none⟩)) (wk2.alloc (.cells (#[.int .i64 (c : Int)]) 3)) (exec_box1 3 _ rfl (.int .i64 (c : Int)) (by kernel_rfl) (by kernel_rfl)) (by kernel_rfl) ?_
  try simp only [pS]
  have HF : Hid (Fr No w _ [(gk1, 3, #[.int .i64 f]), (wk2.heap.size, 3, #[.int .i64 (c : Int)])]) := HF.out.alloc _ _
  generalize wk2.alloc (.cells (#[.int .i64 (c : Int)]) 3) = wk4 at HF ⊢
  generalize wk2.heap.size = gk3 at HF ⊢
  refine tK (.slice none 0 0) ?_
  try simp only [pS]
  refine WL.nil ?_
  try simp only [pS]
  go_upto_region 1 with fail
  refine WL.start ?_
  refine tW (.int .i64 (c : Int)) (eL 3 _ rfl ⟨gk3, 0, none⟩ (load_one ((HF.out.box 1 _ _ _ rfl).cell 0 |>.trans (by kernel_rfl)) Try.und3 rfl)) ?_
  try simp only [pS]
  refine wp_runW (.slice (some ⟨wk4.heap.size, 0, none⟩) c c) (wk4.alloc (.cells ((cmL (List.replicate c cZ)).toArray) 43)) (exec_make 44 _ _ rfl _ _ (by kernel_rfl) (by kernel_rfl) (make_cm _ c hc)) (by kernel_rfl) ?_
  try simp only [pS]
  have HF : Hid (Fr No w _ [(gk1, 3, #[.int .i64 f]), (gk3, 3, #[.int .i64 (c : Int)]), (wk4.heap.size, 43, (cmL (List.replicate c cZ)).toArray)]) := HF.out.alloc _ _
  generalize wk4.alloc (.cells ((cmL (List.replicate c cZ)).toArray) 43) = wk6 at HF ⊢
  generalize wk4.heap.size = gk5 at HF ⊢
  refine wp_runW (.pointer (some ⟨wk6.heap.size, 0, none⟩)) (wk6.alloc (.cells (#[.slice none 0 0]) 44)) (exec_alloc1 44 rfl (.slice none 0 0) rfl zero48) (by kernel_rfl) ?_
  try simp only [pS]
  have HF : Hid (Fr No w _ [(gk1, 3, #[.int .i64 f]), (gk3, 3, #[.int .i64 (c : Int)]), (gk5, 43, (cmL (List.replicate c cZ)).toArray), (wk6.heap.size, 44, #[.slice none 0 0])]) := HF.out.alloc _ _
  generalize wk6.alloc (.cells (#[.slice none 0 0]) 44) = wk8 at HF ⊢
  generalize wk6.heap.size = gk7 at HF ⊢
  refine wp_storeW 44 _ _ rfl ⟨gk7, 0, none⟩ (.slice (some ⟨gk5, 0, none⟩) c c) (by kernel_rfl) (by kernel_rfl) (wk8.setRow gk7 (#[.slice (some ⟨gk5, 0, none⟩) c c])) (run_store_to (cur := [.slice none 0 0]) (vs := [.slice (some ⟨gk5, 0, none⟩) c c]) (new := [.slice (some ⟨gk5, 0, none⟩) c c]) (HF.out.box 3 _ _ _ rfl) (by kernel_rfl) Try.size48 (Nat.le_of_ble_eq_true (by kernel_rfl)) (by simp [Value.oneCell', Sl.v]) (by kernel_rfl)) (by kernel_rfl) ?_
  try simp only [pS]
  have HF : Hid (Fr No w _ [(gk1, 3, #[.int .i64 f]), (gk3, 3, #[.int .i64 (c : Int)]), (gk5, 43, (cmL (List.replicate c cZ)).toArray), (gk7, 44, #[.slice (some ⟨gk5, 0, none⟩) c c])]) := HF.out.set 3 rfl _
  generalize wk8.setRow gk7 (#[.slice (some ⟨gk5, 0, none⟩) c c]) = wk9 at HF ⊢
  refine WL.nil ?_
  try simp only [pS]
  have HF2 : Hid (Fr No w (wk9) [(gk1, 3, #[.int .i64 f]), (gk3, 3, #[.int .i64 (c : Int)]), (gk5, 43, (cmL (List.replicate c cZ)).toArray), (gk7, 44, #[.slice (some ⟨gk5, 0, none⟩) c c])]) := HF.out
  go_upto_region 2 with fail
  refine WL.start ?_
  refine tK (s.v) ?_
  try simp only [pS]
  refine wp_callW 42 #[s.v] (by kernel_rfl) _ (decided_any s ps _ (HR.out.no HF.out.kept) (fun k e => Nat.lt_of_lt_of_le (HLt.out k e) HF.out.kept.size)) (by kernel_rfl) ?_
  rintro e wk10 ⟨lb, rfl, hsq, hlb, hk⟩
  have HF : Hid (Fr No w (wk10) [(gk1, 3, #[.int .i64 f]), (gk3, 3, #[.int .i64 (c : Int)]), (gk5, 43, (cmL (List.replicate c cZ)).toArray), (gk7, 44, #[.slice (some ⟨gk5, 0, none⟩) c c])]) := HF.out.no hk
  have HSq : Hid (SeqD wk10 lb s ps) := hsq
  have HLb : Hid (wk9.heap.size ≤ lb) := hlb
  clear hsq hlb
  clear hk
  refine ⟨.func (.func 43) #[] #[.pointer (some ⟨lb, 0, none⟩)], rfl, ?_⟩
  try simp only [pS]
  refine WL.nil ?_
  try simp only [pS]
  have HB0 : Hid (DcAt w gk1 gk3 gk7 gk5 f c [] wk10) := ⟨HF.out.box 0 _ _ _ rfl, HF.out.box 1 _ _ _ rfl, HF.out.box 3 _ _ _ rfl, HF.out.box 2 _ _ _ rfl, HF.out.kept⟩
  have HBl : Hid (gk5 < lb) := Nat.lt_of_lt_of_le (HF2.out.box 2 _ _ _ rfl).lt HLb.out
  have HNA : Hid (¬ At s.a gk5) := fun e => by have h1 := HLt.out _ e; have h2 := HF.out.low 2 _ _ _ rfl; omega
  have HBw : Hid (w.heap.size ≤ gk5) := HF.out.low 2 _ _ _ rfl
  have HN1 : Hid (gk1 ≠ gk5) := HF.out.ne 0 2 rfl rfl (by decide)
  have HN2 : Hid (gk3 ≠ gk5) := HF.out.ne 1 2 rfl rfl (by decide)
  have HN3 : Hid (gk7 ≠ gk5) := HF.out.ne 3 2 rfl rfl (by decide)
  clear HF HF2 HLb
  go_wp2
  refine (wpIn_wide (n := 3)).1 ?_
  refine' rf_B (F := Fence.wide) rfl (by omega) (gf := 43) (lb := #[.pointer (some ⟨lb, 0, none⟩)]) rfl trivial (enters_of Try.func43 (by kernel_rfl) rfl)
    (seq_mem Fence.wide (3 - 1) trivial rfl (by omega) lb s.l s ps HM.out rfl wk10 HSq.out) nb_t (nb_b HSq.out (Nat.le_refl _)) (Below.refl _ _) (fun _ => rfl)
    (fun pre W => DcAt w gk1 gk3 gk7 gk5 f c (vals pre) W)
    (fun _ _ _ => False) ?own (fun _ _ _ _ _ hs _ _ => hs) HB0.out (fun W o => (Kept.refl _ W).alloc o) 43 (fun x => Cm.cells x.1.2) _ ?assign ?body ?done ?stop
  case own => exact fun pre A' B' row h hg hr => h.cells hg hr HB0.out.kept.size
  case stop =>
    rintro D c pre W hD hpre h _
    exact h.elim
  case done =>
    rintro D ys W hD hys hI hK
    have hys : vals ys = decd ps := hys
    have hI : DcAt w gk1 gk3 gk7 gk5 f c (decd ps) W := by rw [← hys]; exact hI
    have e1 : W.cell? ⟨gk7, 0, none⟩ = some (.slice (some ⟨gk5, 0, none⟩) c c) := hI.b3.cell 0
    have HI : Hid (DcAt w gk1 gk3 gk7 gk5 f c (decd ps) W) := hI
    have HD : Hid (W.heap[D]? = some (.deferred (some [])) ∧ wk10.heap.size ≤ D) := ⟨hK, hD⟩
    clear hI hK hD hys
    go_wp2
    rw [HC.out]
    have hgr := grownBy_putObj' W D (.deferred none)
    have h5 := HB0.out.kept.size
    have hDw := HD.out.2
    refine ⟨by simp, .inl ⟨_, _, rfl, run_takeDeferred HD.out.1, ?_⟩⟩
    refine ⟨.slice (some ⟨gk5, 0, none⟩) c c, ?_, ?_⟩
    · exact results_tmp (fn := Try.f40) rfl _ _ _
    · exact ⟨gk5, rfl, box_cells HI.out.b4 hgr (fun r e => by cases e; exact ⟨_, HD.out.1, rfl⟩), HBw.out, HI.out.kept.grown hgr (fun k e hk => by cases e; omega)⟩
  case assign =>
    intro l x W K vb hvb hK
    simp only [List.zip_toArray, List.zip_cons_cons, List.zip_nil_left, List.zip_nil_right, List.size_toArray, List.length_cons, List.length_nil, List.foldl_toArray, List.foldl_toArray', List.foldl_cons, List.foldl_nil, p1, p2, p3]
    gi_upto_region 3 with fail
    refine WI.start ?_
    refine iK (.int .i64 x.1.1) ?_
    try simp only [pS]
    refine WI.nil ?_
    try simp only [pS]
    gi_upto_region 4 with fail
    refine WI.start ?_
    refine wi_run (.pointer (some ⟨W.heap.size, 0, none⟩)) (W.alloc (.cells (Cm.cells cZ) 43)) (exec_alloc 43 rfl (Cm.cells cZ) zero47) (by kernel_rfl) ?_
    try simp only [pS]
    refine wi_store 43 _ _ rfl ⟨W.heap.size, 0, none⟩ (.agg (Cm.cells x.1.2)) (by kernel_rfl) (by kernel_rfl) (W.alloc (.cells (Cm.cells x.1.2) 43)) (by rw [← alloc_set W (Cm.cells cZ) (Cm.cells x.1.2) 43]; exact st47 (Box.new _ _ _) rfl) (by kernel_rfl) ?_
    try simp only [pS]
    refine WI.nil ?_
    try simp only [pS]
    gi_wp2
    rw [← hvb]
    exact hK
  case body =>
    rintro l pre ⟨⟨x1, x2⟩, hx⟩ vb W hl hlo hI hbv hlen
    have HI : Hid (DcAt w gk1 gk3 gk7 gk5 f c (vals pre) W) := hI
    have HV : Hid (Box W vb 43 (Cm.cells x2)) := hbv
    have HX : Hid (0 ≤ x1 ∧ x1 ≤ 4611686018427387904) := HG.out _ hx
    have HSn := decF_snoc f c (vals pre) (x1, x2)
    simp only at HSn
    have hws : IntKind.i64.wrap (x1 - f) = x1 - f := by have := HX.out; rw [IntKind.wrap_i64]; omega
    clear hI hbv
    simp only
    gi_upto_region 5 with fail
    refine WI.start ?_
    refine iK (.int .i64 x1) ?_
    try simp only [pS]
    refine iW (.int .i64 f) (exec_load 3 _ rfl ⟨gk1, 0, none⟩ (by kernel_rfl) (.int .i64 f) (load_one ((HI.out.b1).cell 0 |>.trans (by kernel_rfl)) Try.und3 rfl)) ?_
    try simp only [pS]
    cases q1 : (decide (f ≤ x1))
    ·skip
     refine iW (.bool false) (eB .geq 3 _ _ _ rfl (.int .i64 x1) (.int .i64 f) (.bool false) (by rw [b_geq, q1]; try rfl)) ?_
     try simp only [pS]
     refine iK (.bool false) ?_
     try simp only [pS]
     refine iZ ?_
     try simp only [pS]
     refine iZ ?_
     try simp only [pS]
     refine iZ ?_
     try simp only [pS]
     refine iZ ?_
     try simp only [pS]
     refine iZ ?_
     try simp only [pS]
     refine iK (.bool false) ?_
     try simp only [pS]
     refine WI.nil ?_
     try simp only [pS]
     replace HSn : Hid (decF f c (vals pre ++ [(x1, x2)]) = decF f c (vals pre)) := HSn.trans (if_neg (fun e => by have e1 := e.1; have e2 := e.2; simp at q1; omega))
     clear hws q1
     gi_wp2
     exact ⟨(KeepsOthers.refl _).from _, Kept.refl _ _, by show DcAt w gk1 gk3 gk7 gk5 f c (vals (pre ++ [_])) W; rw [vals_snoc]; exact ⟨HI.out.b1, HI.out.b2, HI.out.b3, by rw [HSn.out]; exact HI.out.b4, HI.out.kept⟩⟩
    ·skip
     refine iW (.bool true) (eB .geq 3 _ _ _ rfl (.int .i64 x1) (.int .i64 f) (.bool true) (by rw [b_geq, q1]; try rfl)) ?_
     try simp only [pS]
     refine iK (.bool true) ?_
     try simp only [pS]
     refine iK (.int .i64 x1) ?_
     try simp only [pS]
     refine iW (.int .i64 f) (exec_load 3 _ rfl ⟨gk1, 0, none⟩ (by kernel_rfl) (.int .i64 f) (load_one ((HI.out.b1).cell 0 |>.trans (by kernel_rfl)) Try.und3 rfl)) ?_
     try simp only [pS]
     refine iW (.int .i64 (x1 - f)) (eB .sub 3 _ _ _ rfl (.int .i64 x1) (.int .i64 f) (.int .i64 (x1 - f)) (b_subw _ _ _ hws _)) ?_
     try simp only [pS]
     refine iW (.int .i64 (c : Int)) (exec_load 3 _ rfl ⟨gk3, 0, none⟩ (by kernel_rfl) (.int .i64 (c : Int)) (load_one ((HI.out.b2).cell 0 |>.trans (by kernel_rfl)) Try.und3 rfl)) ?_
     try simp only [pS]
     cases q2 : (decide ((x1 - f) < (c : Int)))
     ·skip
      refine iW (.bool false) (eB .lss 3 _ _ _ rfl (.int .i64 (x1 - f)) (.int .i64 (c : Int)) (.bool false) (by rw [b_lss, q2]; try rfl)) ?_
      try simp only [pS]
      refine iK (.bool false) ?_
      try simp only [pS]
      refine WI.nil ?_
      try simp only [pS]
      replace HSn : Hid (decF f c (vals pre ++ [(x1, x2)]) = decF f c (vals pre)) := HSn.trans (if_neg (fun e => by have e1 := e.1; have e2 := e.2; simp at q2; omega))
      clear hws q1 q2
      gi_wp2
      exact ⟨(KeepsOthers.refl _).from _, Kept.refl _ _, by show DcAt w gk1 gk3 gk7 gk5 f c (vals (pre ++ [_])) W; rw [vals_snoc]; exact ⟨HI.out.b1, HI.out.b2, HI.out.b3, by rw [HSn.out]; exact HI.out.b4, HI.out.kept⟩⟩
     ·skip
      refine iW (.bool true) (eB .lss 3 _ _ _ rfl (.int .i64 (x1 - f)) (.int .i64 (c : Int)) (.bool true) (by rw [b_lss, q2]; try rfl)) ?_
      try simp only [pS]
      refine iK (.bool true) ?_
      try simp only [pS]
      refine WI.nil ?_
      try simp only [pS]
      have hge : f ≤ x1 := by simpa using q1
      have hlt : x1 - f < c := by simpa using q2
      have hix : (.int .i64 (x1 - f) : Value) = .int .i64 ((x1 - f).toNat : Int) := by congr 1; omega
      replace HSn : Hid (decF f c (vals pre ++ [(x1, x2)]) = (decF f c (vals pre)).set (x1 - f).toNat x2) := HSn.trans (if_pos ⟨hge, hlt⟩)
      gi_upto_region 6 with fail
      refine WI.start ?_
      refine iW (.slice (some ⟨gk5, 0, none⟩) c c) (exec_load 44 _ rfl ⟨gk7, 0, none⟩ (by kernel_rfl) (.slice (some ⟨gk5, 0, none⟩) c c) (load_one ((HI.out.b3).cell 0 |>.trans (by kernel_rfl)) Try.und48 rfl)) ?_
      try simp only [pS]
      refine iK (.int .i64 x1) ?_
      try simp only [pS]
      refine iW (.int .i64 f) (exec_load 3 _ rfl ⟨gk1, 0, none⟩ (by kernel_rfl) (.int .i64 f) (load_one ((HI.out.b1).cell 0 |>.trans (by kernel_rfl)) Try.und3 rfl)) ?_
      try simp only [pS]
      refine iW (.int .i64 (x1 - f)) (eB .sub 3 _ _ _ rfl (.int .i64 x1) (.int .i64 f) (.int .i64 (x1 - f)) (b_subw _ _ _ hws _)) ?_
      try simp only [pS]
      refine iW (.agg (Cm.cells x2)) (exec_load 43 _ rfl ⟨vb, 0, none⟩ (by kernel_rfl) (.agg (Cm.cells x2)) (run_load_part (cs := Cm.cs x2) (sub := Cm.cs x2) (HV.out) (Part.all _) Try.und47 rfl Try.size47)) ?_
      try simp only [pS]
      refine iW (.pointer (some ⟨gk5, 0 + (x1 - f).toNat * 9, none⟩)) (exec_ixA 44 9 Try.und48e Try.size48e _ _ rfl gk5 0 c c (x1 - f).toNat (by kernel_rfl) (Eq.trans (b := .int .i64 (x1 - f)) (by kernel_rfl) hix) (by omega)) ?_
      try simp only [pS]
      have hlen2 : (x1 - f).toNat < (decF f c (vals pre)).length := by rw [decF_len]; omega
      refine wi_store 43 _ _ rfl ⟨gk5, 0 + (x1 - f).toNat * 9, none⟩ (.agg (Cm.cells x2)) (by kernel_rfl) (by kernel_rfl) (W.setRow gk5 (cmL ((decF f c (vals pre)).set (x1 - f).toNat x2)).toArray) (by rw [Nat.zero_add]; exact run_store_to (vs := Cm.cs x2) HI.out.b4 rfl Try.size47 (by rw [cmL_len]; show _ + 9 ≤ _; omega) (Cm.oneL _) (cmL_set _ _ _ hlen2)) (by kernel_rfl) ?_
      try simp only [pS]
      refine WI.nil ?_
      try simp only [pS]
      clear hws hge hlt hix hlen2 q1 q2
      gi_wp2
      refine ⟨(keepsRow HI.out.b4 _).from _, (Kept.refl _ W).inRow (g := gk5) (fun e => ?_) _, ?_⟩
      · rcases e with e | e
        · have := HBl.out; omega
        · exact HNA.out e
      · show DcAt w gk1 gk3 gk7 gk5 f c (vals (pre ++ [_])) _
        rw [vals_snoc]
        exact ⟨HI.out.b1.rowNe HN1.out _, HI.out.b2.rowNe HN2.out _, HI.out.b3.rowNe HN3.out _, by show Box _ _ _ (cmL (decF f c (vals pre ++ [(x1, x2)]))).toArray; rw [HSn.out]; exact HI.out.b4.setRow _, HI.out.kept.newRow HBw.out _⟩

end Go.Proofs.Ytcgnbpaaalmkoab
