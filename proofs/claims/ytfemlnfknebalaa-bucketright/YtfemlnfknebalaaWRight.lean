import Derived.Test.YtfemlnfknebalaaX
import Derived.Test.YtfemlnfknebalaaTc
namespace Go.Proofs.Ytfemlnfknebalaa
open Go.RowKit
set_option linter.unusedVariables false
set_option linter.unusedSimpArgs false

theorem Fr.swap3 {S : Nat → Prop} {w0 w : World} {a b c : Nat × TypeId × Array Value} (h : Fr S w0 w [a, b, c]) : Fr S w0 w [a, c, b] := by
  obtain ⟨σ, hσ⟩ : ∃ σ : Nat → Nat, σ = fun i => if i = 1 then 2 else if i = 2 then 1 else i := ⟨_, rfl⟩
  have key : ∀ (i : Nat) x, [a, c, b][i]? = some x → [a, b, c][σ i]? = some x := by
    intro i x hx
    rw [hσ]
    match i, hx with
    | 0, hx => exact hx
    | 1, hx => exact hx
    | 2, hx => exact hx
    | n + 3, hx => simp at hx
  refine ⟨h.kept, fun i g T cs hi => h.box _ g T cs (key i _ hi), fun i g T cs hi => h.low _ g T cs (key i _ hi), fun i j g T cs T' cs' hi hj => ?_⟩
  have e := h.inj _ _ g T cs T' cs' (key i _ hi) (key j _ hj)
  have fin : ∀ i j : Nat, (if i = 1 then 2 else if i = 2 then 1 else i) = (if j = 1 then 2 else if j = 2 then 1 else j) → i = j := by
    intro i j e
    by_cases a1 : i = 1 <;> by_cases a2 : i = 2 <;> by_cases b1 : j = 1 <;> by_cases b2 : j = 2 <;> first | omega | (simp [a1, a2, b1, b2] at e; done) | (simp [a1, a2, b1, b2] at e; omega)
  rw [hσ] at e
  exact fin i j e
set_option maxRecDepth 100000 in
set_option maxHeartbeats 4000000 in
theorem rightWalk (bu0 : Int) (ea : Option Addr) (en ec : Nat) (fa : Option Addr) (fm fc : Nat) (room : Int) (ca : Option Addr) (cn cc : Nat) (es0 : List En) (ls0 : List La) (xs : List Cm) (w : World) (he : RdE w ⟨ea, en, ec⟩ es0) (hf : RdL w ⟨fa, fm, fc⟩ ls0) (hbe : (en + 1) * 40 ≤ 140737488355328) (hbf : (fm + 1) * 56 ≤ 140737488355328) (hl : xs.length = cn) (hbig : cn ≤ 140737488351232) (hX : Cs w ca xs) : Calls Try.prog 7 #[.agg (Bv.cells ⟨bu0, ⟨ea, en, ec⟩, ⟨fa, fm, fc⟩⟩), .int .i64 room, .slice ca cn cc] w (fun e w' => e = .returned (.bool true) ∧ Kept No w w') := by
  obtain ⟨C, hC⟩ : ∃ C : Ending → World → Prop, C = (fun e w' => e = .returned (.bool true) ∧ Kept No w w') := ⟨_, rfl⟩
  have HC : Hid (C = (fun e w' => e = .returned (.bool true) ∧ Kept No w w')) := hC
  rw [← hC]
  clear hC
  have HL : Hid (xs.length = cn) := hl
  have HX : Hid (Cs w ca xs) := hX
  have HE0 : Hid (RdE w ⟨ea, en, ec⟩ es0) := he
  have HL0 : Hid (RdL w ⟨fa, fm, fc⟩ ls0) := hf
  clear hl hX he hf
  have HF : Hid (Fr No w w []) := Fr.start _ _
  go_enter Try.func7, Try.ntmps7
  go_upto_region 0 with fail
  refine WL.start ?_
  refine wp_runW (.pointer (some ⟨w.heap.size, 0, none⟩)) (w.alloc (.cells (Bv.cells ⟨bu0, ⟨ea, en, ec⟩, ⟨fa, fm, fc⟩⟩) 25)) (exec_box 25 _ rfl (Bv.cells ⟨bu0, ⟨ea, en, ec⟩, ⟨fa, fm, fc⟩⟩) (by kernel_rfl)) (by kernel_rfl) ?_
  try simp only [pA, pB, p1, p2, p3]
  have HE0 : Hid (RdE (w.alloc (.cells (Bv.cells ⟨bu0, ⟨ea, en, ec⟩, ⟨fa, fm, fc⟩⟩) 25)) ⟨ea, en, ec⟩ es0) := HE0.out.no ((Kept.refl No _).alloc _)
  have HL0 : Hid (RdL (w.alloc (.cells (Bv.cells ⟨bu0, ⟨ea, en, ec⟩, ⟨fa, fm, fc⟩⟩) 25)) ⟨fa, fm, fc⟩ ls0) := HL0.out.no ((Kept.refl No _).alloc _)
  have HF : Hid (Fr No w (w.alloc (.cells (Bv.cells ⟨bu0, ⟨ea, en, ec⟩, ⟨fa, fm, fc⟩⟩) 25)) [(w.heap.size, 25, Bv.cells ⟨bu0, ⟨ea, en, ec⟩, ⟨fa, fm, fc⟩⟩)]) := HF.out.alloc _ _
  generalize w.alloc (.cells (Bv.cells ⟨bu0, ⟨ea, en, ec⟩, ⟨fa, fm, fc⟩⟩) 25) = wk2 at HF HE0 HL0 ⊢
  generalize w.heap.size = gk1 at HF ⊢
  refine wp_takeW (.bool false) (by kernel_rfl) (by kernel_rfl) ?_
  try simp only [pA, pB, p1, p2, p3]
  refine WL.nil ?_
  try simp only [pA, pB, p1, p2, p3]
  go_upto_region 1 with fail
  refine WL.start ?_
  refine wp_takeW (.agg (Bv.cells ⟨bu0, ⟨ea, en, ec⟩, ⟨fa, fm, fc⟩⟩)) (exec_load 25 _ rfl ⟨gk1, 0, none⟩ (by kernel_rfl) (.agg (Bv.cells ⟨bu0, ⟨ea, en, ec⟩, ⟨fa, fm, fc⟩⟩)) (ld25 (HF.out.box 0 _ _ _ rfl))) (by kernel_rfl) ?_
  try simp only [pA, pB, p1, p2, p3]
  cases q1 : (bktB bu0 es0 ls0)
  ·skip
   refine wp_callW 11 #[.agg (Bv.cells ⟨bu0, ⟨ea, en, ec⟩, ⟨fa, fm, fc⟩⟩)] (by kernel_rfl) _ (bucket_any bu0 ea en ec fa fm fc es0 ls0 _ HE0.out HL0.out (by omega) (by omega)) (by kernel_rfl) ?_
   rintro e wk3 ⟨rfl, hk⟩
   have HE0 : Hid (RdE (wk3) ⟨ea, en, ec⟩ es0) := HE0.out.no hk
   have HL0 : Hid (RdL (wk3) ⟨fa, fm, fc⟩ ls0) := HL0.out.no hk
   have HF : Hid (Fr No w (wk3) [(gk1, 25, Bv.cells ⟨bu0, ⟨ea, en, ec⟩, ⟨fa, fm, fc⟩⟩)]) := HF.out.no hk
   clear hk
   refine ⟨.bool false, by rw [q1], ?_⟩
   try simp only [pA, pB, p1, p2, p3]
   refine wp_takeW (.bool true) (by kernel_rfl) (by kernel_rfl) ?_
   try simp only [pA, pB, p1, p2, p3]
   refine wp_takeW (.bool true) (by kernel_rfl) (by kernel_rfl) ?_
   try simp only [pA, pB, p1, p2, p3]
   refine wp_skip (by kernel_rfl) ?_
   try simp only [pA, pB, p1, p2, p3]
   refine wp_skip (by kernel_rfl) ?_
   try simp only [pA, pB, p1, p2, p3]
   refine wp_skip (by kernel_rfl) ?_
   try simp only [pA, pB, p1, p2, p3]
   refine wp_skip (by kernel_rfl) ?_
   try simp only [pA, pB, p1, p2, p3]
   refine wp_skip (by kernel_rfl) ?_
   try simp only [pA, pB, p1, p2, p3]
   refine wp_takeW (.bool true) (by kernel_rfl) (by kernel_rfl) ?_
   try simp only [pA, pB, p1, p2, p3]
   refine wp_takeW (.bool true) (by kernel_rfl) (by kernel_rfl) ?_
   try simp only [pA, pB, p1, p2, p3]
   refine wp_skip (by kernel_rfl) ?_
   try simp only [pA, pB, p1, p2, p3]
   refine wp_skip (by kernel_rfl) ?_
   try simp only [pA, pB, p1, p2, p3]
   refine wp_takeW (.bool true) (by kernel_rfl) (by kernel_rfl) ?_
   try simp only [pA, pB, p1, p2, p3]
   refine WL.nil ?_
   try simp only [pA, pB, p1, p2, p3]
   go_upto_region 2 with fail
   refine WL.start ?_
   refine wp_callW 10 #[] (by kernel_rfl) _ (head_any _) (by kernel_rfl) ?_
   rintro e wk4 ⟨rfl, hk⟩
   have HE0 : Hid (RdE (wk4) ⟨ea, en, ec⟩ es0) := HE0.out.no hk
   have HL0 : Hid (RdL (wk4) ⟨fa, fm, fc⟩ ls0) := HL0.out.no hk
   have HF : Hid (Fr No w (wk4) [(gk1, 25, Bv.cells ⟨bu0, ⟨ea, en, ec⟩, ⟨fa, fm, fc⟩⟩)]) := HF.out.no hk
   clear hk
   refine ⟨.bool true, rfl, ?_⟩
   try simp only [pA, pB, p1, p2, p3]
   refine wp_takeW (.bool true) (by kernel_rfl) (by kernel_rfl) ?_
   try simp only [pA, pB, p1, p2, p3]
   refine WL.nil ?_
   try simp only [pA, pB, p1, p2, p3]
   go_wp2
   rw [HC.out]
   exact ⟨rfl, HF.out.kept⟩
  ·skip
   refine wp_callW 11 #[.agg (Bv.cells ⟨bu0, ⟨ea, en, ec⟩, ⟨fa, fm, fc⟩⟩)] (by kernel_rfl) _ (bucket_any bu0 ea en ec fa fm fc es0 ls0 _ HE0.out HL0.out (by omega) (by omega)) (by kernel_rfl) ?_
   rintro e wk5 ⟨rfl, hk⟩
   have HE0 : Hid (RdE (wk5) ⟨ea, en, ec⟩ es0) := HE0.out.no hk
   have HL0 : Hid (RdL (wk5) ⟨fa, fm, fc⟩ ls0) := HL0.out.no hk
   have HF : Hid (Fr No w (wk5) [(gk1, 25, Bv.cells ⟨bu0, ⟨ea, en, ec⟩, ⟨fa, fm, fc⟩⟩)]) := HF.out.no hk
   clear hk
   refine ⟨.bool true, by rw [q1], ?_⟩
   try simp only [pA, pB, p1, p2, p3]
   refine wp_takeW (.bool false) (by kernel_rfl) (by kernel_rfl) ?_
   try simp only [pA, pB, p1, p2, p3]
   refine wp_takeW (.bool false) (by kernel_rfl) (by kernel_rfl) ?_
   try simp only [pA, pB, p1, p2, p3]
   refine wp_takeW (.pointer (some ⟨gk1, 1, none⟩)) (by kernel_rfl) (by kernel_rfl) ?_
   try simp only [pA, pB, p1, p2, p3]
   refine wp_takeW (.slice ea en ec) (exec_load 22 _ rfl ⟨gk1, 1, none⟩ (by kernel_rfl) (.slice ea en ec) (ld22 ((HF.out.box 0 _ _ _ rfl).cell 1))) (by kernel_rfl) ?_
   try simp only [pA, pB, p1, p2, p3]
   refine wp_takeW (.int .i64 ((en : Nat) : Int)) (by kernel_rfl) (by kernel_rfl) ?_
   try simp only [pA, pB, p1, p2, p3]
   refine wp_takeW (.int .i64 room) (by kernel_rfl) (by kernel_rfl) ?_
   try simp only [pA, pB, p1, p2, p3]
   cases q2 : (decide (room < ((en : Nat) : Int)))
   ·skip
    refine wp_takeW (.bool false) (exec_bin .gtr 3 _ _ _ rfl (.int .i64 ((en : Nat) : Int)) (.int .i64 room) (.bool false) (by kernel_rfl) (by kernel_rfl) (by kernel_rfl) (by rw [b_gtr, q2]; try rfl)) (by kernel_rfl) ?_
    try simp only [pA, pB, p1, p2, p3]
    refine wp_takeW (.bool false) (by kernel_rfl) (by kernel_rfl) ?_
    try simp only [pA, pB, p1, p2, p3]
    refine wp_takeW (.bool false) (by kernel_rfl) (by kernel_rfl) ?_
    try simp only [pA, pB, p1, p2, p3]
    refine wp_takeW (.int .i64 room) (by kernel_rfl) (by kernel_rfl) ?_
    try simp only [pA, pB, p1, p2, p3]
    cases q3 : (decide (256 < room))
    ·skip
     refine wp_takeW (.bool false) (exec_bin .gtr 3 _ _ _ rfl (.int .i64 room) (.int .i64 256) (.bool false) (by kernel_rfl) (by kernel_rfl) (by kernel_rfl) (by rw [b_gtr, q3]; try rfl)) (by kernel_rfl) ?_
     try simp only [pA, pB, p1, p2, p3]
     refine wp_takeW (.bool false) (by kernel_rfl) (by kernel_rfl) ?_
     try simp only [pA, pB, p1, p2, p3]
     refine WL.nil ?_
     try simp only [pA, pB, p1, p2, p3]
     go_upto_region 3 with fail
     refine WL.start ?_
     refine wp_takeW (.int .i64 0) (by kernel_rfl) (by kernel_rfl) ?_
     try simp only [pA, pB, p1, p2, p3]
     refine WL.nil ?_
     try simp only [pA, pB, p1, p2, p3]
     have hen : ((en : Nat) : Int) ≤ room := by have := of_decide_eq_false q2; omega
     have hroom : room ≤ 256 := by have := of_decide_eq_false q3; omega
     have HG0 : Hid (Good bu0 es0 ls0) := bkt_good q1
     clear q1 q2 q3
     go_wp2
     go_loopw [7] (fun v7 wr => ∃ (k : Nat) (b : Bk) (sb lb : Sl), v7 = .int .i64 ((k : Nat) : Int) ∧ k ≤ cn ∧ k ≤ 400 ∧ Hid (Fr No w wr [(gk1, 25, Bv.cells ⟨b.up, sb, lb⟩)]) ∧ Hid (RdE wr sb b.es) ∧ Hid (RdL wr lb b.ls) ∧ Hid (Good b.up b.es b.ls) ∧ Hid (((b.es.length : Nat) : Int) ≤ room)) (fun i _ => 400 - (intOf i).toNat)
     case atStart => exact ⟨0, ⟨bu0, es0, ls0⟩, ⟨ea, en, ec⟩, ⟨fa, fm, fc⟩, by go_num, by omega, by omega, HF, HE0, HL0, HG0, by have e1 : es0.length = en := HE0.out.len; show ((es0.length : Nat) : Int) ≤ room; omega⟩
     case round =>
       clear HG0 HE0 HL0 hen
       obtain ⟨k, ⟨bu, bes, bls⟩, ⟨ba, bn, bc⟩, ⟨la, ln, lc⟩, rfl, hk1, hk2, HF, HBE, HBL, HG, HN⟩ := hrel
       have HF : Hid (Fr No w wr [(gk1, 25, Bv.cells ⟨bu, ⟨ba, bn, bc⟩, ⟨la, ln, lc⟩⟩)]) := HF
       have HBE : Hid (RdE wr ⟨ba, bn, bc⟩ bes) := HBE
       have HBL : Hid (RdL wr ⟨la, ln, lc⟩ bls) := HBL
       have HG : Hid (Good bu bes bls) := HG
       have HN : Hid (((bes.length : Nat) : Int) ≤ room) := HN
       have hbn : bn ≤ 256 := by have h1 : bes.length = bn := HBE.out.len; have h2 := HG.out.n; omega
       have hln : ln ≤ 255 := by have h1 : bls.length = ln := HBL.out.len; have h2 := HG.out.ln; omega
       have hbu : 0 ≤ bu := HG.out.up0
       by_cases hkn : k < cn
       · by_cases hk4 : k < 400
         · skip
           obtain ⟨xb, xo, e0, hcell⟩ := Cs.at HX.out (i := k) (by rw [HL.out]; exact hkn)
           subst e0
           have HCE : Hid (∀ (j : Nat) v, (cAt xs k).cs[j]? = some v → w.cell? ⟨xb, xo + k * 9 + j, none⟩ = some v) := hcell
           clear hcell
           generalize cAt xs k = x at HCE
           go_upto_region 4 with fail
           refine WL.start ?_
           refine wp_takeW (.int .i64 ((k : Nat) : Int)) (by kernel_rfl) (by kernel_rfl) ?_
           try simp only [pA, pB, p1, p2, p3]
           refine wp_takeW (.slice (some ⟨xb, xo, none⟩) cn cc) (by kernel_rfl) (by kernel_rfl) ?_
           try simp only [pA, pB, p1, p2, p3]
           refine wp_takeW (.int .i64 ((cn : Nat) : Int)) (by kernel_rfl) (by kernel_rfl) ?_
           try simp only [pA, pB, p1, p2, p3]
           refine wp_takeW (.bool true) (exec_bin .lss 3 _ _ _ rfl (.int .i64 ((k : Nat) : Int)) (.int .i64 ((cn : Nat) : Int)) (.bool true) (by kernel_rfl) (by kernel_rfl) (by kernel_rfl) (by rw [b_lss, decide_eq_true (by omega)])) (by kernel_rfl) ?_
           try simp only [pA, pB, p1, p2, p3]
           refine wp_takeW (.bool true) (by kernel_rfl) (by kernel_rfl) ?_
           try simp only [pA, pB, p1, p2, p3]
           refine wp_takeW (.int .i64 ((k : Nat) : Int)) (by kernel_rfl) (by kernel_rfl) ?_
           try simp only [pA, pB, p1, p2, p3]
           refine wp_takeW (.bool true) (exec_bin .lss 3 _ _ _ rfl (.int .i64 ((k : Nat) : Int)) (.int .i64 400) (.bool true) (by kernel_rfl) (by kernel_rfl) (by kernel_rfl) (by rw [b_lss, decide_eq_true (by omega)])) (by kernel_rfl) ?_
           try simp only [pA, pB, p1, p2, p3]
           refine wp_takeW (.bool true) (by kernel_rfl) (by kernel_rfl) ?_
           try simp only [pA, pB, p1, p2, p3]
           refine WL.nil ?_
           try simp only [pA, pB, p1, p2, p3]
           go_upto_region 6 with fail
           refine WL.start ?_
           refine wp_takeW (.slice (some ⟨xb, xo, none⟩) cn cc) (by kernel_rfl) (by kernel_rfl) ?_
           try simp only [pA, pB, p1, p2, p3]
           refine wp_takeW (.int .i64 ((k : Nat) : Int)) (by kernel_rfl) (by kernel_rfl) ?_
           try simp only [pA, pB, p1, p2, p3]
           refine wp_takeW (.pointer (some ⟨xb, xo + k * 9, none⟩)) (exec_ixA 34 9 Try.und34e Try.size34e _ _ rfl xb xo cn cc k (by kernel_rfl) (by kernel_rfl) hkn) (by kernel_rfl) ?_
           try simp only [pA, pB, p1, p2, p3]
           refine wp_takeW (.agg (Cm.cells x)) (exec_load 29 _ rfl ⟨xb, xo + k * 9, none⟩ (by kernel_rfl) (.agg (Cm.cells x)) (load_Ca (fun j v h => HF.out.kept.cell (HCE.out j v h) (fun e => e)))) (by kernel_rfl) ?_
           try simp only [pA, pB, p1, p2, p3]
           cases q4 : (cmdB x)
           ·skip
            refine wp_callW 12 #[.agg (Cm.cells x)] (by kernel_rfl) _ (command_any x _) (by kernel_rfl) ?_
            rintro e wk6 ⟨rfl, hk⟩
            have HBE : Hid (RdE (wk6) ⟨ba, bn, bc⟩ bes) := HBE.out.no hk
            have HBL : Hid (RdL (wk6) ⟨la, ln, lc⟩ bls) := HBL.out.no hk
            have HF : Hid (Fr No w (wk6) [(gk1, 25, Bv.cells ⟨bu, ⟨ba, bn, bc⟩, ⟨la, ln, lc⟩⟩)]) := HF.out.no hk
            clear hk
            refine ⟨.bool false, by rw [q4], ?_⟩
            try simp only [pA, pB, p1, p2, p3]
            refine wp_takeW (.bool true) (by kernel_rfl) (by kernel_rfl) ?_
            try simp only [pA, pB, p1, p2, p3]
            refine wp_takeW (.bool true) (by kernel_rfl) (by kernel_rfl) ?_
            try simp only [pA, pB, p1, p2, p3]
            refine wp_skip (by kernel_rfl) ?_
            try simp only [pA, pB, p1, p2, p3]
            refine wp_skip (by kernel_rfl) ?_
            try simp only [pA, pB, p1, p2, p3]
            refine wp_skip (by kernel_rfl) ?_
            try simp only [pA, pB, p1, p2, p3]
            refine wp_takeW (.bool true) (by kernel_rfl) (by kernel_rfl) ?_
            try simp only [pA, pB, p1, p2, p3]
            refine WL.nil ?_
            try simp only [pA, pB, p1, p2, p3]
            go_wp2
            go_roundw
            case rel => exact ⟨k + 1, ⟨bu, bes, bls⟩, ⟨ba, bn, bc⟩, ⟨la, ln, lc⟩, by go_num, by omega, by omega, HF, HBE, HBL, HG, HN⟩
            case measure => simp [intOf]; omega
           ·skip
            refine wp_callW 12 #[.agg (Cm.cells x)] (by kernel_rfl) _ (command_any x _) (by kernel_rfl) ?_
            rintro e wk7 ⟨rfl, hk⟩
            have HBE : Hid (RdE (wk7) ⟨ba, bn, bc⟩ bes) := HBE.out.no hk
            have HBL : Hid (RdL (wk7) ⟨la, ln, lc⟩ bls) := HBL.out.no hk
            have HF : Hid (Fr No w (wk7) [(gk1, 25, Bv.cells ⟨bu, ⟨ba, bn, bc⟩, ⟨la, ln, lc⟩⟩)]) := HF.out.no hk
            clear hk
            refine ⟨.bool true, by rw [q4], ?_⟩
            try simp only [pA, pB, p1, p2, p3]
            refine wp_takeW (.bool false) (by kernel_rfl) (by kernel_rfl) ?_
            try simp only [pA, pB, p1, p2, p3]
            refine wp_takeW (.bool false) (by kernel_rfl) (by kernel_rfl) ?_
            try simp only [pA, pB, p1, p2, p3]
            refine wp_takeW (.pointer (some ⟨gk1, 0, none⟩)) (by kernel_rfl) (by kernel_rfl) ?_
            try simp only [pA, pB, p1, p2, p3]
            refine wp_takeW (.int .i64 bu) (exec_load 3 _ rfl ⟨gk1, 0, none⟩ (by kernel_rfl) (.int .i64 bu) (ld3 ((HF.out.box 0 _ _ _ rfl).cell 0))) (by kernel_rfl) ?_
            try simp only [pA, pB, p1, p2, p3]
            cases q5 : (decide (1048576 ≤ bu))
            ·skip
             refine wp_takeW (.bool false) (exec_bin .geq 3 _ _ _ rfl (.int .i64 bu) (.int .i64 1048576) (.bool false) (by kernel_rfl) (by kernel_rfl) (by kernel_rfl) (by rw [b_geq, q5]; try rfl)) (by kernel_rfl) ?_
             try simp only [pA, pB, p1, p2, p3]
             refine wp_takeW (.bool false) (by kernel_rfl) (by kernel_rfl) ?_
             try simp only [pA, pB, p1, p2, p3]
             refine WL.nil ?_
             try simp only [pA, pB, p1, p2, p3]
             have hu2 : bu < 1048576 := by have := of_decide_eq_false q5; omega
             have HAP : Hid (∀ W, RdE W ⟨ba, bn, bc⟩ bes → RdL W ⟨la, ln, lc⟩ bls → Calls Try.prog 22 #[.agg (Bv.cells ⟨bu, ⟨ba, bn, bc⟩, ⟨la, ln, lc⟩⟩), .agg (Cm.cells x), .int .i64 room] W (ApYes W (stepS ⟨bu, bes, bls⟩ x room))) := fun W h1 h2 => apply_yes bu ba bn bc la ln lc bes bls x room W (refS_ok q4 hu2) h1 h2 (by omega) (by omega) (by omega)
             have HST : Hid (Good (stepS ⟨bu, bes, bls⟩ x room).1.up (stepS ⟨bu, bes, bls⟩ x room).1.es (stepS ⟨bu, bes, bls⟩ x room).1.ls ∧ (((stepS ⟨bu, bes, bls⟩ x room).1.es.length : Nat) : Int) ≤ room) := HG.out.step q4 hu2 HN.out hroom
             have HUp : Hid ((stepS ⟨bu, bes, bls⟩ x room).1.up = bu + 1) := rfl
             have HCT : Hid (∀ W na nn nc nsl nu xa xn xc, RdE W ⟨ba, bn, bc⟩ bes → RdE W ⟨na, nn, nc⟩ (stepS ⟨bu, bes, bls⟩ x room).1.es → RdE W ⟨xa, xn, xc⟩ (stepS ⟨bu, bes, bls⟩ x room).2.l → nn ≤ 1000 → Calls Try.prog 23 #[.agg (Bv.cells ⟨bu, ⟨ba, bn, bc⟩, ⟨la, ln, lc⟩⟩), .agg (Bv.cells ⟨nu, ⟨na, nn, nc⟩, nsl⟩), .agg (Cm.cells x), .agg (Av.cells ⟨(stepS ⟨bu, bes, bls⟩ x room).2.er, (stepS ⟨bu, bes, bls⟩ x room).2.e, ⟨xa, xn, xc⟩⟩)] W (fun e w' => e = .returned (.bool true) ∧ Kept No W w')) := fun W na nn nc nsl nu xa xn xc h1 h2 h3 h4 => counted_step bu ba bn bc ⟨la, ln, lc⟩ nu na nn nc nsl x xa xn xc bes room (actS bes x room) W rfl HG.out.re HG.out.ee q4 h1 h2 h3 (by omega) h4
             generalize stepS ⟨bu, bes, bls⟩ x room = R at HAP HST HUp HCT
             clear HG HN q4 q5
             go_upto_region 7 with fail
             go_cut [8, 9, 10] from 47 to 57 (fun v8 v9 v10 wc => ∃ (g8 g9 : Nat) (qa : Option Addr) (qn qc : Nat) (ra : Option Addr) (rn rc : Nat) (xa : Option Addr) (xn xc : Nat), v8 = .pointer (some ⟨g8, 0, none⟩) ∧ v9 = .pointer (some ⟨g9, 0, none⟩) ∧ v10 = .int .i64 0 ∧ Hid (Fr No w wc [(gk1, 25, Bv.cells ⟨bu, ⟨ba, bn, bc⟩, ⟨la, ln, lc⟩⟩), (g8, 25, Bv.cells ⟨R.1.up, ⟨qa, qn, qc⟩, ⟨ra, rn, rc⟩⟩), (g9, 56, Av.cells ⟨R.2.er, R.2.e, ⟨xa, xn, xc⟩⟩)]) ∧ Hid (RdE wc ⟨ba, bn, bc⟩ bes) ∧ Hid (OwE wc w.heap.size ⟨qa, qn, qc⟩ R.1.es) ∧ Hid (OwL wc w.heap.size ⟨ra, rn, rc⟩ R.1.ls) ∧ Hid (OwE wc w.heap.size ⟨xa, xn, xc⟩ R.2.l))
             case first =>
              rename_i J0 K0 hJ0 hK0
              refine wp_region_held_drew (S := fun w' => Fr No w w' [(gk1, 25, Bv.cells ⟨bu, ⟨ba, bn, bc⟩, ⟨la, ln, lc⟩⟩)]) rfl HF.out.drew (fun hH => ?_)
              have HBE : Hid (RdE (wk7.drew) ⟨ba, bn, bc⟩ bes) := HBE.out.no (Kept.refl No _).drew
              have HBL : Hid (RdL (wk7.drew) ⟨la, ln, lc⟩ bls) := HBL.out.no (Kept.refl No _).drew
              have HF : Hid (Fr No w (wk7.drew) [(gk1, 25, Bv.cells ⟨bu, ⟨ba, bn, bc⟩, ⟨la, ln, lc⟩⟩)]) := HF.out.drew
              generalize wk7.drew = wk8 at HF HBE HBL hH ⊢
              have HKs : Hid (Kept No wk8 wk8) := Kept.refl _ _
              refine any_take (i := 0) (oi := { dst := some 48, op := Op.load 25 (Operand.tmp 3), type := 25, pos := "outright.go:21", after := #[], guard := none }) (v := .agg (Bv.cells ⟨bu, ⟨ba, bn, bc⟩, ⟨la, ln, lc⟩⟩)) rfl (by kernel_rfl) (by kernel_rfl) (by kernel_rfl) (fun _ _ _ h => h) (by kernel_rfl) (fun w' hw => exec_load 25 _ rfl ⟨gk1, 0, none⟩ (by kernel_rfl) (.agg (Bv.cells ⟨bu, ⟨ba, bn, bc⟩, ⟨la, ln, lc⟩⟩)) (ld25 (hw.box 0 _ _ _ rfl))) hH ?_
              try simp only [pA, pB, p1, p2, p3]
              refine any_take (i := 1) (oi := { dst := some 49, op := Op.move (Operand.tmp 2), type := 34, pos := "outright.go:21", after := #[], guard := none }) (v := .slice (some ⟨xb, xo, none⟩) cn cc) rfl (by kernel_rfl) (by kernel_rfl) (by kernel_rfl) (fun _ _ _ h => h) (by kernel_rfl) (fun _ _ => by kernel_rfl) hH ?_
              try simp only [pA, pB, p1, p2, p3]
              refine any_take (i := 2) (oi := { dst := some 50, op := Op.move (Operand.tmp 7), type := 3, pos := "outright.go:21", after := #[], guard := none }) (v := .int .i64 ((k : Nat) : Int)) rfl (by kernel_rfl) (by kernel_rfl) (by kernel_rfl) (fun _ _ _ h => h) (by kernel_rfl) (fun _ _ => by kernel_rfl) hH ?_
              try simp only [pA, pB, p1, p2, p3]
              refine any_take (i := 3) (oi := { dst := some 51, op := Op.indexAddr 34 (Operand.tmp 49) (Operand.tmp 50), type := 0, pos := "outright.go:21", after := #[{ on := 1, ground := Ground.data }, { on := 2, ground := Ground.data }], guard := none }) (v := .pointer (some ⟨xb, xo + k * 9, none⟩)) rfl (by kernel_rfl) (by kernel_rfl) (by kernel_rfl) (fun _ _ _ h => h) (by kernel_rfl) (fun w' hw => exec_ixA 34 9 Try.und34e Try.size34e _ _ rfl xb xo cn cc k (by kernel_rfl) (by kernel_rfl) hkn) hH ?_
              try simp only [pA, pB, p1, p2, p3]
              refine any_take (i := 4) (oi := { dst := some 52, op := Op.load 29 (Operand.tmp 51), type := 29, pos := "outright.go:21", after := #[{ on := 3, ground := Ground.data }], guard := none }) (v := .agg (Cm.cells x)) rfl (by kernel_rfl) (by kernel_rfl) (by kernel_rfl) (fun _ _ _ h => h) (by kernel_rfl) (fun w' hw => exec_load 29 _ rfl ⟨xb, xo + k * 9, none⟩ (by kernel_rfl) (.agg (Cm.cells x)) (load_Ca (fun j v h => hw.kept.cell (HCE.out j v h) (fun e => e)))) hH ?_
              try simp only [pA, pB, p1, p2, p3]
              refine any_take (i := 5) (oi := { dst := some 53, op := Op.move (Operand.tmp 1), type := 3, pos := "outright.go:21", after := #[], guard := none }) (v := .int .i64 room) rfl (by kernel_rfl) (by kernel_rfl) (by kernel_rfl) (fun _ _ _ h => h) (by kernel_rfl) (fun _ _ => by kernel_rfl) hH ?_
              try simp only [pA, pB, p1, p2, p3]
              refine any_pick (rs := [6, 11, 12]) (by kernel_rfl) (by simp) ?_
              intro i hi
              rcases pick3 hi with rfl | rfl | rfl
              ·skip
               clear hi
               refine step_call (i := 6) (o := { dst := some 54, op := Op.call { callee := Callee.value (Operand.func 22), args := #[Operand.tmp 48, Operand.tmp 52, Operand.tmp 53], argTypes := #[25, 29, 3] }, type := 57, pos := "outright.go:21", after := #[{ on := 0, ground := Ground.data }, { on := 4, ground := Ground.data }, { on := 5, ground := Ground.data }], guard := none }) rfl (by kernel_rfl) 22 #[.agg (Bv.cells ⟨bu, ⟨ba, bn, bc⟩, ⟨la, ln, lc⟩⟩), .agg (Cm.cells x), .int .i64 room] (by kernel_rfl) _ (HAP.out _ (HBE.out.no HKs.out) (HBL.out.no HKs.out)) ?_
               rintro e wk9 ⟨⟨qa, qn, qc⟩, ⟨ra, rn, rc⟩, ⟨xa, xn, xc⟩, rfl, hQ, hR, hX, hD, hk⟩
               have hH2 : Fr No w wk9 [(gk1, 25, Bv.cells ⟨bu, ⟨ba, bn, bc⟩, ⟨la, ln, lc⟩⟩)] := hH.no hk
               have HNE : Hid (OwE wk9 w.heap.size ⟨qa, qn, qc⟩ R.1.es) := hQ.lower HF.out.kept.size
               have HNL : Hid (OwL wk9 w.heap.size ⟨ra, rn, rc⟩ R.1.ls) := hR.lower HF.out.kept.size
               have HXE : Hid (OwE wk9 w.heap.size ⟨xa, xn, xc⟩ R.2.l) := hX.lower HF.out.kept.size
               have HKs : Hid (Kept No wk8 (wk9)) := HKs.out.no hk
               have HF : Hid (Fr No w (wk9) [(gk1, 25, Bv.cells ⟨bu, ⟨ba, bn, bc⟩, ⟨la, ln, lc⟩⟩)]) := HF.out.no hk
               clear hQ hR hX hD hk
               refine ⟨.tuple #[.agg (Bv.cells ⟨R.1.up, ⟨qa, qn, qc⟩, ⟨ra, rn, rc⟩⟩), .agg (Av.cells ⟨R.2.er, R.2.e, ⟨xa, xn, xc⟩⟩), .int .i64 0], rfl, hH2, fun hH => ?_⟩
               clear hH2
               try simp only [pA, pB, p1, p2, p3]
               refine any_take (i := 7) (oi := { dst := some 47, op := Op.move (Operand.tmp 54), type := 57, pos := "outright.go:21", after := #[{ on := 6, ground := Ground.data }], guard := none }) (v := .tuple #[.agg (Bv.cells ⟨R.1.up, ⟨qa, qn, qc⟩, ⟨ra, rn, rc⟩⟩), .agg (Av.cells ⟨R.2.er, R.2.e, ⟨xa, xn, xc⟩⟩), .int .i64 0]) rfl (by kernel_rfl) (by kernel_rfl) (by kernel_rfl) (fun _ _ _ h => h) (by kernel_rfl) (fun _ _ => by kernel_rfl) hH ?_
               try simp only [pA, pB, p1, p2, p3]
               refine any_take (i := 8) (oi := { dst := some 55, op := Op.extract (Operand.tmp 47) 0, type := 25, pos := "outright.go:21", after := #[{ on := 7, ground := Ground.data }], guard := none }) (v := .agg (Bv.cells ⟨R.1.up, ⟨qa, qn, qc⟩, ⟨ra, rn, rc⟩⟩)) rfl (by kernel_rfl) (by kernel_rfl) (by kernel_rfl) (fun _ _ _ h => h) (by kernel_rfl) (fun _ _ => by kernel_rfl) hH ?_
               try simp only [pA, pB, p1, p2, p3]
               refine any_take (i := 9) (oi := { dst := some 56, op := Op.extract (Operand.tmp 47) 1, type := 56, pos := "outright.go:21", after := #[{ on := 7, ground := Ground.data }, { on := 13, ground := Ground.gcOnly Departure.lateStores }], guard := none }) (v := .agg (Av.cells ⟨R.2.er, R.2.e, ⟨xa, xn, xc⟩⟩)) rfl (by kernel_rfl) (by kernel_rfl) (by kernel_rfl) (fun _ _ _ h => h) (by kernel_rfl) (fun _ _ => by kernel_rfl) hH ?_
               try simp only [pA, pB, p1, p2, p3]
               refine any_take (i := 10) (oi := { dst := some 57, op := Op.extract (Operand.tmp 47) 2, type := 46, pos := "outright.go:21", after := #[{ on := 7, ground := Ground.data }, { on := 14, ground := Ground.gcOnly Departure.lateStores }], guard := none }) (v := .int .i64 0) rfl (by kernel_rfl) (by kernel_rfl) (by kernel_rfl) (fun _ _ _ h => h) (by kernel_rfl) (fun _ _ => by kernel_rfl) hH ?_
               try simp only [pA, pB, p1, p2, p3]
               refine any_pick (rs := [11, 12]) (by kernel_rfl) (by simp) ?_
               intro i hi
               rcases pick2 hi with rfl | rfl
               ·skip
                clear hi
                refine step_run (i := 11) (o := { dst := some 8, op := Op.alloc 25, type := 0, pos := "outright.go:21", after := #[], guard := none }) rfl (by kernel_rfl) (exec_alloc 25 rfl (Bv.cells bvZ) zero25) ((hH.alloc _ _).front) (fun hH => ?_)
                try simp only [pA, pB, p1, p2, p3]
                have HG_gk10 : Hid (wk8.heap.size ≤ wk9.heap.size) := HKs.out.size
                have HNE : Hid (OwE (wk9.alloc (.cells (Bv.cells bvZ) 25)) w.heap.size ⟨qa, qn, qc⟩ R.1.es) := HNE.out.no ((Kept.refl No _).alloc _)
                have HNL : Hid (OwL (wk9.alloc (.cells (Bv.cells bvZ) 25)) w.heap.size ⟨ra, rn, rc⟩ R.1.ls) := HNL.out.no ((Kept.refl No _).alloc _)
                have HXE : Hid (OwE (wk9.alloc (.cells (Bv.cells bvZ) 25)) w.heap.size ⟨xa, xn, xc⟩ R.2.l) := HXE.out.no ((Kept.refl No _).alloc _)
                have HKs : Hid (Kept No wk8 (wk9.alloc (.cells (Bv.cells bvZ) 25))) := HKs.out.no ((Kept.refl No _).alloc _)
                have HF : Hid (Fr No w (wk9.alloc (.cells (Bv.cells bvZ) 25)) [(gk1, 25, Bv.cells ⟨bu, ⟨ba, bn, bc⟩, ⟨la, ln, lc⟩⟩), (wk9.heap.size, 25, Bv.cells bvZ)]) := HF.out.alloc _ _
                generalize wk9.alloc (.cells (Bv.cells bvZ) 25) = wk11 at HF HKs HNE HNL HXE hH ⊢
                obtain ⟨gk10, hg⟩ : ∃ g, g = wk9.heap.size := ⟨_, rfl⟩
                have HG_gk10 : Hid (wk8.heap.size ≤ gk10) := by show _ ≤ _; rw [hg]; exact HG_gk10.out
                rw [← hg] at HF ⊢
                clear hg
                refine any_step (i := 12) (o := { dst := some 9, op := Op.alloc 56, type := 0, pos := "outright.go:21", after := #[], guard := none }) rfl (by kernel_rfl) (by kernel_rfl) (exec_alloc 56 rfl (Av.cells avZ) zero56) ((hH.alloc _ _).front) (fun hH => ?_)
                try simp only [pA, pB, p1, p2, p3]
                have HG_gk12 : Hid (wk8.heap.size ≤ wk11.heap.size) := HKs.out.size
                have HNE : Hid (OwE (wk11.alloc (.cells (Av.cells avZ) 56)) w.heap.size ⟨qa, qn, qc⟩ R.1.es) := HNE.out.no ((Kept.refl No _).alloc _)
                have HNL : Hid (OwL (wk11.alloc (.cells (Av.cells avZ) 56)) w.heap.size ⟨ra, rn, rc⟩ R.1.ls) := HNL.out.no ((Kept.refl No _).alloc _)
                have HXE : Hid (OwE (wk11.alloc (.cells (Av.cells avZ) 56)) w.heap.size ⟨xa, xn, xc⟩ R.2.l) := HXE.out.no ((Kept.refl No _).alloc _)
                have HKs : Hid (Kept No wk8 (wk11.alloc (.cells (Av.cells avZ) 56))) := HKs.out.no ((Kept.refl No _).alloc _)
                have HF : Hid (Fr No w (wk11.alloc (.cells (Av.cells avZ) 56)) [(gk1, 25, Bv.cells ⟨bu, ⟨ba, bn, bc⟩, ⟨la, ln, lc⟩⟩), (gk10, 25, Bv.cells bvZ), (wk11.heap.size, 56, Av.cells avZ)]) := HF.out.alloc _ _
                generalize wk11.alloc (.cells (Av.cells avZ) 56) = wk13 at HF HKs HNE HNL HXE hH ⊢
                obtain ⟨gk12, hg⟩ : ∃ g, g = wk11.heap.size := ⟨_, rfl⟩
                have HG_gk12 : Hid (wk8.heap.size ≤ gk12) := by show _ ≤ _; rw [hg]; exact HG_gk12.out
                rw [← hg] at HF ⊢
                clear hg
                refine any_store (i := 13) (o := { dst := none, op := Op.store 25 (Operand.tmp 8) (Operand.tmp 55), type := 0, pos := "outright.go:21", after := #[{ on := 11, ground := Ground.data }, { on := 8, ground := Ground.data }, { on := 6, ground := Ground.chain }, { on := 0, ground := Ground.phase }, { on := 1, ground := Ground.phase }, { on := 2, ground := Ground.phase }, { on := 3, ground := Ground.phase }, { on := 4, ground := Ground.phase }, { on := 5, ground := Ground.phase }, { on := 6, ground := Ground.phase }, { on := 7, ground := Ground.phase }, { on := 8, ground := Ground.phase }, { on := 9, ground := Ground.textOnly Departure.lateStores }, { on := 10, ground := Ground.textOnly Departure.lateStores }, { on := 11, ground := Ground.phase }, { on := 12, ground := Ground.phase }], guard := none }) (w' := wk13.setRow gk10 (Bv.cells ⟨R.1.up, ⟨qa, qn, qc⟩, ⟨ra, rn, rc⟩⟩)) rfl (by kernel_rfl) (by kernel_rfl) 25 _ _ rfl ⟨gk10, 0, none⟩ (.agg (Bv.cells ⟨R.1.up, ⟨qa, qn, qc⟩, ⟨ra, rn, rc⟩⟩)) (by kernel_rfl) (by kernel_rfl) (st25 (HF.out.box 1 _ _ _ rfl) rfl) ((show Fr No w _ ([(gk1, 25, Bv.cells ⟨bu, ⟨ba, bn, bc⟩, ⟨la, ln, lc⟩⟩)] ++ [(gk10, 25, Bv.cells ⟨R.1.up, ⟨qa, qn, qc⟩, ⟨ra, rn, rc⟩⟩), (gk12, 56, Av.cells avZ)]) from HF.out.set 1 rfl _).front) (fun hH => ?_)
                try simp only [pA, pB, p1, p2, p3]
                have HNE : Hid (OwE (wk13.setRow gk10 (Bv.cells ⟨R.1.up, ⟨qa, qn, qc⟩, ⟨ra, rn, rc⟩⟩)) w.heap.size ⟨qa, qn, qc⟩ R.1.es) := HNE.out.kept (Kept.setRow _ _ _) (fun k h e => (HNE.out.own.notBox (HF.out.box 1 _ _ _ rfl) (by decide)) ((show k = gk10 from e) ▸ h))
                have HNL : Hid (OwL (wk13.setRow gk10 (Bv.cells ⟨R.1.up, ⟨qa, qn, qc⟩, ⟨ra, rn, rc⟩⟩)) w.heap.size ⟨ra, rn, rc⟩ R.1.ls) := HNL.out.kept (Kept.setRow _ _ _) (fun k h e => (HNL.out.own.notBox (HF.out.box 1 _ _ _ rfl) (by decide)) ((show k = gk10 from e) ▸ h))
                have HXE : Hid (OwE (wk13.setRow gk10 (Bv.cells ⟨R.1.up, ⟨qa, qn, qc⟩, ⟨ra, rn, rc⟩⟩)) w.heap.size ⟨xa, xn, xc⟩ R.2.l) := HXE.out.kept (Kept.setRow _ _ _) (fun k h e => (HXE.out.own.notBox (HF.out.box 1 _ _ _ rfl) (by decide)) ((show k = gk10 from e) ▸ h))
                have HKs : Hid (Kept No wk8 (wk13.setRow gk10 (Bv.cells ⟨R.1.up, ⟨qa, qn, qc⟩, ⟨ra, rn, rc⟩⟩))) := HKs.out.newRow HG_gk10.out _
                have HF : Hid (Fr No w (wk13.setRow gk10 (Bv.cells ⟨R.1.up, ⟨qa, qn, qc⟩, ⟨ra, rn, rc⟩⟩)) [(gk1, 25, Bv.cells ⟨bu, ⟨ba, bn, bc⟩, ⟨la, ln, lc⟩⟩), (gk10, 25, Bv.cells ⟨R.1.up, ⟨qa, qn, qc⟩, ⟨ra, rn, rc⟩⟩), (gk12, 56, Av.cells avZ)]) := HF.out.set 1 rfl _
                generalize wk13.setRow gk10 (Bv.cells ⟨R.1.up, ⟨qa, qn, qc⟩, ⟨ra, rn, rc⟩⟩) = wk14 at HF HKs HNE HNL HXE hH ⊢
                refine any_store (i := 14) (o := { dst := none, op := Op.store 56 (Operand.tmp 9) (Operand.tmp 56), type := 0, pos := "outright.go:21", after := #[{ on := 12, ground := Ground.data }, { on := 9, ground := Ground.data }, { on := 13, ground := Ground.chain }, { on := 0, ground := Ground.phase }, { on := 1, ground := Ground.phase }, { on := 2, ground := Ground.phase }, { on := 3, ground := Ground.phase }, { on := 4, ground := Ground.phase }, { on := 5, ground := Ground.phase }, { on := 6, ground := Ground.phase }, { on := 7, ground := Ground.phase }, { on := 8, ground := Ground.phase }, { on := 9, ground := Ground.phase }, { on := 10, ground := Ground.textOnly Departure.lateStores }, { on := 11, ground := Ground.phase }, { on := 12, ground := Ground.phase }, { on := 13, ground := Ground.phase }], guard := none }) (w' := wk14.setRow gk12 (Av.cells ⟨R.2.er, R.2.e, ⟨xa, xn, xc⟩⟩)) rfl (by kernel_rfl) (by kernel_rfl) 56 _ _ rfl ⟨gk12, 0, none⟩ (.agg (Av.cells ⟨R.2.er, R.2.e, ⟨xa, xn, xc⟩⟩)) (by kernel_rfl) (by kernel_rfl) (st56 (HF.out.box 2 _ _ _ rfl) rfl) ((show Fr No w _ ([(gk1, 25, Bv.cells ⟨bu, ⟨ba, bn, bc⟩, ⟨la, ln, lc⟩⟩)] ++ [(gk10, 25, Bv.cells ⟨R.1.up, ⟨qa, qn, qc⟩, ⟨ra, rn, rc⟩⟩), (gk12, 56, Av.cells ⟨R.2.er, R.2.e, ⟨xa, xn, xc⟩⟩)]) from HF.out.set 2 rfl _).front) (fun hH => ?_)
                try simp only [pA, pB, p1, p2, p3]
                have HNE : Hid (OwE (wk14.setRow gk12 (Av.cells ⟨R.2.er, R.2.e, ⟨xa, xn, xc⟩⟩)) w.heap.size ⟨qa, qn, qc⟩ R.1.es) := HNE.out.kept (Kept.setRow _ _ _) (fun k h e => (HNE.out.own.notBox (HF.out.box 2 _ _ _ rfl) (by decide)) ((show k = gk12 from e) ▸ h))
                have HNL : Hid (OwL (wk14.setRow gk12 (Av.cells ⟨R.2.er, R.2.e, ⟨xa, xn, xc⟩⟩)) w.heap.size ⟨ra, rn, rc⟩ R.1.ls) := HNL.out.kept (Kept.setRow _ _ _) (fun k h e => (HNL.out.own.notBox (HF.out.box 2 _ _ _ rfl) (by decide)) ((show k = gk12 from e) ▸ h))
                have HXE : Hid (OwE (wk14.setRow gk12 (Av.cells ⟨R.2.er, R.2.e, ⟨xa, xn, xc⟩⟩)) w.heap.size ⟨xa, xn, xc⟩ R.2.l) := HXE.out.kept (Kept.setRow _ _ _) (fun k h e => (HXE.out.own.notBox (HF.out.box 2 _ _ _ rfl) (by decide)) ((show k = gk12 from e) ▸ h))
                have HKs : Hid (Kept No wk8 (wk14.setRow gk12 (Av.cells ⟨R.2.er, R.2.e, ⟨xa, xn, xc⟩⟩))) := HKs.out.newRow HG_gk12.out _
                have HF : Hid (Fr No w (wk14.setRow gk12 (Av.cells ⟨R.2.er, R.2.e, ⟨xa, xn, xc⟩⟩)) [(gk1, 25, Bv.cells ⟨bu, ⟨ba, bn, bc⟩, ⟨la, ln, lc⟩⟩), (gk10, 25, Bv.cells ⟨R.1.up, ⟨qa, qn, qc⟩, ⟨ra, rn, rc⟩⟩), (gk12, 56, Av.cells ⟨R.2.er, R.2.e, ⟨xa, xn, xc⟩⟩)]) := HF.out.set 2 rfl _
                generalize wk14.setRow gk12 (Av.cells ⟨R.2.er, R.2.e, ⟨xa, xn, xc⟩⟩) = wk15 at HF HKs HNE HNL HXE hH ⊢
                refine any_take (i := 15) (oi := { dst := some 10, op := Op.assign (Operand.tmp 57), type := 46, pos := "outright.go:21", after := #[{ on := 10, ground := Ground.data }, { on := 14, ground := Ground.chain }, { on := 0, ground := Ground.phase }, { on := 1, ground := Ground.phase }, { on := 2, ground := Ground.phase }, { on := 3, ground := Ground.phase }, { on := 4, ground := Ground.phase }, { on := 5, ground := Ground.phase }, { on := 6, ground := Ground.phase }, { on := 7, ground := Ground.phase }, { on := 8, ground := Ground.phase }, { on := 9, ground := Ground.phase }, { on := 10, ground := Ground.phase }, { on := 11, ground := Ground.phase }, { on := 12, ground := Ground.phase }, { on := 13, ground := Ground.phase }, { on := 14, ground := Ground.phase }], guard := none }) (v := .int .i64 0) rfl (by kernel_rfl) (by kernel_rfl) (by kernel_rfl) (fun _ _ _ h => h) (by kernel_rfl) (fun _ _ => by kernel_rfl) hH ?_
                try simp only [pA, pB, p1, p2, p3]
                refine wpAnyH_done (by kernel_rfl) ?_ _
                try simp only [pA, pB, p1, p2, p3]
                have HBE : Hid (RdE wk15 ⟨ba, bn, bc⟩ bes) := HBE.out.no HKs.out
                refine hK0 _ _ (Met.intro (hJ0 _ _ ?_))
                (repeat apply Exists.intro)
                refine ⟨?_, rfl⟩
                exact ⟨gk10, gk12, qa, qn, qc, ra, rn, rc, xa, xn, xc, rfl, rfl, rfl, HF, HBE, HNE, HNL, HXE⟩
               ·skip
                clear hi
                refine step_run (i := 12) (o := { dst := some 9, op := Op.alloc 56, type := 0, pos := "outright.go:21", after := #[], guard := none }) rfl (by kernel_rfl) (exec_alloc 56 rfl (Av.cells avZ) zero56) ((hH.alloc _ _).front) (fun hH => ?_)
                try simp only [pA, pB, p1, p2, p3]
                have HG_gk16 : Hid (wk8.heap.size ≤ wk9.heap.size) := HKs.out.size
                have HNE : Hid (OwE (wk9.alloc (.cells (Av.cells avZ) 56)) w.heap.size ⟨qa, qn, qc⟩ R.1.es) := HNE.out.no ((Kept.refl No _).alloc _)
                have HNL : Hid (OwL (wk9.alloc (.cells (Av.cells avZ) 56)) w.heap.size ⟨ra, rn, rc⟩ R.1.ls) := HNL.out.no ((Kept.refl No _).alloc _)
                have HXE : Hid (OwE (wk9.alloc (.cells (Av.cells avZ) 56)) w.heap.size ⟨xa, xn, xc⟩ R.2.l) := HXE.out.no ((Kept.refl No _).alloc _)
                have HKs : Hid (Kept No wk8 (wk9.alloc (.cells (Av.cells avZ) 56))) := HKs.out.no ((Kept.refl No _).alloc _)
                have HF : Hid (Fr No w (wk9.alloc (.cells (Av.cells avZ) 56)) [(gk1, 25, Bv.cells ⟨bu, ⟨ba, bn, bc⟩, ⟨la, ln, lc⟩⟩), (wk9.heap.size, 56, Av.cells avZ)]) := HF.out.alloc _ _
                generalize wk9.alloc (.cells (Av.cells avZ) 56) = wk17 at HF HKs HNE HNL HXE hH ⊢
                obtain ⟨gk16, hg⟩ : ∃ g, g = wk9.heap.size := ⟨_, rfl⟩
                have HG_gk16 : Hid (wk8.heap.size ≤ gk16) := by show _ ≤ _; rw [hg]; exact HG_gk16.out
                rw [← hg] at HF ⊢
                clear hg
                refine any_step (i := 11) (o := { dst := some 8, op := Op.alloc 25, type := 0, pos := "outright.go:21", after := #[], guard := none }) rfl (by kernel_rfl) (by kernel_rfl) (exec_alloc 25 rfl (Bv.cells bvZ) zero25) ((hH.alloc _ _).front) (fun hH => ?_)
                try simp only [pA, pB, p1, p2, p3]
                have HG_gk18 : Hid (wk8.heap.size ≤ wk17.heap.size) := HKs.out.size
                have HNE : Hid (OwE (wk17.alloc (.cells (Bv.cells bvZ) 25)) w.heap.size ⟨qa, qn, qc⟩ R.1.es) := HNE.out.no ((Kept.refl No _).alloc _)
                have HNL : Hid (OwL (wk17.alloc (.cells (Bv.cells bvZ) 25)) w.heap.size ⟨ra, rn, rc⟩ R.1.ls) := HNL.out.no ((Kept.refl No _).alloc _)
                have HXE : Hid (OwE (wk17.alloc (.cells (Bv.cells bvZ) 25)) w.heap.size ⟨xa, xn, xc⟩ R.2.l) := HXE.out.no ((Kept.refl No _).alloc _)
                have HKs : Hid (Kept No wk8 (wk17.alloc (.cells (Bv.cells bvZ) 25))) := HKs.out.no ((Kept.refl No _).alloc _)
                have HF : Hid (Fr No w (wk17.alloc (.cells (Bv.cells bvZ) 25)) [(gk1, 25, Bv.cells ⟨bu, ⟨ba, bn, bc⟩, ⟨la, ln, lc⟩⟩), (gk16, 56, Av.cells avZ), (wk17.heap.size, 25, Bv.cells bvZ)]) := HF.out.alloc _ _
                generalize wk17.alloc (.cells (Bv.cells bvZ) 25) = wk19 at HF HKs HNE HNL HXE hH ⊢
                obtain ⟨gk18, hg⟩ : ∃ g, g = wk17.heap.size := ⟨_, rfl⟩
                have HG_gk18 : Hid (wk8.heap.size ≤ gk18) := by show _ ≤ _; rw [hg]; exact HG_gk18.out
                rw [← hg] at HF ⊢
                clear hg
                refine any_store (i := 13) (o := { dst := none, op := Op.store 25 (Operand.tmp 8) (Operand.tmp 55), type := 0, pos := "outright.go:21", after := #[{ on := 11, ground := Ground.data }, { on := 8, ground := Ground.data }, { on := 6, ground := Ground.chain }, { on := 0, ground := Ground.phase }, { on := 1, ground := Ground.phase }, { on := 2, ground := Ground.phase }, { on := 3, ground := Ground.phase }, { on := 4, ground := Ground.phase }, { on := 5, ground := Ground.phase }, { on := 6, ground := Ground.phase }, { on := 7, ground := Ground.phase }, { on := 8, ground := Ground.phase }, { on := 9, ground := Ground.textOnly Departure.lateStores }, { on := 10, ground := Ground.textOnly Departure.lateStores }, { on := 11, ground := Ground.phase }, { on := 12, ground := Ground.phase }], guard := none }) (w' := wk19.setRow gk18 (Bv.cells ⟨R.1.up, ⟨qa, qn, qc⟩, ⟨ra, rn, rc⟩⟩)) rfl (by kernel_rfl) (by kernel_rfl) 25 _ _ rfl ⟨gk18, 0, none⟩ (.agg (Bv.cells ⟨R.1.up, ⟨qa, qn, qc⟩, ⟨ra, rn, rc⟩⟩)) (by kernel_rfl) (by kernel_rfl) (st25 (HF.out.box 2 _ _ _ rfl) rfl) ((show Fr No w _ ([(gk1, 25, Bv.cells ⟨bu, ⟨ba, bn, bc⟩, ⟨la, ln, lc⟩⟩)] ++ [(gk16, 56, Av.cells avZ), (gk18, 25, Bv.cells ⟨R.1.up, ⟨qa, qn, qc⟩, ⟨ra, rn, rc⟩⟩)]) from HF.out.set 2 rfl _).front) (fun hH => ?_)
                try simp only [pA, pB, p1, p2, p3]
                have HNE : Hid (OwE (wk19.setRow gk18 (Bv.cells ⟨R.1.up, ⟨qa, qn, qc⟩, ⟨ra, rn, rc⟩⟩)) w.heap.size ⟨qa, qn, qc⟩ R.1.es) := HNE.out.kept (Kept.setRow _ _ _) (fun k h e => (HNE.out.own.notBox (HF.out.box 2 _ _ _ rfl) (by decide)) ((show k = gk18 from e) ▸ h))
                have HNL : Hid (OwL (wk19.setRow gk18 (Bv.cells ⟨R.1.up, ⟨qa, qn, qc⟩, ⟨ra, rn, rc⟩⟩)) w.heap.size ⟨ra, rn, rc⟩ R.1.ls) := HNL.out.kept (Kept.setRow _ _ _) (fun k h e => (HNL.out.own.notBox (HF.out.box 2 _ _ _ rfl) (by decide)) ((show k = gk18 from e) ▸ h))
                have HXE : Hid (OwE (wk19.setRow gk18 (Bv.cells ⟨R.1.up, ⟨qa, qn, qc⟩, ⟨ra, rn, rc⟩⟩)) w.heap.size ⟨xa, xn, xc⟩ R.2.l) := HXE.out.kept (Kept.setRow _ _ _) (fun k h e => (HXE.out.own.notBox (HF.out.box 2 _ _ _ rfl) (by decide)) ((show k = gk18 from e) ▸ h))
                have HKs : Hid (Kept No wk8 (wk19.setRow gk18 (Bv.cells ⟨R.1.up, ⟨qa, qn, qc⟩, ⟨ra, rn, rc⟩⟩))) := HKs.out.newRow HG_gk18.out _
                have HF : Hid (Fr No w (wk19.setRow gk18 (Bv.cells ⟨R.1.up, ⟨qa, qn, qc⟩, ⟨ra, rn, rc⟩⟩)) [(gk1, 25, Bv.cells ⟨bu, ⟨ba, bn, bc⟩, ⟨la, ln, lc⟩⟩), (gk16, 56, Av.cells avZ), (gk18, 25, Bv.cells ⟨R.1.up, ⟨qa, qn, qc⟩, ⟨ra, rn, rc⟩⟩)]) := HF.out.set 2 rfl _
                generalize wk19.setRow gk18 (Bv.cells ⟨R.1.up, ⟨qa, qn, qc⟩, ⟨ra, rn, rc⟩⟩) = wk20 at HF HKs HNE HNL HXE hH ⊢
                refine any_store (i := 14) (o := { dst := none, op := Op.store 56 (Operand.tmp 9) (Operand.tmp 56), type := 0, pos := "outright.go:21", after := #[{ on := 12, ground := Ground.data }, { on := 9, ground := Ground.data }, { on := 13, ground := Ground.chain }, { on := 0, ground := Ground.phase }, { on := 1, ground := Ground.phase }, { on := 2, ground := Ground.phase }, { on := 3, ground := Ground.phase }, { on := 4, ground := Ground.phase }, { on := 5, ground := Ground.phase }, { on := 6, ground := Ground.phase }, { on := 7, ground := Ground.phase }, { on := 8, ground := Ground.phase }, { on := 9, ground := Ground.phase }, { on := 10, ground := Ground.textOnly Departure.lateStores }, { on := 11, ground := Ground.phase }, { on := 12, ground := Ground.phase }, { on := 13, ground := Ground.phase }], guard := none }) (w' := wk20.setRow gk16 (Av.cells ⟨R.2.er, R.2.e, ⟨xa, xn, xc⟩⟩)) rfl (by kernel_rfl) (by kernel_rfl) 56 _ _ rfl ⟨gk16, 0, none⟩ (.agg (Av.cells ⟨R.2.er, R.2.e, ⟨xa, xn, xc⟩⟩)) (by kernel_rfl) (by kernel_rfl) (st56 (HF.out.box 1 _ _ _ rfl) rfl) ((show Fr No w _ ([(gk1, 25, Bv.cells ⟨bu, ⟨ba, bn, bc⟩, ⟨la, ln, lc⟩⟩)] ++ [(gk16, 56, Av.cells ⟨R.2.er, R.2.e, ⟨xa, xn, xc⟩⟩), (gk18, 25, Bv.cells ⟨R.1.up, ⟨qa, qn, qc⟩, ⟨ra, rn, rc⟩⟩)]) from HF.out.set 1 rfl _).front) (fun hH => ?_)
                try simp only [pA, pB, p1, p2, p3]
                have HNE : Hid (OwE (wk20.setRow gk16 (Av.cells ⟨R.2.er, R.2.e, ⟨xa, xn, xc⟩⟩)) w.heap.size ⟨qa, qn, qc⟩ R.1.es) := HNE.out.kept (Kept.setRow _ _ _) (fun k h e => (HNE.out.own.notBox (HF.out.box 1 _ _ _ rfl) (by decide)) ((show k = gk16 from e) ▸ h))
                have HNL : Hid (OwL (wk20.setRow gk16 (Av.cells ⟨R.2.er, R.2.e, ⟨xa, xn, xc⟩⟩)) w.heap.size ⟨ra, rn, rc⟩ R.1.ls) := HNL.out.kept (Kept.setRow _ _ _) (fun k h e => (HNL.out.own.notBox (HF.out.box 1 _ _ _ rfl) (by decide)) ((show k = gk16 from e) ▸ h))
                have HXE : Hid (OwE (wk20.setRow gk16 (Av.cells ⟨R.2.er, R.2.e, ⟨xa, xn, xc⟩⟩)) w.heap.size ⟨xa, xn, xc⟩ R.2.l) := HXE.out.kept (Kept.setRow _ _ _) (fun k h e => (HXE.out.own.notBox (HF.out.box 1 _ _ _ rfl) (by decide)) ((show k = gk16 from e) ▸ h))
                have HKs : Hid (Kept No wk8 (wk20.setRow gk16 (Av.cells ⟨R.2.er, R.2.e, ⟨xa, xn, xc⟩⟩))) := HKs.out.newRow HG_gk16.out _
                have HF : Hid (Fr No w (wk20.setRow gk16 (Av.cells ⟨R.2.er, R.2.e, ⟨xa, xn, xc⟩⟩)) [(gk1, 25, Bv.cells ⟨bu, ⟨ba, bn, bc⟩, ⟨la, ln, lc⟩⟩), (gk16, 56, Av.cells ⟨R.2.er, R.2.e, ⟨xa, xn, xc⟩⟩), (gk18, 25, Bv.cells ⟨R.1.up, ⟨qa, qn, qc⟩, ⟨ra, rn, rc⟩⟩)]) := HF.out.set 1 rfl _
                generalize wk20.setRow gk16 (Av.cells ⟨R.2.er, R.2.e, ⟨xa, xn, xc⟩⟩) = wk21 at HF HKs HNE HNL HXE hH ⊢
                refine any_take (i := 15) (oi := { dst := some 10, op := Op.assign (Operand.tmp 57), type := 46, pos := "outright.go:21", after := #[{ on := 10, ground := Ground.data }, { on := 14, ground := Ground.chain }, { on := 0, ground := Ground.phase }, { on := 1, ground := Ground.phase }, { on := 2, ground := Ground.phase }, { on := 3, ground := Ground.phase }, { on := 4, ground := Ground.phase }, { on := 5, ground := Ground.phase }, { on := 6, ground := Ground.phase }, { on := 7, ground := Ground.phase }, { on := 8, ground := Ground.phase }, { on := 9, ground := Ground.phase }, { on := 10, ground := Ground.phase }, { on := 11, ground := Ground.phase }, { on := 12, ground := Ground.phase }, { on := 13, ground := Ground.phase }, { on := 14, ground := Ground.phase }], guard := none }) (v := .int .i64 0) rfl (by kernel_rfl) (by kernel_rfl) (by kernel_rfl) (fun _ _ _ h => h) (by kernel_rfl) (fun _ _ => by kernel_rfl) hH ?_
                try simp only [pA, pB, p1, p2, p3]
                refine wpAnyH_done (by kernel_rfl) ?_ _
                try simp only [pA, pB, p1, p2, p3]
                have HF : Hid (Fr No w wk21 [(gk1, 25, Bv.cells ⟨bu, ⟨ba, bn, bc⟩, ⟨la, ln, lc⟩⟩), (gk18, 25, Bv.cells ⟨R.1.up, ⟨qa, qn, qc⟩, ⟨ra, rn, rc⟩⟩), (gk16, 56, Av.cells ⟨R.2.er, R.2.e, ⟨xa, xn, xc⟩⟩)]) := HF.out.swap3
                have HBE : Hid (RdE wk21 ⟨ba, bn, bc⟩ bes) := HBE.out.no HKs.out
                refine hK0 _ _ (Met.intro (hJ0 _ _ ?_))
                (repeat apply Exists.intro)
                refine ⟨?_, rfl⟩
                exact ⟨gk18, gk16, qa, qn, qc, ra, rn, rc, xa, xn, xc, rfl, rfl, rfl, HF, HBE, HNE, HNL, HXE⟩
              ·skip
               clear hi
               refine step_run (i := 11) (o := { dst := some 8, op := Op.alloc 25, type := 0, pos := "outright.go:21", after := #[], guard := none }) rfl (by kernel_rfl) (exec_alloc 25 rfl (Bv.cells bvZ) zero25) ((hH.alloc _ _).front) (fun hH => ?_)
               try simp only [pA, pB, p1, p2, p3]
               have HG_gk22 : Hid (wk8.heap.size ≤ wk8.heap.size) := HKs.out.size
               have HKs : Hid (Kept No wk8 (wk8.alloc (.cells (Bv.cells bvZ) 25))) := HKs.out.no ((Kept.refl No _).alloc _)
               have HF : Hid (Fr No w (wk8.alloc (.cells (Bv.cells bvZ) 25)) [(gk1, 25, Bv.cells ⟨bu, ⟨ba, bn, bc⟩, ⟨la, ln, lc⟩⟩), (wk8.heap.size, 25, Bv.cells bvZ)]) := HF.out.alloc _ _
               generalize wk8.alloc (.cells (Bv.cells bvZ) 25) = wk23 at HF HKs hH ⊢
               obtain ⟨gk22, hg⟩ : ∃ g, g = wk8.heap.size := ⟨_, rfl⟩
               have HG_gk22 : Hid (wk8.heap.size ≤ gk22) := by show _ ≤ _; rw [hg]; exact HG_gk22.out
               rw [← hg] at HF ⊢
               clear hg
               refine any_pick (rs := [6, 12]) (by kernel_rfl) (by simp) ?_
               intro i hi
               rcases pick2 hi with rfl | rfl
               ·skip
                clear hi
                refine step_call (i := 6) (o := { dst := some 54, op := Op.call { callee := Callee.value (Operand.func 22), args := #[Operand.tmp 48, Operand.tmp 52, Operand.tmp 53], argTypes := #[25, 29, 3] }, type := 57, pos := "outright.go:21", after := #[{ on := 0, ground := Ground.data }, { on := 4, ground := Ground.data }, { on := 5, ground := Ground.data }], guard := none }) rfl (by kernel_rfl) 22 #[.agg (Bv.cells ⟨bu, ⟨ba, bn, bc⟩, ⟨la, ln, lc⟩⟩), .agg (Cm.cells x), .int .i64 room] (by kernel_rfl) _ (HAP.out _ (HBE.out.no HKs.out) (HBL.out.no HKs.out)) ?_
                rintro e wk24 ⟨⟨qa, qn, qc⟩, ⟨ra, rn, rc⟩, ⟨xa, xn, xc⟩, rfl, hQ, hR, hX, hD, hk⟩
                have hH2 : Fr No w wk24 [(gk1, 25, Bv.cells ⟨bu, ⟨ba, bn, bc⟩, ⟨la, ln, lc⟩⟩)] := hH.no hk
                have HNE : Hid (OwE wk24 w.heap.size ⟨qa, qn, qc⟩ R.1.es) := hQ.lower HF.out.kept.size
                have HNL : Hid (OwL wk24 w.heap.size ⟨ra, rn, rc⟩ R.1.ls) := hR.lower HF.out.kept.size
                have HXE : Hid (OwE wk24 w.heap.size ⟨xa, xn, xc⟩ R.2.l) := hX.lower HF.out.kept.size
                have HKs : Hid (Kept No wk8 (wk24)) := HKs.out.no hk
                have HF : Hid (Fr No w (wk24) [(gk1, 25, Bv.cells ⟨bu, ⟨ba, bn, bc⟩, ⟨la, ln, lc⟩⟩), (gk22, 25, Bv.cells bvZ)]) := HF.out.no hk
                clear hQ hR hX hD hk
                refine ⟨.tuple #[.agg (Bv.cells ⟨R.1.up, ⟨qa, qn, qc⟩, ⟨ra, rn, rc⟩⟩), .agg (Av.cells ⟨R.2.er, R.2.e, ⟨xa, xn, xc⟩⟩), .int .i64 0], rfl, hH2, fun hH => ?_⟩
                clear hH2
                try simp only [pA, pB, p1, p2, p3]
                refine any_take (i := 7) (oi := { dst := some 47, op := Op.move (Operand.tmp 54), type := 57, pos := "outright.go:21", after := #[{ on := 6, ground := Ground.data }], guard := none }) (v := .tuple #[.agg (Bv.cells ⟨R.1.up, ⟨qa, qn, qc⟩, ⟨ra, rn, rc⟩⟩), .agg (Av.cells ⟨R.2.er, R.2.e, ⟨xa, xn, xc⟩⟩), .int .i64 0]) rfl (by kernel_rfl) (by kernel_rfl) (by kernel_rfl) (fun _ _ _ h => h) (by kernel_rfl) (fun _ _ => by kernel_rfl) hH ?_
                try simp only [pA, pB, p1, p2, p3]
                refine any_take (i := 8) (oi := { dst := some 55, op := Op.extract (Operand.tmp 47) 0, type := 25, pos := "outright.go:21", after := #[{ on := 7, ground := Ground.data }], guard := none }) (v := .agg (Bv.cells ⟨R.1.up, ⟨qa, qn, qc⟩, ⟨ra, rn, rc⟩⟩)) rfl (by kernel_rfl) (by kernel_rfl) (by kernel_rfl) (fun _ _ _ h => h) (by kernel_rfl) (fun _ _ => by kernel_rfl) hH ?_
                try simp only [pA, pB, p1, p2, p3]
                refine any_take (i := 9) (oi := { dst := some 56, op := Op.extract (Operand.tmp 47) 1, type := 56, pos := "outright.go:21", after := #[{ on := 7, ground := Ground.data }, { on := 13, ground := Ground.gcOnly Departure.lateStores }], guard := none }) (v := .agg (Av.cells ⟨R.2.er, R.2.e, ⟨xa, xn, xc⟩⟩)) rfl (by kernel_rfl) (by kernel_rfl) (by kernel_rfl) (fun _ _ _ h => h) (by kernel_rfl) (fun _ _ => by kernel_rfl) hH ?_
                try simp only [pA, pB, p1, p2, p3]
                refine any_take (i := 10) (oi := { dst := some 57, op := Op.extract (Operand.tmp 47) 2, type := 46, pos := "outright.go:21", after := #[{ on := 7, ground := Ground.data }, { on := 14, ground := Ground.gcOnly Departure.lateStores }], guard := none }) (v := .int .i64 0) rfl (by kernel_rfl) (by kernel_rfl) (by kernel_rfl) (fun _ _ _ h => h) (by kernel_rfl) (fun _ _ => by kernel_rfl) hH ?_
                try simp only [pA, pB, p1, p2, p3]
                refine any_step (i := 12) (o := { dst := some 9, op := Op.alloc 56, type := 0, pos := "outright.go:21", after := #[], guard := none }) rfl (by kernel_rfl) (by kernel_rfl) (exec_alloc 56 rfl (Av.cells avZ) zero56) ((hH.alloc _ _).front) (fun hH => ?_)
                try simp only [pA, pB, p1, p2, p3]
                have HG_gk25 : Hid (wk8.heap.size ≤ wk24.heap.size) := HKs.out.size
                have HNE : Hid (OwE (wk24.alloc (.cells (Av.cells avZ) 56)) w.heap.size ⟨qa, qn, qc⟩ R.1.es) := HNE.out.no ((Kept.refl No _).alloc _)
                have HNL : Hid (OwL (wk24.alloc (.cells (Av.cells avZ) 56)) w.heap.size ⟨ra, rn, rc⟩ R.1.ls) := HNL.out.no ((Kept.refl No _).alloc _)
                have HXE : Hid (OwE (wk24.alloc (.cells (Av.cells avZ) 56)) w.heap.size ⟨xa, xn, xc⟩ R.2.l) := HXE.out.no ((Kept.refl No _).alloc _)
                have HKs : Hid (Kept No wk8 (wk24.alloc (.cells (Av.cells avZ) 56))) := HKs.out.no ((Kept.refl No _).alloc _)
                have HF : Hid (Fr No w (wk24.alloc (.cells (Av.cells avZ) 56)) [(gk1, 25, Bv.cells ⟨bu, ⟨ba, bn, bc⟩, ⟨la, ln, lc⟩⟩), (gk22, 25, Bv.cells bvZ), (wk24.heap.size, 56, Av.cells avZ)]) := HF.out.alloc _ _
                generalize wk24.alloc (.cells (Av.cells avZ) 56) = wk26 at HF HKs HNE HNL HXE hH ⊢
                obtain ⟨gk25, hg⟩ : ∃ g, g = wk24.heap.size := ⟨_, rfl⟩
                have HG_gk25 : Hid (wk8.heap.size ≤ gk25) := by show _ ≤ _; rw [hg]; exact HG_gk25.out
                rw [← hg] at HF ⊢
                clear hg
                refine any_store (i := 13) (o := { dst := none, op := Op.store 25 (Operand.tmp 8) (Operand.tmp 55), type := 0, pos := "outright.go:21", after := #[{ on := 11, ground := Ground.data }, { on := 8, ground := Ground.data }, { on := 6, ground := Ground.chain }, { on := 0, ground := Ground.phase }, { on := 1, ground := Ground.phase }, { on := 2, ground := Ground.phase }, { on := 3, ground := Ground.phase }, { on := 4, ground := Ground.phase }, { on := 5, ground := Ground.phase }, { on := 6, ground := Ground.phase }, { on := 7, ground := Ground.phase }, { on := 8, ground := Ground.phase }, { on := 9, ground := Ground.textOnly Departure.lateStores }, { on := 10, ground := Ground.textOnly Departure.lateStores }, { on := 11, ground := Ground.phase }, { on := 12, ground := Ground.phase }], guard := none }) (w' := wk26.setRow gk22 (Bv.cells ⟨R.1.up, ⟨qa, qn, qc⟩, ⟨ra, rn, rc⟩⟩)) rfl (by kernel_rfl) (by kernel_rfl) 25 _ _ rfl ⟨gk22, 0, none⟩ (.agg (Bv.cells ⟨R.1.up, ⟨qa, qn, qc⟩, ⟨ra, rn, rc⟩⟩)) (by kernel_rfl) (by kernel_rfl) (st25 (HF.out.box 1 _ _ _ rfl) rfl) ((show Fr No w _ ([(gk1, 25, Bv.cells ⟨bu, ⟨ba, bn, bc⟩, ⟨la, ln, lc⟩⟩)] ++ [(gk22, 25, Bv.cells ⟨R.1.up, ⟨qa, qn, qc⟩, ⟨ra, rn, rc⟩⟩), (gk25, 56, Av.cells avZ)]) from HF.out.set 1 rfl _).front) (fun hH => ?_)
                try simp only [pA, pB, p1, p2, p3]
                have HNE : Hid (OwE (wk26.setRow gk22 (Bv.cells ⟨R.1.up, ⟨qa, qn, qc⟩, ⟨ra, rn, rc⟩⟩)) w.heap.size ⟨qa, qn, qc⟩ R.1.es) := HNE.out.kept (Kept.setRow _ _ _) (fun k h e => (HNE.out.own.notBox (HF.out.box 1 _ _ _ rfl) (by decide)) ((show k = gk22 from e) ▸ h))
                have HNL : Hid (OwL (wk26.setRow gk22 (Bv.cells ⟨R.1.up, ⟨qa, qn, qc⟩, ⟨ra, rn, rc⟩⟩)) w.heap.size ⟨ra, rn, rc⟩ R.1.ls) := HNL.out.kept (Kept.setRow _ _ _) (fun k h e => (HNL.out.own.notBox (HF.out.box 1 _ _ _ rfl) (by decide)) ((show k = gk22 from e) ▸ h))
                have HXE : Hid (OwE (wk26.setRow gk22 (Bv.cells ⟨R.1.up, ⟨qa, qn, qc⟩, ⟨ra, rn, rc⟩⟩)) w.heap.size ⟨xa, xn, xc⟩ R.2.l) := HXE.out.kept (Kept.setRow _ _ _) (fun k h e => (HXE.out.own.notBox (HF.out.box 1 _ _ _ rfl) (by decide)) ((show k = gk22 from e) ▸ h))
                have HKs : Hid (Kept No wk8 (wk26.setRow gk22 (Bv.cells ⟨R.1.up, ⟨qa, qn, qc⟩, ⟨ra, rn, rc⟩⟩))) := HKs.out.newRow HG_gk22.out _
                have HF : Hid (Fr No w (wk26.setRow gk22 (Bv.cells ⟨R.1.up, ⟨qa, qn, qc⟩, ⟨ra, rn, rc⟩⟩)) [(gk1, 25, Bv.cells ⟨bu, ⟨ba, bn, bc⟩, ⟨la, ln, lc⟩⟩), (gk22, 25, Bv.cells ⟨R.1.up, ⟨qa, qn, qc⟩, ⟨ra, rn, rc⟩⟩), (gk25, 56, Av.cells avZ)]) := HF.out.set 1 rfl _
                generalize wk26.setRow gk22 (Bv.cells ⟨R.1.up, ⟨qa, qn, qc⟩, ⟨ra, rn, rc⟩⟩) = wk27 at HF HKs HNE HNL HXE hH ⊢
                refine any_store (i := 14) (o := { dst := none, op := Op.store 56 (Operand.tmp 9) (Operand.tmp 56), type := 0, pos := "outright.go:21", after := #[{ on := 12, ground := Ground.data }, { on := 9, ground := Ground.data }, { on := 13, ground := Ground.chain }, { on := 0, ground := Ground.phase }, { on := 1, ground := Ground.phase }, { on := 2, ground := Ground.phase }, { on := 3, ground := Ground.phase }, { on := 4, ground := Ground.phase }, { on := 5, ground := Ground.phase }, { on := 6, ground := Ground.phase }, { on := 7, ground := Ground.phase }, { on := 8, ground := Ground.phase }, { on := 9, ground := Ground.phase }, { on := 10, ground := Ground.textOnly Departure.lateStores }, { on := 11, ground := Ground.phase }, { on := 12, ground := Ground.phase }, { on := 13, ground := Ground.phase }], guard := none }) (w' := wk27.setRow gk25 (Av.cells ⟨R.2.er, R.2.e, ⟨xa, xn, xc⟩⟩)) rfl (by kernel_rfl) (by kernel_rfl) 56 _ _ rfl ⟨gk25, 0, none⟩ (.agg (Av.cells ⟨R.2.er, R.2.e, ⟨xa, xn, xc⟩⟩)) (by kernel_rfl) (by kernel_rfl) (st56 (HF.out.box 2 _ _ _ rfl) rfl) ((show Fr No w _ ([(gk1, 25, Bv.cells ⟨bu, ⟨ba, bn, bc⟩, ⟨la, ln, lc⟩⟩)] ++ [(gk22, 25, Bv.cells ⟨R.1.up, ⟨qa, qn, qc⟩, ⟨ra, rn, rc⟩⟩), (gk25, 56, Av.cells ⟨R.2.er, R.2.e, ⟨xa, xn, xc⟩⟩)]) from HF.out.set 2 rfl _).front) (fun hH => ?_)
                try simp only [pA, pB, p1, p2, p3]
                have HNE : Hid (OwE (wk27.setRow gk25 (Av.cells ⟨R.2.er, R.2.e, ⟨xa, xn, xc⟩⟩)) w.heap.size ⟨qa, qn, qc⟩ R.1.es) := HNE.out.kept (Kept.setRow _ _ _) (fun k h e => (HNE.out.own.notBox (HF.out.box 2 _ _ _ rfl) (by decide)) ((show k = gk25 from e) ▸ h))
                have HNL : Hid (OwL (wk27.setRow gk25 (Av.cells ⟨R.2.er, R.2.e, ⟨xa, xn, xc⟩⟩)) w.heap.size ⟨ra, rn, rc⟩ R.1.ls) := HNL.out.kept (Kept.setRow _ _ _) (fun k h e => (HNL.out.own.notBox (HF.out.box 2 _ _ _ rfl) (by decide)) ((show k = gk25 from e) ▸ h))
                have HXE : Hid (OwE (wk27.setRow gk25 (Av.cells ⟨R.2.er, R.2.e, ⟨xa, xn, xc⟩⟩)) w.heap.size ⟨xa, xn, xc⟩ R.2.l) := HXE.out.kept (Kept.setRow _ _ _) (fun k h e => (HXE.out.own.notBox (HF.out.box 2 _ _ _ rfl) (by decide)) ((show k = gk25 from e) ▸ h))
                have HKs : Hid (Kept No wk8 (wk27.setRow gk25 (Av.cells ⟨R.2.er, R.2.e, ⟨xa, xn, xc⟩⟩))) := HKs.out.newRow HG_gk25.out _
                have HF : Hid (Fr No w (wk27.setRow gk25 (Av.cells ⟨R.2.er, R.2.e, ⟨xa, xn, xc⟩⟩)) [(gk1, 25, Bv.cells ⟨bu, ⟨ba, bn, bc⟩, ⟨la, ln, lc⟩⟩), (gk22, 25, Bv.cells ⟨R.1.up, ⟨qa, qn, qc⟩, ⟨ra, rn, rc⟩⟩), (gk25, 56, Av.cells ⟨R.2.er, R.2.e, ⟨xa, xn, xc⟩⟩)]) := HF.out.set 2 rfl _
                generalize wk27.setRow gk25 (Av.cells ⟨R.2.er, R.2.e, ⟨xa, xn, xc⟩⟩) = wk28 at HF HKs HNE HNL HXE hH ⊢
                refine any_take (i := 15) (oi := { dst := some 10, op := Op.assign (Operand.tmp 57), type := 46, pos := "outright.go:21", after := #[{ on := 10, ground := Ground.data }, { on := 14, ground := Ground.chain }, { on := 0, ground := Ground.phase }, { on := 1, ground := Ground.phase }, { on := 2, ground := Ground.phase }, { on := 3, ground := Ground.phase }, { on := 4, ground := Ground.phase }, { on := 5, ground := Ground.phase }, { on := 6, ground := Ground.phase }, { on := 7, ground := Ground.phase }, { on := 8, ground := Ground.phase }, { on := 9, ground := Ground.phase }, { on := 10, ground := Ground.phase }, { on := 11, ground := Ground.phase }, { on := 12, ground := Ground.phase }, { on := 13, ground := Ground.phase }, { on := 14, ground := Ground.phase }], guard := none }) (v := .int .i64 0) rfl (by kernel_rfl) (by kernel_rfl) (by kernel_rfl) (fun _ _ _ h => h) (by kernel_rfl) (fun _ _ => by kernel_rfl) hH ?_
                try simp only [pA, pB, p1, p2, p3]
                refine wpAnyH_done (by kernel_rfl) ?_ _
                try simp only [pA, pB, p1, p2, p3]
                have HBE : Hid (RdE wk28 ⟨ba, bn, bc⟩ bes) := HBE.out.no HKs.out
                refine hK0 _ _ (Met.intro (hJ0 _ _ ?_))
                (repeat apply Exists.intro)
                refine ⟨?_, rfl⟩
                exact ⟨gk22, gk25, qa, qn, qc, ra, rn, rc, xa, xn, xc, rfl, rfl, rfl, HF, HBE, HNE, HNL, HXE⟩
               ·skip
                clear hi
                refine step_run (i := 12) (o := { dst := some 9, op := Op.alloc 56, type := 0, pos := "outright.go:21", after := #[], guard := none }) rfl (by kernel_rfl) (exec_alloc 56 rfl (Av.cells avZ) zero56) ((hH.alloc _ _).front) (fun hH => ?_)
                try simp only [pA, pB, p1, p2, p3]
                have HG_gk29 : Hid (wk8.heap.size ≤ wk23.heap.size) := HKs.out.size
                have HKs : Hid (Kept No wk8 (wk23.alloc (.cells (Av.cells avZ) 56))) := HKs.out.no ((Kept.refl No _).alloc _)
                have HF : Hid (Fr No w (wk23.alloc (.cells (Av.cells avZ) 56)) [(gk1, 25, Bv.cells ⟨bu, ⟨ba, bn, bc⟩, ⟨la, ln, lc⟩⟩), (gk22, 25, Bv.cells bvZ), (wk23.heap.size, 56, Av.cells avZ)]) := HF.out.alloc _ _
                generalize wk23.alloc (.cells (Av.cells avZ) 56) = wk30 at HF HKs hH ⊢
                obtain ⟨gk29, hg⟩ : ∃ g, g = wk23.heap.size := ⟨_, rfl⟩
                have HG_gk29 : Hid (wk8.heap.size ≤ gk29) := by show _ ≤ _; rw [hg]; exact HG_gk29.out
                rw [← hg] at HF ⊢
                clear hg
                refine any_call (i := 6) (o := { dst := some 54, op := Op.call { callee := Callee.value (Operand.func 22), args := #[Operand.tmp 48, Operand.tmp 52, Operand.tmp 53], argTypes := #[25, 29, 3] }, type := 57, pos := "outright.go:21", after := #[{ on := 0, ground := Ground.data }, { on := 4, ground := Ground.data }, { on := 5, ground := Ground.data }], guard := none }) rfl (by kernel_rfl) (by kernel_rfl) 22 #[.agg (Bv.cells ⟨bu, ⟨ba, bn, bc⟩, ⟨la, ln, lc⟩⟩), .agg (Cm.cells x), .int .i64 room] (by kernel_rfl) _ (HAP.out _ (HBE.out.no HKs.out) (HBL.out.no HKs.out)) ?_
                rintro e wk31 ⟨⟨qa, qn, qc⟩, ⟨ra, rn, rc⟩, ⟨xa, xn, xc⟩, rfl, hQ, hR, hX, hD, hk⟩
                have hH2 : Fr No w wk31 [(gk1, 25, Bv.cells ⟨bu, ⟨ba, bn, bc⟩, ⟨la, ln, lc⟩⟩)] := hH.no hk
                have HNE : Hid (OwE wk31 w.heap.size ⟨qa, qn, qc⟩ R.1.es) := hQ.lower HF.out.kept.size
                have HNL : Hid (OwL wk31 w.heap.size ⟨ra, rn, rc⟩ R.1.ls) := hR.lower HF.out.kept.size
                have HXE : Hid (OwE wk31 w.heap.size ⟨xa, xn, xc⟩ R.2.l) := hX.lower HF.out.kept.size
                have HKs : Hid (Kept No wk8 (wk31)) := HKs.out.no hk
                have HF : Hid (Fr No w (wk31) [(gk1, 25, Bv.cells ⟨bu, ⟨ba, bn, bc⟩, ⟨la, ln, lc⟩⟩), (gk22, 25, Bv.cells bvZ), (gk29, 56, Av.cells avZ)]) := HF.out.no hk
                clear hQ hR hX hD hk
                refine ⟨.tuple #[.agg (Bv.cells ⟨R.1.up, ⟨qa, qn, qc⟩, ⟨ra, rn, rc⟩⟩), .agg (Av.cells ⟨R.2.er, R.2.e, ⟨xa, xn, xc⟩⟩), .int .i64 0], rfl, hH2, fun hH => ?_⟩
                clear hH2
                try simp only [pA, pB, p1, p2, p3]
                refine any_take (i := 7) (oi := { dst := some 47, op := Op.move (Operand.tmp 54), type := 57, pos := "outright.go:21", after := #[{ on := 6, ground := Ground.data }], guard := none }) (v := .tuple #[.agg (Bv.cells ⟨R.1.up, ⟨qa, qn, qc⟩, ⟨ra, rn, rc⟩⟩), .agg (Av.cells ⟨R.2.er, R.2.e, ⟨xa, xn, xc⟩⟩), .int .i64 0]) rfl (by kernel_rfl) (by kernel_rfl) (by kernel_rfl) (fun _ _ _ h => h) (by kernel_rfl) (fun _ _ => by kernel_rfl) hH ?_
                try simp only [pA, pB, p1, p2, p3]
                refine any_take (i := 8) (oi := { dst := some 55, op := Op.extract (Operand.tmp 47) 0, type := 25, pos := "outright.go:21", after := #[{ on := 7, ground := Ground.data }], guard := none }) (v := .agg (Bv.cells ⟨R.1.up, ⟨qa, qn, qc⟩, ⟨ra, rn, rc⟩⟩)) rfl (by kernel_rfl) (by kernel_rfl) (by kernel_rfl) (fun _ _ _ h => h) (by kernel_rfl) (fun _ _ => by kernel_rfl) hH ?_
                try simp only [pA, pB, p1, p2, p3]
                refine any_take (i := 9) (oi := { dst := some 56, op := Op.extract (Operand.tmp 47) 1, type := 56, pos := "outright.go:21", after := #[{ on := 7, ground := Ground.data }, { on := 13, ground := Ground.gcOnly Departure.lateStores }], guard := none }) (v := .agg (Av.cells ⟨R.2.er, R.2.e, ⟨xa, xn, xc⟩⟩)) rfl (by kernel_rfl) (by kernel_rfl) (by kernel_rfl) (fun _ _ _ h => h) (by kernel_rfl) (fun _ _ => by kernel_rfl) hH ?_
                try simp only [pA, pB, p1, p2, p3]
                refine any_take (i := 10) (oi := { dst := some 57, op := Op.extract (Operand.tmp 47) 2, type := 46, pos := "outright.go:21", after := #[{ on := 7, ground := Ground.data }, { on := 14, ground := Ground.gcOnly Departure.lateStores }], guard := none }) (v := .int .i64 0) rfl (by kernel_rfl) (by kernel_rfl) (by kernel_rfl) (fun _ _ _ h => h) (by kernel_rfl) (fun _ _ => by kernel_rfl) hH ?_
                try simp only [pA, pB, p1, p2, p3]
                refine any_store (i := 13) (o := { dst := none, op := Op.store 25 (Operand.tmp 8) (Operand.tmp 55), type := 0, pos := "outright.go:21", after := #[{ on := 11, ground := Ground.data }, { on := 8, ground := Ground.data }, { on := 6, ground := Ground.chain }, { on := 0, ground := Ground.phase }, { on := 1, ground := Ground.phase }, { on := 2, ground := Ground.phase }, { on := 3, ground := Ground.phase }, { on := 4, ground := Ground.phase }, { on := 5, ground := Ground.phase }, { on := 6, ground := Ground.phase }, { on := 7, ground := Ground.phase }, { on := 8, ground := Ground.phase }, { on := 9, ground := Ground.textOnly Departure.lateStores }, { on := 10, ground := Ground.textOnly Departure.lateStores }, { on := 11, ground := Ground.phase }, { on := 12, ground := Ground.phase }], guard := none }) (w' := wk31.setRow gk22 (Bv.cells ⟨R.1.up, ⟨qa, qn, qc⟩, ⟨ra, rn, rc⟩⟩)) rfl (by kernel_rfl) (by kernel_rfl) 25 _ _ rfl ⟨gk22, 0, none⟩ (.agg (Bv.cells ⟨R.1.up, ⟨qa, qn, qc⟩, ⟨ra, rn, rc⟩⟩)) (by kernel_rfl) (by kernel_rfl) (st25 (HF.out.box 1 _ _ _ rfl) rfl) ((show Fr No w _ ([(gk1, 25, Bv.cells ⟨bu, ⟨ba, bn, bc⟩, ⟨la, ln, lc⟩⟩)] ++ [(gk22, 25, Bv.cells ⟨R.1.up, ⟨qa, qn, qc⟩, ⟨ra, rn, rc⟩⟩), (gk29, 56, Av.cells avZ)]) from HF.out.set 1 rfl _).front) (fun hH => ?_)
                try simp only [pA, pB, p1, p2, p3]
                have HNE : Hid (OwE (wk31.setRow gk22 (Bv.cells ⟨R.1.up, ⟨qa, qn, qc⟩, ⟨ra, rn, rc⟩⟩)) w.heap.size ⟨qa, qn, qc⟩ R.1.es) := HNE.out.kept (Kept.setRow _ _ _) (fun k h e => (HNE.out.own.notBox (HF.out.box 1 _ _ _ rfl) (by decide)) ((show k = gk22 from e) ▸ h))
                have HNL : Hid (OwL (wk31.setRow gk22 (Bv.cells ⟨R.1.up, ⟨qa, qn, qc⟩, ⟨ra, rn, rc⟩⟩)) w.heap.size ⟨ra, rn, rc⟩ R.1.ls) := HNL.out.kept (Kept.setRow _ _ _) (fun k h e => (HNL.out.own.notBox (HF.out.box 1 _ _ _ rfl) (by decide)) ((show k = gk22 from e) ▸ h))
                have HXE : Hid (OwE (wk31.setRow gk22 (Bv.cells ⟨R.1.up, ⟨qa, qn, qc⟩, ⟨ra, rn, rc⟩⟩)) w.heap.size ⟨xa, xn, xc⟩ R.2.l) := HXE.out.kept (Kept.setRow _ _ _) (fun k h e => (HXE.out.own.notBox (HF.out.box 1 _ _ _ rfl) (by decide)) ((show k = gk22 from e) ▸ h))
                have HKs : Hid (Kept No wk8 (wk31.setRow gk22 (Bv.cells ⟨R.1.up, ⟨qa, qn, qc⟩, ⟨ra, rn, rc⟩⟩))) := HKs.out.newRow HG_gk22.out _
                have HF : Hid (Fr No w (wk31.setRow gk22 (Bv.cells ⟨R.1.up, ⟨qa, qn, qc⟩, ⟨ra, rn, rc⟩⟩)) [(gk1, 25, Bv.cells ⟨bu, ⟨ba, bn, bc⟩, ⟨la, ln, lc⟩⟩), (gk22, 25, Bv.cells ⟨R.1.up, ⟨qa, qn, qc⟩, ⟨ra, rn, rc⟩⟩), (gk29, 56, Av.cells avZ)]) := HF.out.set 1 rfl _
                generalize wk31.setRow gk22 (Bv.cells ⟨R.1.up, ⟨qa, qn, qc⟩, ⟨ra, rn, rc⟩⟩) = wk32 at HF HKs HNE HNL HXE hH ⊢
                refine any_store (i := 14) (o := { dst := none, op := Op.store 56 (Operand.tmp 9) (Operand.tmp 56), type := 0, pos := "outright.go:21", after := #[{ on := 12, ground := Ground.data }, { on := 9, ground := Ground.data }, { on := 13, ground := Ground.chain }, { on := 0, ground := Ground.phase }, { on := 1, ground := Ground.phase }, { on := 2, ground := Ground.phase }, { on := 3, ground := Ground.phase }, { on := 4, ground := Ground.phase }, { on := 5, ground := Ground.phase }, { on := 6, ground := Ground.phase }, { on := 7, ground := Ground.phase }, { on := 8, ground := Ground.phase }, { on := 9, ground := Ground.phase }, { on := 10, ground := Ground.textOnly Departure.lateStores }, { on := 11, ground := Ground.phase }, { on := 12, ground := Ground.phase }, { on := 13, ground := Ground.phase }], guard := none }) (w' := wk32.setRow gk29 (Av.cells ⟨R.2.er, R.2.e, ⟨xa, xn, xc⟩⟩)) rfl (by kernel_rfl) (by kernel_rfl) 56 _ _ rfl ⟨gk29, 0, none⟩ (.agg (Av.cells ⟨R.2.er, R.2.e, ⟨xa, xn, xc⟩⟩)) (by kernel_rfl) (by kernel_rfl) (st56 (HF.out.box 2 _ _ _ rfl) rfl) ((show Fr No w _ ([(gk1, 25, Bv.cells ⟨bu, ⟨ba, bn, bc⟩, ⟨la, ln, lc⟩⟩)] ++ [(gk22, 25, Bv.cells ⟨R.1.up, ⟨qa, qn, qc⟩, ⟨ra, rn, rc⟩⟩), (gk29, 56, Av.cells ⟨R.2.er, R.2.e, ⟨xa, xn, xc⟩⟩)]) from HF.out.set 2 rfl _).front) (fun hH => ?_)
                try simp only [pA, pB, p1, p2, p3]
                have HNE : Hid (OwE (wk32.setRow gk29 (Av.cells ⟨R.2.er, R.2.e, ⟨xa, xn, xc⟩⟩)) w.heap.size ⟨qa, qn, qc⟩ R.1.es) := HNE.out.kept (Kept.setRow _ _ _) (fun k h e => (HNE.out.own.notBox (HF.out.box 2 _ _ _ rfl) (by decide)) ((show k = gk29 from e) ▸ h))
                have HNL : Hid (OwL (wk32.setRow gk29 (Av.cells ⟨R.2.er, R.2.e, ⟨xa, xn, xc⟩⟩)) w.heap.size ⟨ra, rn, rc⟩ R.1.ls) := HNL.out.kept (Kept.setRow _ _ _) (fun k h e => (HNL.out.own.notBox (HF.out.box 2 _ _ _ rfl) (by decide)) ((show k = gk29 from e) ▸ h))
                have HXE : Hid (OwE (wk32.setRow gk29 (Av.cells ⟨R.2.er, R.2.e, ⟨xa, xn, xc⟩⟩)) w.heap.size ⟨xa, xn, xc⟩ R.2.l) := HXE.out.kept (Kept.setRow _ _ _) (fun k h e => (HXE.out.own.notBox (HF.out.box 2 _ _ _ rfl) (by decide)) ((show k = gk29 from e) ▸ h))
                have HKs : Hid (Kept No wk8 (wk32.setRow gk29 (Av.cells ⟨R.2.er, R.2.e, ⟨xa, xn, xc⟩⟩))) := HKs.out.newRow HG_gk29.out _
                have HF : Hid (Fr No w (wk32.setRow gk29 (Av.cells ⟨R.2.er, R.2.e, ⟨xa, xn, xc⟩⟩)) [(gk1, 25, Bv.cells ⟨bu, ⟨ba, bn, bc⟩, ⟨la, ln, lc⟩⟩), (gk22, 25, Bv.cells ⟨R.1.up, ⟨qa, qn, qc⟩, ⟨ra, rn, rc⟩⟩), (gk29, 56, Av.cells ⟨R.2.er, R.2.e, ⟨xa, xn, xc⟩⟩)]) := HF.out.set 2 rfl _
                generalize wk32.setRow gk29 (Av.cells ⟨R.2.er, R.2.e, ⟨xa, xn, xc⟩⟩) = wk33 at HF HKs HNE HNL HXE hH ⊢
                refine any_take (i := 15) (oi := { dst := some 10, op := Op.assign (Operand.tmp 57), type := 46, pos := "outright.go:21", after := #[{ on := 10, ground := Ground.data }, { on := 14, ground := Ground.chain }, { on := 0, ground := Ground.phase }, { on := 1, ground := Ground.phase }, { on := 2, ground := Ground.phase }, { on := 3, ground := Ground.phase }, { on := 4, ground := Ground.phase }, { on := 5, ground := Ground.phase }, { on := 6, ground := Ground.phase }, { on := 7, ground := Ground.phase }, { on := 8, ground := Ground.phase }, { on := 9, ground := Ground.phase }, { on := 10, ground := Ground.phase }, { on := 11, ground := Ground.phase }, { on := 12, ground := Ground.phase }, { on := 13, ground := Ground.phase }, { on := 14, ground := Ground.phase }], guard := none }) (v := .int .i64 0) rfl (by kernel_rfl) (by kernel_rfl) (by kernel_rfl) (fun _ _ _ h => h) (by kernel_rfl) (fun _ _ => by kernel_rfl) hH ?_
                try simp only [pA, pB, p1, p2, p3]
                refine wpAnyH_done (by kernel_rfl) ?_ _
                try simp only [pA, pB, p1, p2, p3]
                have HBE : Hid (RdE wk33 ⟨ba, bn, bc⟩ bes) := HBE.out.no HKs.out
                refine hK0 _ _ (Met.intro (hJ0 _ _ ?_))
                (repeat apply Exists.intro)
                refine ⟨?_, rfl⟩
                exact ⟨gk22, gk29, qa, qn, qc, ra, rn, rc, xa, xn, xc, rfl, rfl, rfl, HF, HBE, HNE, HNL, HXE⟩
              ·skip
               clear hi
               refine step_run (i := 12) (o := { dst := some 9, op := Op.alloc 56, type := 0, pos := "outright.go:21", after := #[], guard := none }) rfl (by kernel_rfl) (exec_alloc 56 rfl (Av.cells avZ) zero56) ((hH.alloc _ _).front) (fun hH => ?_)
               try simp only [pA, pB, p1, p2, p3]
               have HG_gk34 : Hid (wk8.heap.size ≤ wk8.heap.size) := HKs.out.size
               have HKs : Hid (Kept No wk8 (wk8.alloc (.cells (Av.cells avZ) 56))) := HKs.out.no ((Kept.refl No _).alloc _)
               have HF : Hid (Fr No w (wk8.alloc (.cells (Av.cells avZ) 56)) [(gk1, 25, Bv.cells ⟨bu, ⟨ba, bn, bc⟩, ⟨la, ln, lc⟩⟩), (wk8.heap.size, 56, Av.cells avZ)]) := HF.out.alloc _ _
               generalize wk8.alloc (.cells (Av.cells avZ) 56) = wk35 at HF HKs hH ⊢
               obtain ⟨gk34, hg⟩ : ∃ g, g = wk8.heap.size := ⟨_, rfl⟩
               have HG_gk34 : Hid (wk8.heap.size ≤ gk34) := by show _ ≤ _; rw [hg]; exact HG_gk34.out
               rw [← hg] at HF ⊢
               clear hg
               refine any_pick (rs := [6, 11]) (by kernel_rfl) (by simp) ?_
               intro i hi
               rcases pick2 hi with rfl | rfl
               ·skip
                clear hi
                refine step_call (i := 6) (o := { dst := some 54, op := Op.call { callee := Callee.value (Operand.func 22), args := #[Operand.tmp 48, Operand.tmp 52, Operand.tmp 53], argTypes := #[25, 29, 3] }, type := 57, pos := "outright.go:21", after := #[{ on := 0, ground := Ground.data }, { on := 4, ground := Ground.data }, { on := 5, ground := Ground.data }], guard := none }) rfl (by kernel_rfl) 22 #[.agg (Bv.cells ⟨bu, ⟨ba, bn, bc⟩, ⟨la, ln, lc⟩⟩), .agg (Cm.cells x), .int .i64 room] (by kernel_rfl) _ (HAP.out _ (HBE.out.no HKs.out) (HBL.out.no HKs.out)) ?_
                rintro e wk36 ⟨⟨qa, qn, qc⟩, ⟨ra, rn, rc⟩, ⟨xa, xn, xc⟩, rfl, hQ, hR, hX, hD, hk⟩
                have hH2 : Fr No w wk36 [(gk1, 25, Bv.cells ⟨bu, ⟨ba, bn, bc⟩, ⟨la, ln, lc⟩⟩)] := hH.no hk
                have HNE : Hid (OwE wk36 w.heap.size ⟨qa, qn, qc⟩ R.1.es) := hQ.lower HF.out.kept.size
                have HNL : Hid (OwL wk36 w.heap.size ⟨ra, rn, rc⟩ R.1.ls) := hR.lower HF.out.kept.size
                have HXE : Hid (OwE wk36 w.heap.size ⟨xa, xn, xc⟩ R.2.l) := hX.lower HF.out.kept.size
                have HKs : Hid (Kept No wk8 (wk36)) := HKs.out.no hk
                have HF : Hid (Fr No w (wk36) [(gk1, 25, Bv.cells ⟨bu, ⟨ba, bn, bc⟩, ⟨la, ln, lc⟩⟩), (gk34, 56, Av.cells avZ)]) := HF.out.no hk
                clear hQ hR hX hD hk
                refine ⟨.tuple #[.agg (Bv.cells ⟨R.1.up, ⟨qa, qn, qc⟩, ⟨ra, rn, rc⟩⟩), .agg (Av.cells ⟨R.2.er, R.2.e, ⟨xa, xn, xc⟩⟩), .int .i64 0], rfl, hH2, fun hH => ?_⟩
                clear hH2
                try simp only [pA, pB, p1, p2, p3]
                refine any_take (i := 7) (oi := { dst := some 47, op := Op.move (Operand.tmp 54), type := 57, pos := "outright.go:21", after := #[{ on := 6, ground := Ground.data }], guard := none }) (v := .tuple #[.agg (Bv.cells ⟨R.1.up, ⟨qa, qn, qc⟩, ⟨ra, rn, rc⟩⟩), .agg (Av.cells ⟨R.2.er, R.2.e, ⟨xa, xn, xc⟩⟩), .int .i64 0]) rfl (by kernel_rfl) (by kernel_rfl) (by kernel_rfl) (fun _ _ _ h => h) (by kernel_rfl) (fun _ _ => by kernel_rfl) hH ?_
                try simp only [pA, pB, p1, p2, p3]
                refine any_take (i := 8) (oi := { dst := some 55, op := Op.extract (Operand.tmp 47) 0, type := 25, pos := "outright.go:21", after := #[{ on := 7, ground := Ground.data }], guard := none }) (v := .agg (Bv.cells ⟨R.1.up, ⟨qa, qn, qc⟩, ⟨ra, rn, rc⟩⟩)) rfl (by kernel_rfl) (by kernel_rfl) (by kernel_rfl) (fun _ _ _ h => h) (by kernel_rfl) (fun _ _ => by kernel_rfl) hH ?_
                try simp only [pA, pB, p1, p2, p3]
                refine any_take (i := 9) (oi := { dst := some 56, op := Op.extract (Operand.tmp 47) 1, type := 56, pos := "outright.go:21", after := #[{ on := 7, ground := Ground.data }, { on := 13, ground := Ground.gcOnly Departure.lateStores }], guard := none }) (v := .agg (Av.cells ⟨R.2.er, R.2.e, ⟨xa, xn, xc⟩⟩)) rfl (by kernel_rfl) (by kernel_rfl) (by kernel_rfl) (fun _ _ _ h => h) (by kernel_rfl) (fun _ _ => by kernel_rfl) hH ?_
                try simp only [pA, pB, p1, p2, p3]
                refine any_take (i := 10) (oi := { dst := some 57, op := Op.extract (Operand.tmp 47) 2, type := 46, pos := "outright.go:21", after := #[{ on := 7, ground := Ground.data }, { on := 14, ground := Ground.gcOnly Departure.lateStores }], guard := none }) (v := .int .i64 0) rfl (by kernel_rfl) (by kernel_rfl) (by kernel_rfl) (fun _ _ _ h => h) (by kernel_rfl) (fun _ _ => by kernel_rfl) hH ?_
                try simp only [pA, pB, p1, p2, p3]
                refine any_step (i := 11) (o := { dst := some 8, op := Op.alloc 25, type := 0, pos := "outright.go:21", after := #[], guard := none }) rfl (by kernel_rfl) (by kernel_rfl) (exec_alloc 25 rfl (Bv.cells bvZ) zero25) ((hH.alloc _ _).front) (fun hH => ?_)
                try simp only [pA, pB, p1, p2, p3]
                have HG_gk37 : Hid (wk8.heap.size ≤ wk36.heap.size) := HKs.out.size
                have HNE : Hid (OwE (wk36.alloc (.cells (Bv.cells bvZ) 25)) w.heap.size ⟨qa, qn, qc⟩ R.1.es) := HNE.out.no ((Kept.refl No _).alloc _)
                have HNL : Hid (OwL (wk36.alloc (.cells (Bv.cells bvZ) 25)) w.heap.size ⟨ra, rn, rc⟩ R.1.ls) := HNL.out.no ((Kept.refl No _).alloc _)
                have HXE : Hid (OwE (wk36.alloc (.cells (Bv.cells bvZ) 25)) w.heap.size ⟨xa, xn, xc⟩ R.2.l) := HXE.out.no ((Kept.refl No _).alloc _)
                have HKs : Hid (Kept No wk8 (wk36.alloc (.cells (Bv.cells bvZ) 25))) := HKs.out.no ((Kept.refl No _).alloc _)
                have HF : Hid (Fr No w (wk36.alloc (.cells (Bv.cells bvZ) 25)) [(gk1, 25, Bv.cells ⟨bu, ⟨ba, bn, bc⟩, ⟨la, ln, lc⟩⟩), (gk34, 56, Av.cells avZ), (wk36.heap.size, 25, Bv.cells bvZ)]) := HF.out.alloc _ _
                generalize wk36.alloc (.cells (Bv.cells bvZ) 25) = wk38 at HF HKs HNE HNL HXE hH ⊢
                obtain ⟨gk37, hg⟩ : ∃ g, g = wk36.heap.size := ⟨_, rfl⟩
                have HG_gk37 : Hid (wk8.heap.size ≤ gk37) := by show _ ≤ _; rw [hg]; exact HG_gk37.out
                rw [← hg] at HF ⊢
                clear hg
                refine any_store (i := 13) (o := { dst := none, op := Op.store 25 (Operand.tmp 8) (Operand.tmp 55), type := 0, pos := "outright.go:21", after := #[{ on := 11, ground := Ground.data }, { on := 8, ground := Ground.data }, { on := 6, ground := Ground.chain }, { on := 0, ground := Ground.phase }, { on := 1, ground := Ground.phase }, { on := 2, ground := Ground.phase }, { on := 3, ground := Ground.phase }, { on := 4, ground := Ground.phase }, { on := 5, ground := Ground.phase }, { on := 6, ground := Ground.phase }, { on := 7, ground := Ground.phase }, { on := 8, ground := Ground.phase }, { on := 9, ground := Ground.textOnly Departure.lateStores }, { on := 10, ground := Ground.textOnly Departure.lateStores }, { on := 11, ground := Ground.phase }, { on := 12, ground := Ground.phase }], guard := none }) (w' := wk38.setRow gk37 (Bv.cells ⟨R.1.up, ⟨qa, qn, qc⟩, ⟨ra, rn, rc⟩⟩)) rfl (by kernel_rfl) (by kernel_rfl) 25 _ _ rfl ⟨gk37, 0, none⟩ (.agg (Bv.cells ⟨R.1.up, ⟨qa, qn, qc⟩, ⟨ra, rn, rc⟩⟩)) (by kernel_rfl) (by kernel_rfl) (st25 (HF.out.box 2 _ _ _ rfl) rfl) ((show Fr No w _ ([(gk1, 25, Bv.cells ⟨bu, ⟨ba, bn, bc⟩, ⟨la, ln, lc⟩⟩)] ++ [(gk34, 56, Av.cells avZ), (gk37, 25, Bv.cells ⟨R.1.up, ⟨qa, qn, qc⟩, ⟨ra, rn, rc⟩⟩)]) from HF.out.set 2 rfl _).front) (fun hH => ?_)
                try simp only [pA, pB, p1, p2, p3]
                have HNE : Hid (OwE (wk38.setRow gk37 (Bv.cells ⟨R.1.up, ⟨qa, qn, qc⟩, ⟨ra, rn, rc⟩⟩)) w.heap.size ⟨qa, qn, qc⟩ R.1.es) := HNE.out.kept (Kept.setRow _ _ _) (fun k h e => (HNE.out.own.notBox (HF.out.box 2 _ _ _ rfl) (by decide)) ((show k = gk37 from e) ▸ h))
                have HNL : Hid (OwL (wk38.setRow gk37 (Bv.cells ⟨R.1.up, ⟨qa, qn, qc⟩, ⟨ra, rn, rc⟩⟩)) w.heap.size ⟨ra, rn, rc⟩ R.1.ls) := HNL.out.kept (Kept.setRow _ _ _) (fun k h e => (HNL.out.own.notBox (HF.out.box 2 _ _ _ rfl) (by decide)) ((show k = gk37 from e) ▸ h))
                have HXE : Hid (OwE (wk38.setRow gk37 (Bv.cells ⟨R.1.up, ⟨qa, qn, qc⟩, ⟨ra, rn, rc⟩⟩)) w.heap.size ⟨xa, xn, xc⟩ R.2.l) := HXE.out.kept (Kept.setRow _ _ _) (fun k h e => (HXE.out.own.notBox (HF.out.box 2 _ _ _ rfl) (by decide)) ((show k = gk37 from e) ▸ h))
                have HKs : Hid (Kept No wk8 (wk38.setRow gk37 (Bv.cells ⟨R.1.up, ⟨qa, qn, qc⟩, ⟨ra, rn, rc⟩⟩))) := HKs.out.newRow HG_gk37.out _
                have HF : Hid (Fr No w (wk38.setRow gk37 (Bv.cells ⟨R.1.up, ⟨qa, qn, qc⟩, ⟨ra, rn, rc⟩⟩)) [(gk1, 25, Bv.cells ⟨bu, ⟨ba, bn, bc⟩, ⟨la, ln, lc⟩⟩), (gk34, 56, Av.cells avZ), (gk37, 25, Bv.cells ⟨R.1.up, ⟨qa, qn, qc⟩, ⟨ra, rn, rc⟩⟩)]) := HF.out.set 2 rfl _
                generalize wk38.setRow gk37 (Bv.cells ⟨R.1.up, ⟨qa, qn, qc⟩, ⟨ra, rn, rc⟩⟩) = wk39 at HF HKs HNE HNL HXE hH ⊢
                refine any_store (i := 14) (o := { dst := none, op := Op.store 56 (Operand.tmp 9) (Operand.tmp 56), type := 0, pos := "outright.go:21", after := #[{ on := 12, ground := Ground.data }, { on := 9, ground := Ground.data }, { on := 13, ground := Ground.chain }, { on := 0, ground := Ground.phase }, { on := 1, ground := Ground.phase }, { on := 2, ground := Ground.phase }, { on := 3, ground := Ground.phase }, { on := 4, ground := Ground.phase }, { on := 5, ground := Ground.phase }, { on := 6, ground := Ground.phase }, { on := 7, ground := Ground.phase }, { on := 8, ground := Ground.phase }, { on := 9, ground := Ground.phase }, { on := 10, ground := Ground.textOnly Departure.lateStores }, { on := 11, ground := Ground.phase }, { on := 12, ground := Ground.phase }, { on := 13, ground := Ground.phase }], guard := none }) (w' := wk39.setRow gk34 (Av.cells ⟨R.2.er, R.2.e, ⟨xa, xn, xc⟩⟩)) rfl (by kernel_rfl) (by kernel_rfl) 56 _ _ rfl ⟨gk34, 0, none⟩ (.agg (Av.cells ⟨R.2.er, R.2.e, ⟨xa, xn, xc⟩⟩)) (by kernel_rfl) (by kernel_rfl) (st56 (HF.out.box 1 _ _ _ rfl) rfl) ((show Fr No w _ ([(gk1, 25, Bv.cells ⟨bu, ⟨ba, bn, bc⟩, ⟨la, ln, lc⟩⟩)] ++ [(gk34, 56, Av.cells ⟨R.2.er, R.2.e, ⟨xa, xn, xc⟩⟩), (gk37, 25, Bv.cells ⟨R.1.up, ⟨qa, qn, qc⟩, ⟨ra, rn, rc⟩⟩)]) from HF.out.set 1 rfl _).front) (fun hH => ?_)
                try simp only [pA, pB, p1, p2, p3]
                have HNE : Hid (OwE (wk39.setRow gk34 (Av.cells ⟨R.2.er, R.2.e, ⟨xa, xn, xc⟩⟩)) w.heap.size ⟨qa, qn, qc⟩ R.1.es) := HNE.out.kept (Kept.setRow _ _ _) (fun k h e => (HNE.out.own.notBox (HF.out.box 1 _ _ _ rfl) (by decide)) ((show k = gk34 from e) ▸ h))
                have HNL : Hid (OwL (wk39.setRow gk34 (Av.cells ⟨R.2.er, R.2.e, ⟨xa, xn, xc⟩⟩)) w.heap.size ⟨ra, rn, rc⟩ R.1.ls) := HNL.out.kept (Kept.setRow _ _ _) (fun k h e => (HNL.out.own.notBox (HF.out.box 1 _ _ _ rfl) (by decide)) ((show k = gk34 from e) ▸ h))
                have HXE : Hid (OwE (wk39.setRow gk34 (Av.cells ⟨R.2.er, R.2.e, ⟨xa, xn, xc⟩⟩)) w.heap.size ⟨xa, xn, xc⟩ R.2.l) := HXE.out.kept (Kept.setRow _ _ _) (fun k h e => (HXE.out.own.notBox (HF.out.box 1 _ _ _ rfl) (by decide)) ((show k = gk34 from e) ▸ h))
                have HKs : Hid (Kept No wk8 (wk39.setRow gk34 (Av.cells ⟨R.2.er, R.2.e, ⟨xa, xn, xc⟩⟩))) := HKs.out.newRow HG_gk34.out _
                have HF : Hid (Fr No w (wk39.setRow gk34 (Av.cells ⟨R.2.er, R.2.e, ⟨xa, xn, xc⟩⟩)) [(gk1, 25, Bv.cells ⟨bu, ⟨ba, bn, bc⟩, ⟨la, ln, lc⟩⟩), (gk34, 56, Av.cells ⟨R.2.er, R.2.e, ⟨xa, xn, xc⟩⟩), (gk37, 25, Bv.cells ⟨R.1.up, ⟨qa, qn, qc⟩, ⟨ra, rn, rc⟩⟩)]) := HF.out.set 1 rfl _
                generalize wk39.setRow gk34 (Av.cells ⟨R.2.er, R.2.e, ⟨xa, xn, xc⟩⟩) = wk40 at HF HKs HNE HNL HXE hH ⊢
                refine any_take (i := 15) (oi := { dst := some 10, op := Op.assign (Operand.tmp 57), type := 46, pos := "outright.go:21", after := #[{ on := 10, ground := Ground.data }, { on := 14, ground := Ground.chain }, { on := 0, ground := Ground.phase }, { on := 1, ground := Ground.phase }, { on := 2, ground := Ground.phase }, { on := 3, ground := Ground.phase }, { on := 4, ground := Ground.phase }, { on := 5, ground := Ground.phase }, { on := 6, ground := Ground.phase }, { on := 7, ground := Ground.phase }, { on := 8, ground := Ground.phase }, { on := 9, ground := Ground.phase }, { on := 10, ground := Ground.phase }, { on := 11, ground := Ground.phase }, { on := 12, ground := Ground.phase }, { on := 13, ground := Ground.phase }, { on := 14, ground := Ground.phase }], guard := none }) (v := .int .i64 0) rfl (by kernel_rfl) (by kernel_rfl) (by kernel_rfl) (fun _ _ _ h => h) (by kernel_rfl) (fun _ _ => by kernel_rfl) hH ?_
                try simp only [pA, pB, p1, p2, p3]
                refine wpAnyH_done (by kernel_rfl) ?_ _
                try simp only [pA, pB, p1, p2, p3]
                have HF : Hid (Fr No w wk40 [(gk1, 25, Bv.cells ⟨bu, ⟨ba, bn, bc⟩, ⟨la, ln, lc⟩⟩), (gk37, 25, Bv.cells ⟨R.1.up, ⟨qa, qn, qc⟩, ⟨ra, rn, rc⟩⟩), (gk34, 56, Av.cells ⟨R.2.er, R.2.e, ⟨xa, xn, xc⟩⟩)]) := HF.out.swap3
                have HBE : Hid (RdE wk40 ⟨ba, bn, bc⟩ bes) := HBE.out.no HKs.out
                refine hK0 _ _ (Met.intro (hJ0 _ _ ?_))
                (repeat apply Exists.intro)
                refine ⟨?_, rfl⟩
                exact ⟨gk37, gk34, qa, qn, qc, ra, rn, rc, xa, xn, xc, rfl, rfl, rfl, HF, HBE, HNE, HNL, HXE⟩
               ·skip
                clear hi
                refine step_run (i := 11) (o := { dst := some 8, op := Op.alloc 25, type := 0, pos := "outright.go:21", after := #[], guard := none }) rfl (by kernel_rfl) (exec_alloc 25 rfl (Bv.cells bvZ) zero25) ((hH.alloc _ _).front) (fun hH => ?_)
                try simp only [pA, pB, p1, p2, p3]
                have HG_gk41 : Hid (wk8.heap.size ≤ wk35.heap.size) := HKs.out.size
                have HKs : Hid (Kept No wk8 (wk35.alloc (.cells (Bv.cells bvZ) 25))) := HKs.out.no ((Kept.refl No _).alloc _)
                have HF : Hid (Fr No w (wk35.alloc (.cells (Bv.cells bvZ) 25)) [(gk1, 25, Bv.cells ⟨bu, ⟨ba, bn, bc⟩, ⟨la, ln, lc⟩⟩), (gk34, 56, Av.cells avZ), (wk35.heap.size, 25, Bv.cells bvZ)]) := HF.out.alloc _ _
                generalize wk35.alloc (.cells (Bv.cells bvZ) 25) = wk42 at HF HKs hH ⊢
                obtain ⟨gk41, hg⟩ : ∃ g, g = wk35.heap.size := ⟨_, rfl⟩
                have HG_gk41 : Hid (wk8.heap.size ≤ gk41) := by show _ ≤ _; rw [hg]; exact HG_gk41.out
                rw [← hg] at HF ⊢
                clear hg
                refine any_call (i := 6) (o := { dst := some 54, op := Op.call { callee := Callee.value (Operand.func 22), args := #[Operand.tmp 48, Operand.tmp 52, Operand.tmp 53], argTypes := #[25, 29, 3] }, type := 57, pos := "outright.go:21", after := #[{ on := 0, ground := Ground.data }, { on := 4, ground := Ground.data }, { on := 5, ground := Ground.data }], guard := none }) rfl (by kernel_rfl) (by kernel_rfl) 22 #[.agg (Bv.cells ⟨bu, ⟨ba, bn, bc⟩, ⟨la, ln, lc⟩⟩), .agg (Cm.cells x), .int .i64 room] (by kernel_rfl) _ (HAP.out _ (HBE.out.no HKs.out) (HBL.out.no HKs.out)) ?_
                rintro e wk43 ⟨⟨qa, qn, qc⟩, ⟨ra, rn, rc⟩, ⟨xa, xn, xc⟩, rfl, hQ, hR, hX, hD, hk⟩
                have hH2 : Fr No w wk43 [(gk1, 25, Bv.cells ⟨bu, ⟨ba, bn, bc⟩, ⟨la, ln, lc⟩⟩)] := hH.no hk
                have HNE : Hid (OwE wk43 w.heap.size ⟨qa, qn, qc⟩ R.1.es) := hQ.lower HF.out.kept.size
                have HNL : Hid (OwL wk43 w.heap.size ⟨ra, rn, rc⟩ R.1.ls) := hR.lower HF.out.kept.size
                have HXE : Hid (OwE wk43 w.heap.size ⟨xa, xn, xc⟩ R.2.l) := hX.lower HF.out.kept.size
                have HKs : Hid (Kept No wk8 (wk43)) := HKs.out.no hk
                have HF : Hid (Fr No w (wk43) [(gk1, 25, Bv.cells ⟨bu, ⟨ba, bn, bc⟩, ⟨la, ln, lc⟩⟩), (gk34, 56, Av.cells avZ), (gk41, 25, Bv.cells bvZ)]) := HF.out.no hk
                clear hQ hR hX hD hk
                refine ⟨.tuple #[.agg (Bv.cells ⟨R.1.up, ⟨qa, qn, qc⟩, ⟨ra, rn, rc⟩⟩), .agg (Av.cells ⟨R.2.er, R.2.e, ⟨xa, xn, xc⟩⟩), .int .i64 0], rfl, hH2, fun hH => ?_⟩
                clear hH2
                try simp only [pA, pB, p1, p2, p3]
                refine any_take (i := 7) (oi := { dst := some 47, op := Op.move (Operand.tmp 54), type := 57, pos := "outright.go:21", after := #[{ on := 6, ground := Ground.data }], guard := none }) (v := .tuple #[.agg (Bv.cells ⟨R.1.up, ⟨qa, qn, qc⟩, ⟨ra, rn, rc⟩⟩), .agg (Av.cells ⟨R.2.er, R.2.e, ⟨xa, xn, xc⟩⟩), .int .i64 0]) rfl (by kernel_rfl) (by kernel_rfl) (by kernel_rfl) (fun _ _ _ h => h) (by kernel_rfl) (fun _ _ => by kernel_rfl) hH ?_
                try simp only [pA, pB, p1, p2, p3]
                refine any_take (i := 8) (oi := { dst := some 55, op := Op.extract (Operand.tmp 47) 0, type := 25, pos := "outright.go:21", after := #[{ on := 7, ground := Ground.data }], guard := none }) (v := .agg (Bv.cells ⟨R.1.up, ⟨qa, qn, qc⟩, ⟨ra, rn, rc⟩⟩)) rfl (by kernel_rfl) (by kernel_rfl) (by kernel_rfl) (fun _ _ _ h => h) (by kernel_rfl) (fun _ _ => by kernel_rfl) hH ?_
                try simp only [pA, pB, p1, p2, p3]
                refine any_take (i := 9) (oi := { dst := some 56, op := Op.extract (Operand.tmp 47) 1, type := 56, pos := "outright.go:21", after := #[{ on := 7, ground := Ground.data }, { on := 13, ground := Ground.gcOnly Departure.lateStores }], guard := none }) (v := .agg (Av.cells ⟨R.2.er, R.2.e, ⟨xa, xn, xc⟩⟩)) rfl (by kernel_rfl) (by kernel_rfl) (by kernel_rfl) (fun _ _ _ h => h) (by kernel_rfl) (fun _ _ => by kernel_rfl) hH ?_
                try simp only [pA, pB, p1, p2, p3]
                refine any_take (i := 10) (oi := { dst := some 57, op := Op.extract (Operand.tmp 47) 2, type := 46, pos := "outright.go:21", after := #[{ on := 7, ground := Ground.data }, { on := 14, ground := Ground.gcOnly Departure.lateStores }], guard := none }) (v := .int .i64 0) rfl (by kernel_rfl) (by kernel_rfl) (by kernel_rfl) (fun _ _ _ h => h) (by kernel_rfl) (fun _ _ => by kernel_rfl) hH ?_
                try simp only [pA, pB, p1, p2, p3]
                refine any_store (i := 13) (o := { dst := none, op := Op.store 25 (Operand.tmp 8) (Operand.tmp 55), type := 0, pos := "outright.go:21", after := #[{ on := 11, ground := Ground.data }, { on := 8, ground := Ground.data }, { on := 6, ground := Ground.chain }, { on := 0, ground := Ground.phase }, { on := 1, ground := Ground.phase }, { on := 2, ground := Ground.phase }, { on := 3, ground := Ground.phase }, { on := 4, ground := Ground.phase }, { on := 5, ground := Ground.phase }, { on := 6, ground := Ground.phase }, { on := 7, ground := Ground.phase }, { on := 8, ground := Ground.phase }, { on := 9, ground := Ground.textOnly Departure.lateStores }, { on := 10, ground := Ground.textOnly Departure.lateStores }, { on := 11, ground := Ground.phase }, { on := 12, ground := Ground.phase }], guard := none }) (w' := wk43.setRow gk41 (Bv.cells ⟨R.1.up, ⟨qa, qn, qc⟩, ⟨ra, rn, rc⟩⟩)) rfl (by kernel_rfl) (by kernel_rfl) 25 _ _ rfl ⟨gk41, 0, none⟩ (.agg (Bv.cells ⟨R.1.up, ⟨qa, qn, qc⟩, ⟨ra, rn, rc⟩⟩)) (by kernel_rfl) (by kernel_rfl) (st25 (HF.out.box 2 _ _ _ rfl) rfl) ((show Fr No w _ ([(gk1, 25, Bv.cells ⟨bu, ⟨ba, bn, bc⟩, ⟨la, ln, lc⟩⟩)] ++ [(gk34, 56, Av.cells avZ), (gk41, 25, Bv.cells ⟨R.1.up, ⟨qa, qn, qc⟩, ⟨ra, rn, rc⟩⟩)]) from HF.out.set 2 rfl _).front) (fun hH => ?_)
                try simp only [pA, pB, p1, p2, p3]
                have HNE : Hid (OwE (wk43.setRow gk41 (Bv.cells ⟨R.1.up, ⟨qa, qn, qc⟩, ⟨ra, rn, rc⟩⟩)) w.heap.size ⟨qa, qn, qc⟩ R.1.es) := HNE.out.kept (Kept.setRow _ _ _) (fun k h e => (HNE.out.own.notBox (HF.out.box 2 _ _ _ rfl) (by decide)) ((show k = gk41 from e) ▸ h))
                have HNL : Hid (OwL (wk43.setRow gk41 (Bv.cells ⟨R.1.up, ⟨qa, qn, qc⟩, ⟨ra, rn, rc⟩⟩)) w.heap.size ⟨ra, rn, rc⟩ R.1.ls) := HNL.out.kept (Kept.setRow _ _ _) (fun k h e => (HNL.out.own.notBox (HF.out.box 2 _ _ _ rfl) (by decide)) ((show k = gk41 from e) ▸ h))
                have HXE : Hid (OwE (wk43.setRow gk41 (Bv.cells ⟨R.1.up, ⟨qa, qn, qc⟩, ⟨ra, rn, rc⟩⟩)) w.heap.size ⟨xa, xn, xc⟩ R.2.l) := HXE.out.kept (Kept.setRow _ _ _) (fun k h e => (HXE.out.own.notBox (HF.out.box 2 _ _ _ rfl) (by decide)) ((show k = gk41 from e) ▸ h))
                have HKs : Hid (Kept No wk8 (wk43.setRow gk41 (Bv.cells ⟨R.1.up, ⟨qa, qn, qc⟩, ⟨ra, rn, rc⟩⟩))) := HKs.out.newRow HG_gk41.out _
                have HF : Hid (Fr No w (wk43.setRow gk41 (Bv.cells ⟨R.1.up, ⟨qa, qn, qc⟩, ⟨ra, rn, rc⟩⟩)) [(gk1, 25, Bv.cells ⟨bu, ⟨ba, bn, bc⟩, ⟨la, ln, lc⟩⟩), (gk34, 56, Av.cells avZ), (gk41, 25, Bv.cells ⟨R.1.up, ⟨qa, qn, qc⟩, ⟨ra, rn, rc⟩⟩)]) := HF.out.set 2 rfl _
                generalize wk43.setRow gk41 (Bv.cells ⟨R.1.up, ⟨qa, qn, qc⟩, ⟨ra, rn, rc⟩⟩) = wk44 at HF HKs HNE HNL HXE hH ⊢
                refine any_store (i := 14) (o := { dst := none, op := Op.store 56 (Operand.tmp 9) (Operand.tmp 56), type := 0, pos := "outright.go:21", after := #[{ on := 12, ground := Ground.data }, { on := 9, ground := Ground.data }, { on := 13, ground := Ground.chain }, { on := 0, ground := Ground.phase }, { on := 1, ground := Ground.phase }, { on := 2, ground := Ground.phase }, { on := 3, ground := Ground.phase }, { on := 4, ground := Ground.phase }, { on := 5, ground := Ground.phase }, { on := 6, ground := Ground.phase }, { on := 7, ground := Ground.phase }, { on := 8, ground := Ground.phase }, { on := 9, ground := Ground.phase }, { on := 10, ground := Ground.textOnly Departure.lateStores }, { on := 11, ground := Ground.phase }, { on := 12, ground := Ground.phase }, { on := 13, ground := Ground.phase }], guard := none }) (w' := wk44.setRow gk34 (Av.cells ⟨R.2.er, R.2.e, ⟨xa, xn, xc⟩⟩)) rfl (by kernel_rfl) (by kernel_rfl) 56 _ _ rfl ⟨gk34, 0, none⟩ (.agg (Av.cells ⟨R.2.er, R.2.e, ⟨xa, xn, xc⟩⟩)) (by kernel_rfl) (by kernel_rfl) (st56 (HF.out.box 1 _ _ _ rfl) rfl) ((show Fr No w _ ([(gk1, 25, Bv.cells ⟨bu, ⟨ba, bn, bc⟩, ⟨la, ln, lc⟩⟩)] ++ [(gk34, 56, Av.cells ⟨R.2.er, R.2.e, ⟨xa, xn, xc⟩⟩), (gk41, 25, Bv.cells ⟨R.1.up, ⟨qa, qn, qc⟩, ⟨ra, rn, rc⟩⟩)]) from HF.out.set 1 rfl _).front) (fun hH => ?_)
                try simp only [pA, pB, p1, p2, p3]
                have HNE : Hid (OwE (wk44.setRow gk34 (Av.cells ⟨R.2.er, R.2.e, ⟨xa, xn, xc⟩⟩)) w.heap.size ⟨qa, qn, qc⟩ R.1.es) := HNE.out.kept (Kept.setRow _ _ _) (fun k h e => (HNE.out.own.notBox (HF.out.box 1 _ _ _ rfl) (by decide)) ((show k = gk34 from e) ▸ h))
                have HNL : Hid (OwL (wk44.setRow gk34 (Av.cells ⟨R.2.er, R.2.e, ⟨xa, xn, xc⟩⟩)) w.heap.size ⟨ra, rn, rc⟩ R.1.ls) := HNL.out.kept (Kept.setRow _ _ _) (fun k h e => (HNL.out.own.notBox (HF.out.box 1 _ _ _ rfl) (by decide)) ((show k = gk34 from e) ▸ h))
                have HXE : Hid (OwE (wk44.setRow gk34 (Av.cells ⟨R.2.er, R.2.e, ⟨xa, xn, xc⟩⟩)) w.heap.size ⟨xa, xn, xc⟩ R.2.l) := HXE.out.kept (Kept.setRow _ _ _) (fun k h e => (HXE.out.own.notBox (HF.out.box 1 _ _ _ rfl) (by decide)) ((show k = gk34 from e) ▸ h))
                have HKs : Hid (Kept No wk8 (wk44.setRow gk34 (Av.cells ⟨R.2.er, R.2.e, ⟨xa, xn, xc⟩⟩))) := HKs.out.newRow HG_gk34.out _
                have HF : Hid (Fr No w (wk44.setRow gk34 (Av.cells ⟨R.2.er, R.2.e, ⟨xa, xn, xc⟩⟩)) [(gk1, 25, Bv.cells ⟨bu, ⟨ba, bn, bc⟩, ⟨la, ln, lc⟩⟩), (gk34, 56, Av.cells ⟨R.2.er, R.2.e, ⟨xa, xn, xc⟩⟩), (gk41, 25, Bv.cells ⟨R.1.up, ⟨qa, qn, qc⟩, ⟨ra, rn, rc⟩⟩)]) := HF.out.set 1 rfl _
                generalize wk44.setRow gk34 (Av.cells ⟨R.2.er, R.2.e, ⟨xa, xn, xc⟩⟩) = wk45 at HF HKs HNE HNL HXE hH ⊢
                refine any_take (i := 15) (oi := { dst := some 10, op := Op.assign (Operand.tmp 57), type := 46, pos := "outright.go:21", after := #[{ on := 10, ground := Ground.data }, { on := 14, ground := Ground.chain }, { on := 0, ground := Ground.phase }, { on := 1, ground := Ground.phase }, { on := 2, ground := Ground.phase }, { on := 3, ground := Ground.phase }, { on := 4, ground := Ground.phase }, { on := 5, ground := Ground.phase }, { on := 6, ground := Ground.phase }, { on := 7, ground := Ground.phase }, { on := 8, ground := Ground.phase }, { on := 9, ground := Ground.phase }, { on := 10, ground := Ground.phase }, { on := 11, ground := Ground.phase }, { on := 12, ground := Ground.phase }, { on := 13, ground := Ground.phase }, { on := 14, ground := Ground.phase }], guard := none }) (v := .int .i64 0) rfl (by kernel_rfl) (by kernel_rfl) (by kernel_rfl) (fun _ _ _ h => h) (by kernel_rfl) (fun _ _ => by kernel_rfl) hH ?_
                try simp only [pA, pB, p1, p2, p3]
                refine wpAnyH_done (by kernel_rfl) ?_ _
                try simp only [pA, pB, p1, p2, p3]
                have HF : Hid (Fr No w wk45 [(gk1, 25, Bv.cells ⟨bu, ⟨ba, bn, bc⟩, ⟨la, ln, lc⟩⟩), (gk41, 25, Bv.cells ⟨R.1.up, ⟨qa, qn, qc⟩, ⟨ra, rn, rc⟩⟩), (gk34, 56, Av.cells ⟨R.2.er, R.2.e, ⟨xa, xn, xc⟩⟩)]) := HF.out.swap3
                have HBE : Hid (RdE wk45 ⟨ba, bn, bc⟩ bes) := HBE.out.no HKs.out
                refine hK0 _ _ (Met.intro (hJ0 _ _ ?_))
                (repeat apply Exists.intro)
                refine ⟨?_, rfl⟩
                exact ⟨gk41, gk34, qa, qn, qc, ra, rn, rc, xa, xn, xc, rfl, rfl, rfl, HF, HBE, HNE, HNL, HXE⟩
             case rest =>
              obtain ⟨g8, g9, qa, qn, qc, ra, rn, rc, xa, xn, xc, rfl, rfl, rfl, HF, HBE, HNE, HNL, HXE⟩ := hcut
              have hqn : qn ≤ 256 := by have h1 : R.1.es.length = qn := HNE.out.len; have h2 := HST.out.1.n; omega
              have hqr : ((qn : Nat) : Int) ≤ room := by have h1 : R.1.es.length = qn := HNE.out.len; have h2 := HST.out.2; omega
              have hrn : rn ≤ 255 := by have h1 : R.1.ls.length = rn := HNL.out.len; have h2 := HST.out.1.ln; omega
              have HGB : Hid (bktB R.1.up R.1.es R.1.ls = true) := good_bkt HST.out.1
              clear HAP HBL
              go_upto_region 8 with fail
              refine wp_region_held_drew (S := fun w' => Fr No w w' [(gk1, 25, Bv.cells ⟨bu, ⟨ba, bn, bc⟩, ⟨la, ln, lc⟩⟩), (g8, 25, Bv.cells ⟨R.1.up, ⟨qa, qn, qc⟩, ⟨ra, rn, rc⟩⟩), (g9, 56, Av.cells ⟨R.2.er, R.2.e, ⟨xa, xn, xc⟩⟩)]) rfl HF.out.drew (fun hH => ?_)
              have HBE : Hid (RdE (wc.drew) ⟨ba, bn, bc⟩ bes) := HBE.out.no (Kept.refl No _).drew
              have HNE : Hid (OwE (wc.drew) w.heap.size ⟨qa, qn, qc⟩ R.1.es) := HNE.out.no (Kept.refl No _).drew
              have HNL : Hid (OwL (wc.drew) w.heap.size ⟨ra, rn, rc⟩ R.1.ls) := HNL.out.no (Kept.refl No _).drew
              have HXE : Hid (OwE (wc.drew) w.heap.size ⟨xa, xn, xc⟩ R.2.l) := HXE.out.no (Kept.refl No _).drew
              have HF : Hid (Fr No w (wc.drew) [(gk1, 25, Bv.cells ⟨bu, ⟨ba, bn, bc⟩, ⟨la, ln, lc⟩⟩), (g8, 25, Bv.cells ⟨R.1.up, ⟨qa, qn, qc⟩, ⟨ra, rn, rc⟩⟩), (g9, 56, Av.cells ⟨R.2.er, R.2.e, ⟨xa, xn, xc⟩⟩)]) := HF.out.drew
              generalize wc.drew = wk46 at HF HBE HNE HNL HXE hH ⊢
              refine any_take (i := 0) (oi := { dst := some 58, op := Op.move (Operand.tmp 10), type := 46, pos := "outright.go:22", after := #[], guard := none }) (v := .int .i64 0) rfl (by kernel_rfl) (by kernel_rfl) (by kernel_rfl) (fun _ _ _ h => h) (by kernel_rfl) (fun _ _ => by kernel_rfl) hH ?_
              try simp only [pA, pB, p1, p2, p3]
              refine any_take (i := 1) (oi := { dst := some 59, op := Op.binOp BinOp.neq 46 (Operand.tmp 58) (Operand.const (Value.int IntKind.i64 0)) 46, type := 4, pos := "outright.go:22", after := #[{ on := 0, ground := Ground.data }], guard := none }) (v := .bool false) rfl (by kernel_rfl) (by kernel_rfl) (by kernel_rfl) (fun _ _ _ h => h) (by kernel_rfl) (fun w' hw => exec_bin .neq 46 _ _ _ rfl (.int .i64 0) (.int .i64 0) (.bool false) (by kernel_rfl) (by kernel_rfl) (by kernel_rfl) (by kernel_rfl)) hH ?_
              try simp only [pA, pB, p1, p2, p3]
              refine any_take (i := 2) (oi := { dst := some 60, op := Op.move (Operand.tmp 59), type := 4, pos := "outright.go:22", after := #[{ on := 1, ground := Ground.data }], guard := none }) (v := .bool false) rfl (by kernel_rfl) (by kernel_rfl) (by kernel_rfl) (fun _ _ _ h => h) (by kernel_rfl) (fun _ _ => by kernel_rfl) hH ?_
              try simp only [pA, pB, p1, p2, p3]
              refine any_take (i := 3) (oi := { dst := some 61, op := Op.fieldAddr 25 (Operand.tmp 8) 0, type := 0, pos := "outright.go:22", after := #[{ on := 2, ground := Ground.guard }], guard := some (2, false) }) (v := .pointer (some ⟨g8, 0, none⟩)) rfl (by kernel_rfl) (by kernel_rfl) (by kernel_rfl) (fun _ _ _ h => h) (by kernel_rfl) (fun _ _ => by kernel_rfl) hH ?_
              try simp only [pA, pB, p1, p2, p3]
              refine any_take (i := 4) (oi := { dst := some 62, op := Op.load 3 (Operand.tmp 61), type := 3, pos := "outright.go:22", after := #[{ on := 3, ground := Ground.data }, { on := 2, ground := Ground.guard }], guard := some (2, false) }) (v := .int .i64 R.1.up) rfl (by kernel_rfl) (by kernel_rfl) (by kernel_rfl) (fun _ _ _ h => h) (by kernel_rfl) (fun w' hw => exec_load 3 _ rfl ⟨g8, 0, none⟩ (by kernel_rfl) (.int .i64 R.1.up) (ld3 ((hw.box 1 _ _ _ rfl).cell 0))) hH ?_
              try simp only [pA, pB, p1, p2, p3]
              refine any_take (i := 5) (oi := { dst := some 63, op := Op.fieldAddr 25 (Operand.tmp 3) 0, type := 0, pos := "outright.go:22", after := #[{ on := 2, ground := Ground.guard }], guard := some (2, false) }) (v := .pointer (some ⟨gk1, 0, none⟩)) rfl (by kernel_rfl) (by kernel_rfl) (by kernel_rfl) (fun _ _ _ h => h) (by kernel_rfl) (fun _ _ => by kernel_rfl) hH ?_
              try simp only [pA, pB, p1, p2, p3]
              refine any_take (i := 6) (oi := { dst := some 64, op := Op.load 3 (Operand.tmp 63), type := 3, pos := "outright.go:22", after := #[{ on := 5, ground := Ground.data }, { on := 2, ground := Ground.guard }], guard := some (2, false) }) (v := .int .i64 bu) rfl (by kernel_rfl) (by kernel_rfl) (by kernel_rfl) (fun _ _ _ h => h) (by kernel_rfl) (fun w' hw => exec_load 3 _ rfl ⟨gk1, 0, none⟩ (by kernel_rfl) (.int .i64 bu) (ld3 ((hw.box 0 _ _ _ rfl).cell 0))) hH ?_
              try simp only [pA, pB, p1, p2, p3]
              refine any_take (i := 7) (oi := { dst := some 65, op := Op.binOp BinOp.add 3 (Operand.tmp 64) (Operand.const (Value.int IntKind.i64 1)) 3, type := 3, pos := "outright.go:22", after := #[{ on := 6, ground := Ground.data }, { on := 2, ground := Ground.guard }], guard := some (2, false) }) (v := .int .i64 (bu + 1)) rfl (by kernel_rfl) (by kernel_rfl) (by kernel_rfl) (fun _ _ _ h => h) (by kernel_rfl) (fun w' hw => exec_bin .add 3 _ _ _ rfl (.int .i64 bu) (.int .i64 1) (.int .i64 (bu + 1)) (by kernel_rfl) (by kernel_rfl) (by kernel_rfl) (b_up bu (by omega) (by omega) _)) hH ?_
              try simp only [pA, pB, p1, p2, p3]
              refine any_take (i := 8) (oi := { dst := some 66, op := Op.binOp BinOp.neq 3 (Operand.tmp 62) (Operand.tmp 65) 3, type := 4, pos := "outright.go:22", after := #[{ on := 4, ground := Ground.data }, { on := 7, ground := Ground.data }, { on := 2, ground := Ground.guard }], guard := some (2, false) }) (v := .bool false) rfl (by kernel_rfl) (by kernel_rfl) (by kernel_rfl) (fun _ _ _ h => h) (by kernel_rfl) (fun w' hw => exec_bin .neq 3 _ _ _ rfl (.int .i64 R.1.up) (.int .i64 (bu + 1)) (.bool false) (by kernel_rfl) (by kernel_rfl) (by kernel_rfl) (by rw [b_neq, HUp.out]; simp)) hH ?_
              try simp only [pA, pB, p1, p2, p3]
              refine any_take (i := 9) (oi := { dst := some 67, op := Op.pick (Operand.tmp 60) (Operand.const (Value.bool true)) (Operand.tmp 66), type := 4, pos := "outright.go:22", after := #[{ on := 2, ground := Ground.data }, { on := 8, ground := Ground.data }], guard := none }) (v := .bool false) rfl (by kernel_rfl) (by kernel_rfl) (by kernel_rfl) (fun _ _ _ h => h) (by kernel_rfl) (fun _ _ => by kernel_rfl) hH ?_
              try simp only [pA, pB, p1, p2, p3]
              refine any_take (i := 10) (oi := { dst := some 68, op := Op.move (Operand.tmp 67), type := 4, pos := "outright.go:22", after := #[{ on := 9, ground := Ground.data }, { on := 2, ground := Ground.chain }], guard := none }) (v := .bool false) rfl (by kernel_rfl) (by kernel_rfl) (by kernel_rfl) (fun _ _ _ h => h) (by kernel_rfl) (fun _ _ => by kernel_rfl) hH ?_
              try simp only [pA, pB, p1, p2, p3]
              refine any_take (i := 11) (oi := { dst := some 69, op := Op.load 25 (Operand.tmp 8), type := 25, pos := "outright.go:22", after := #[{ on := 10, ground := Ground.guard }], guard := some (10, false) }) (v := .agg (Bv.cells ⟨R.1.up, ⟨qa, qn, qc⟩, ⟨ra, rn, rc⟩⟩)) rfl (by kernel_rfl) (by kernel_rfl) (by kernel_rfl) (fun _ _ _ h => h) (by kernel_rfl) (fun w' hw => exec_load 25 _ rfl ⟨g8, 0, none⟩ (by kernel_rfl) (.agg (Bv.cells ⟨R.1.up, ⟨qa, qn, qc⟩, ⟨ra, rn, rc⟩⟩)) (ld25 (hw.box 1 _ _ _ rfl))) hH ?_
              try simp only [pA, pB, p1, p2, p3]
              refine any_call (i := 12) (o := { dst := some 70, op := Op.call { callee := Callee.value (Operand.func 11), args := #[Operand.tmp 69], argTypes := #[25] }, type := 4, pos := "outright.go:22", after := #[{ on := 11, ground := Ground.data }, { on := 10, ground := Ground.chain }, { on := 10, ground := Ground.guard }], guard := some (10, false) }) rfl (by kernel_rfl) (by kernel_rfl) 11 #[.agg (Bv.cells ⟨R.1.up, ⟨qa, qn, qc⟩, ⟨ra, rn, rc⟩⟩)] (by kernel_rfl) _ (bucket_any R.1.up qa qn qc ra rn rc R.1.es R.1.ls _ HNE.out.rd HNL.out.rd (by omega) (by omega)) ?_
              rintro e wk47 ⟨rfl, hk⟩
              have hH2 : Fr No w wk47 [(gk1, 25, Bv.cells ⟨bu, ⟨ba, bn, bc⟩, ⟨la, ln, lc⟩⟩), (g8, 25, Bv.cells ⟨R.1.up, ⟨qa, qn, qc⟩, ⟨ra, rn, rc⟩⟩), (g9, 56, Av.cells ⟨R.2.er, R.2.e, ⟨xa, xn, xc⟩⟩)] := hH.no hk
              have HBE : Hid (RdE (wk47) ⟨ba, bn, bc⟩ bes) := HBE.out.no hk
              have HNE : Hid (OwE (wk47) w.heap.size ⟨qa, qn, qc⟩ R.1.es) := HNE.out.no hk
              have HNL : Hid (OwL (wk47) w.heap.size ⟨ra, rn, rc⟩ R.1.ls) := HNL.out.no hk
              have HXE : Hid (OwE (wk47) w.heap.size ⟨xa, xn, xc⟩ R.2.l) := HXE.out.no hk
              have HF : Hid (Fr No w (wk47) [(gk1, 25, Bv.cells ⟨bu, ⟨ba, bn, bc⟩, ⟨la, ln, lc⟩⟩), (g8, 25, Bv.cells ⟨R.1.up, ⟨qa, qn, qc⟩, ⟨ra, rn, rc⟩⟩), (g9, 56, Av.cells ⟨R.2.er, R.2.e, ⟨xa, xn, xc⟩⟩)]) := HF.out.no hk
              clear hk
              refine ⟨.bool true, by rw [HGB.out], hH2, fun hH => ?_⟩
              clear hH2
              try simp only [pA, pB, p1, p2, p3]
              refine any_take (i := 13) (oi := { dst := some 71, op := Op.unOp UnOp.not 4 (Operand.tmp 70), type := 4, pos := "outright.go:22", after := #[{ on := 12, ground := Ground.data }, { on := 10, ground := Ground.guard }], guard := some (10, false) }) (v := .bool false) rfl (by kernel_rfl) (by kernel_rfl) (by kernel_rfl) (fun _ _ _ h => h) (by kernel_rfl) (fun _ _ => by kernel_rfl) hH ?_
              try simp only [pA, pB, p1, p2, p3]
              refine any_take (i := 14) (oi := { dst := some 72, op := Op.pick (Operand.tmp 68) (Operand.const (Value.bool true)) (Operand.tmp 71), type := 4, pos := "outright.go:22", after := #[{ on := 10, ground := Ground.data }, { on := 13, ground := Ground.data }], guard := none }) (v := .bool false) rfl (by kernel_rfl) (by kernel_rfl) (by kernel_rfl) (fun _ _ _ h => h) (by kernel_rfl) (fun _ _ => by kernel_rfl) hH ?_
              try simp only [pA, pB, p1, p2, p3]
              refine any_take (i := 15) (oi := { dst := some 73, op := Op.move (Operand.tmp 72), type := 4, pos := "outright.go:22", after := #[{ on := 14, ground := Ground.data }, { on := 12, ground := Ground.chain }], guard := none }) (v := .bool false) rfl (by kernel_rfl) (by kernel_rfl) (by kernel_rfl) (fun _ _ _ h => h) (by kernel_rfl) (fun _ _ => by kernel_rfl) hH ?_
              try simp only [pA, pB, p1, p2, p3]
              refine any_take (i := 16) (oi := { dst := some 74, op := Op.fieldAddr 25 (Operand.tmp 8) 1, type := 0, pos := "outright.go:22", after := #[{ on := 15, ground := Ground.guard }], guard := some (15, false) }) (v := .pointer (some ⟨g8, 1, none⟩)) rfl (by kernel_rfl) (by kernel_rfl) (by kernel_rfl) (fun _ _ _ h => h) (by kernel_rfl) (fun _ _ => by kernel_rfl) hH ?_
              try simp only [pA, pB, p1, p2, p3]
              refine any_take (i := 17) (oi := { dst := some 75, op := Op.load 22 (Operand.tmp 74), type := 22, pos := "outright.go:22", after := #[{ on := 16, ground := Ground.data }, { on := 15, ground := Ground.guard }], guard := some (15, false) }) (v := .slice qa qn qc) rfl (by kernel_rfl) (by kernel_rfl) (by kernel_rfl) (fun _ _ _ h => h) (by kernel_rfl) (fun w' hw => exec_load 22 _ rfl ⟨g8, 1, none⟩ (by kernel_rfl) (.slice qa qn qc) (ld22 ((hw.box 1 _ _ _ rfl).cell 1))) hH ?_
              try simp only [pA, pB, p1, p2, p3]
              refine any_take (i := 18) (oi := { dst := some 76, op := Op.call { callee := Callee.builtin Builtin.len, args := #[Operand.tmp 75], argTypes := #[22] }, type := 3, pos := "outright.go:22", after := #[{ on := 17, ground := Ground.data }, { on := 15, ground := Ground.guard }], guard := some (15, false) }) (v := .int .i64 ((qn : Nat) : Int)) rfl (by kernel_rfl) (by kernel_rfl) (by kernel_rfl) (fun _ _ _ h => h) (by kernel_rfl) (fun _ _ => by kernel_rfl) hH ?_
              try simp only [pA, pB, p1, p2, p3]
              refine any_take (i := 19) (oi := { dst := some 77, op := Op.move (Operand.tmp 1), type := 3, pos := "outright.go:22", after := #[{ on := 15, ground := Ground.guard }], guard := some (15, false) }) (v := .int .i64 room) rfl (by kernel_rfl) (by kernel_rfl) (by kernel_rfl) (fun _ _ _ h => h) (by kernel_rfl) (fun _ _ => by kernel_rfl) hH ?_
              try simp only [pA, pB, p1, p2, p3]
              refine any_take (i := 20) (oi := { dst := some 78, op := Op.binOp BinOp.gtr 3 (Operand.tmp 76) (Operand.tmp 77) 3, type := 4, pos := "outright.go:22", after := #[{ on := 18, ground := Ground.data }, { on := 19, ground := Ground.data }, { on := 15, ground := Ground.guard }], guard := some (15, false) }) (v := .bool false) rfl (by kernel_rfl) (by kernel_rfl) (by kernel_rfl) (fun _ _ _ h => h) (by kernel_rfl) (fun w' hw => exec_bin .gtr 3 _ _ _ rfl (.int .i64 ((qn : Nat) : Int)) (.int .i64 room) (.bool false) (by kernel_rfl) (by kernel_rfl) (by kernel_rfl) (by rw [b_gtr, decide_eq_false (by omega)])) hH ?_
              try simp only [pA, pB, p1, p2, p3]
              refine any_take (i := 21) (oi := { dst := some 79, op := Op.pick (Operand.tmp 73) (Operand.const (Value.bool true)) (Operand.tmp 78), type := 4, pos := "outright.go:22", after := #[{ on := 15, ground := Ground.data }, { on := 20, ground := Ground.data }], guard := none }) (v := .bool false) rfl (by kernel_rfl) (by kernel_rfl) (by kernel_rfl) (fun _ _ _ h => h) (by kernel_rfl) (fun _ _ => by kernel_rfl) hH ?_
              try simp only [pA, pB, p1, p2, p3]
              refine any_take (i := 22) (oi := { dst := some 80, op := Op.move (Operand.tmp 79), type := 4, pos := "outright.go:22", after := #[{ on := 21, ground := Ground.data }, { on := 15, ground := Ground.chain }], guard := none }) (v := .bool false) rfl (by kernel_rfl) (by kernel_rfl) (by kernel_rfl) (fun _ _ _ h => h) (by kernel_rfl) (fun _ _ => by kernel_rfl) hH ?_
              try simp only [pA, pB, p1, p2, p3]
              refine any_take (i := 23) (oi := { dst := some 81, op := Op.load 25 (Operand.tmp 3), type := 25, pos := "outright.go:22", after := #[{ on := 22, ground := Ground.guard }], guard := some (22, false) }) (v := .agg (Bv.cells ⟨bu, ⟨ba, bn, bc⟩, ⟨la, ln, lc⟩⟩)) rfl (by kernel_rfl) (by kernel_rfl) (by kernel_rfl) (fun _ _ _ h => h) (by kernel_rfl) (fun w' hw => exec_load 25 _ rfl ⟨gk1, 0, none⟩ (by kernel_rfl) (.agg (Bv.cells ⟨bu, ⟨ba, bn, bc⟩, ⟨la, ln, lc⟩⟩)) (ld25 (hw.box 0 _ _ _ rfl))) hH ?_
              try simp only [pA, pB, p1, p2, p3]
              refine any_take (i := 24) (oi := { dst := some 82, op := Op.load 25 (Operand.tmp 8), type := 25, pos := "outright.go:22", after := #[{ on := 22, ground := Ground.guard }], guard := some (22, false) }) (v := .agg (Bv.cells ⟨R.1.up, ⟨qa, qn, qc⟩, ⟨ra, rn, rc⟩⟩)) rfl (by kernel_rfl) (by kernel_rfl) (by kernel_rfl) (fun _ _ _ h => h) (by kernel_rfl) (fun w' hw => exec_load 25 _ rfl ⟨g8, 0, none⟩ (by kernel_rfl) (.agg (Bv.cells ⟨R.1.up, ⟨qa, qn, qc⟩, ⟨ra, rn, rc⟩⟩)) (ld25 (hw.box 1 _ _ _ rfl))) hH ?_
              try simp only [pA, pB, p1, p2, p3]
              refine any_take (i := 25) (oi := { dst := some 83, op := Op.move (Operand.tmp 2), type := 34, pos := "outright.go:22", after := #[{ on := 22, ground := Ground.guard }], guard := some (22, false) }) (v := .slice (some ⟨xb, xo, none⟩) cn cc) rfl (by kernel_rfl) (by kernel_rfl) (by kernel_rfl) (fun _ _ _ h => h) (by kernel_rfl) (fun _ _ => by kernel_rfl) hH ?_
              try simp only [pA, pB, p1, p2, p3]
              refine any_take (i := 26) (oi := { dst := some 84, op := Op.move (Operand.tmp 7), type := 3, pos := "outright.go:22", after := #[{ on := 22, ground := Ground.guard }], guard := some (22, false) }) (v := .int .i64 ((k : Nat) : Int)) rfl (by kernel_rfl) (by kernel_rfl) (by kernel_rfl) (fun _ _ _ h => h) (by kernel_rfl) (fun _ _ => by kernel_rfl) hH ?_
              try simp only [pA, pB, p1, p2, p3]
              refine any_take (i := 27) (oi := { dst := some 85, op := Op.indexAddr 34 (Operand.tmp 83) (Operand.tmp 84), type := 0, pos := "outright.go:22", after := #[{ on := 25, ground := Ground.data }, { on := 26, ground := Ground.data }, { on := 22, ground := Ground.guard }], guard := some (22, false) }) (v := .pointer (some ⟨xb, xo + k * 9, none⟩)) rfl (by kernel_rfl) (by kernel_rfl) (by kernel_rfl) (fun _ _ _ h => h) (by kernel_rfl) (fun w' hw => exec_ixA 34 9 Try.und34e Try.size34e _ _ rfl xb xo cn cc k (by kernel_rfl) (by kernel_rfl) hkn) hH ?_
              try simp only [pA, pB, p1, p2, p3]
              refine any_take (i := 28) (oi := { dst := some 86, op := Op.load 29 (Operand.tmp 85), type := 29, pos := "outright.go:22", after := #[{ on := 27, ground := Ground.data }, { on := 22, ground := Ground.guard }], guard := some (22, false) }) (v := .agg (Cm.cells x)) rfl (by kernel_rfl) (by kernel_rfl) (by kernel_rfl) (fun _ _ _ h => h) (by kernel_rfl) (fun w' hw => exec_load 29 _ rfl ⟨xb, xo + k * 9, none⟩ (by kernel_rfl) (.agg (Cm.cells x)) (load_Ca (fun j v h => hw.kept.cell (HCE.out j v h) (fun e => e)))) hH ?_
              try simp only [pA, pB, p1, p2, p3]
              refine any_take (i := 29) (oi := { dst := some 87, op := Op.load 56 (Operand.tmp 9), type := 56, pos := "outright.go:22", after := #[{ on := 22, ground := Ground.guard }], guard := some (22, false) }) (v := .agg (Av.cells ⟨R.2.er, R.2.e, ⟨xa, xn, xc⟩⟩)) rfl (by kernel_rfl) (by kernel_rfl) (by kernel_rfl) (fun _ _ _ h => h) (by kernel_rfl) (fun w' hw => exec_load 56 _ rfl ⟨g9, 0, none⟩ (by kernel_rfl) (.agg (Av.cells ⟨R.2.er, R.2.e, ⟨xa, xn, xc⟩⟩)) (ld56 (hw.box 2 _ _ _ rfl))) hH ?_
              try simp only [pA, pB, p1, p2, p3]
              refine any_call (i := 30) (o := { dst := some 88, op := Op.call { callee := Callee.value (Operand.func 23), args := #[Operand.tmp 81, Operand.tmp 82, Operand.tmp 86, Operand.tmp 87], argTypes := #[25, 25, 29, 56] }, type := 4, pos := "outright.go:22", after := #[{ on := 23, ground := Ground.data }, { on := 24, ground := Ground.data }, { on := 28, ground := Ground.data }, { on := 29, ground := Ground.data }, { on := 22, ground := Ground.chain }, { on := 22, ground := Ground.guard }], guard := some (22, false) }) rfl (by kernel_rfl) (by kernel_rfl) 23 #[.agg (Bv.cells ⟨bu, ⟨ba, bn, bc⟩, ⟨la, ln, lc⟩⟩), .agg (Bv.cells ⟨R.1.up, ⟨qa, qn, qc⟩, ⟨ra, rn, rc⟩⟩), .agg (Cm.cells x), .agg (Av.cells ⟨R.2.er, R.2.e, ⟨xa, xn, xc⟩⟩)] (by kernel_rfl) _ (HCT.out _ qa qn qc ⟨ra, rn, rc⟩ R.1.up xa xn xc HBE.out HNE.out.rd HXE.out.rd (by omega)) ?_
              rintro e wk48 ⟨rfl, hk⟩
              have hH2 : Fr No w wk48 [(gk1, 25, Bv.cells ⟨bu, ⟨ba, bn, bc⟩, ⟨la, ln, lc⟩⟩), (g8, 25, Bv.cells ⟨R.1.up, ⟨qa, qn, qc⟩, ⟨ra, rn, rc⟩⟩), (g9, 56, Av.cells ⟨R.2.er, R.2.e, ⟨xa, xn, xc⟩⟩)] := hH.no hk
              have HBE : Hid (RdE (wk48) ⟨ba, bn, bc⟩ bes) := HBE.out.no hk
              have HNE : Hid (OwE (wk48) w.heap.size ⟨qa, qn, qc⟩ R.1.es) := HNE.out.no hk
              have HNL : Hid (OwL (wk48) w.heap.size ⟨ra, rn, rc⟩ R.1.ls) := HNL.out.no hk
              have HXE : Hid (OwE (wk48) w.heap.size ⟨xa, xn, xc⟩ R.2.l) := HXE.out.no hk
              have HF : Hid (Fr No w (wk48) [(gk1, 25, Bv.cells ⟨bu, ⟨ba, bn, bc⟩, ⟨la, ln, lc⟩⟩), (g8, 25, Bv.cells ⟨R.1.up, ⟨qa, qn, qc⟩, ⟨ra, rn, rc⟩⟩), (g9, 56, Av.cells ⟨R.2.er, R.2.e, ⟨xa, xn, xc⟩⟩)]) := HF.out.no hk
              clear hk
              refine ⟨.bool true, rfl, hH2, fun hH => ?_⟩
              clear hH2
              try simp only [pA, pB, p1, p2, p3]
              refine any_take (i := 31) (oi := { dst := some 89, op := Op.unOp UnOp.not 4 (Operand.tmp 88), type := 4, pos := "outright.go:22", after := #[{ on := 30, ground := Ground.data }, { on := 22, ground := Ground.guard }], guard := some (22, false) }) (v := .bool false) rfl (by kernel_rfl) (by kernel_rfl) (by kernel_rfl) (fun _ _ _ h => h) (by kernel_rfl) (fun _ _ => by kernel_rfl) hH ?_
              try simp only [pA, pB, p1, p2, p3]
              refine any_take (i := 32) (oi := { dst := some 90, op := Op.pick (Operand.tmp 80) (Operand.const (Value.bool true)) (Operand.tmp 89), type := 4, pos := "outright.go:22", after := #[{ on := 22, ground := Ground.data }, { on := 31, ground := Ground.data }], guard := none }) (v := .bool false) rfl (by kernel_rfl) (by kernel_rfl) (by kernel_rfl) (fun _ _ _ h => h) (by kernel_rfl) (fun _ _ => by kernel_rfl) hH ?_
              try simp only [pA, pB, p1, p2, p3]
              refine wpAnyH_done (by kernel_rfl) ?_ _
              try simp only [pA, pB, p1, p2, p3]
              clear hH
              clear HBE HXE HCT HGB
              go_upto_region 10 with fail
              refine WL.start ?_
              refine wp_takeW (.agg (Bv.cells ⟨R.1.up, ⟨qa, qn, qc⟩, ⟨ra, rn, rc⟩⟩)) (exec_load 25 _ rfl ⟨g8, 0, none⟩ (by kernel_rfl) (.agg (Bv.cells ⟨R.1.up, ⟨qa, qn, qc⟩, ⟨ra, rn, rc⟩⟩)) (ld25 (HF.out.box 1 _ _ _ rfl))) (by kernel_rfl) ?_
              try simp only [pA, pB, p1, p2, p3]
              refine wp_storeW 25 _ _ rfl ⟨gk1, 0, none⟩ (.agg (Bv.cells ⟨R.1.up, ⟨qa, qn, qc⟩, ⟨ra, rn, rc⟩⟩)) (by kernel_rfl) (by kernel_rfl) (wk48.setRow gk1 (Bv.cells ⟨R.1.up, ⟨qa, qn, qc⟩, ⟨ra, rn, rc⟩⟩)) (st25 (HF.out.box 0 _ _ _ rfl) rfl) (by kernel_rfl) ?_
              try simp only [pA, pB, p1, p2, p3]
              have HNE : Hid (OwE (wk48.setRow gk1 (Bv.cells ⟨R.1.up, ⟨qa, qn, qc⟩, ⟨ra, rn, rc⟩⟩)) w.heap.size ⟨qa, qn, qc⟩ R.1.es) := HNE.out.kept (Kept.setRow _ _ _) (fun k h e => (HNE.out.own.notBox (HF.out.box 0 _ _ _ rfl) (by decide)) ((show k = gk1 from e) ▸ h))
              have HNL : Hid (OwL (wk48.setRow gk1 (Bv.cells ⟨R.1.up, ⟨qa, qn, qc⟩, ⟨ra, rn, rc⟩⟩)) w.heap.size ⟨ra, rn, rc⟩ R.1.ls) := HNL.out.kept (Kept.setRow _ _ _) (fun k h e => (HNL.out.own.notBox (HF.out.box 0 _ _ _ rfl) (by decide)) ((show k = gk1 from e) ▸ h))
              have HF : Hid (Fr No w (wk48.setRow gk1 (Bv.cells ⟨R.1.up, ⟨qa, qn, qc⟩, ⟨ra, rn, rc⟩⟩)) [(gk1, 25, Bv.cells ⟨R.1.up, ⟨qa, qn, qc⟩, ⟨ra, rn, rc⟩⟩), (g8, 25, Bv.cells ⟨R.1.up, ⟨qa, qn, qc⟩, ⟨ra, rn, rc⟩⟩), (g9, 56, Av.cells ⟨R.2.er, R.2.e, ⟨xa, xn, xc⟩⟩)]) := HF.out.set 0 rfl _
              generalize wk48.setRow gk1 (Bv.cells ⟨R.1.up, ⟨qa, qn, qc⟩, ⟨ra, rn, rc⟩⟩) = wk49 at HF HNE HNL ⊢
              refine WL.nil ?_
              try simp only [pA, pB, p1, p2, p3]
              have HF : Hid (Fr No w wk49 [(gk1, 25, Bv.cells ⟨R.1.up, ⟨qa, qn, qc⟩, ⟨ra, rn, rc⟩⟩)]) := (show Fr No w wk49 ([(gk1, 25, Bv.cells ⟨R.1.up, ⟨qa, qn, qc⟩, ⟨ra, rn, rc⟩⟩)] ++ [(g8, 25, Bv.cells ⟨R.1.up, ⟨qa, qn, qc⟩, ⟨ra, rn, rc⟩⟩), (g9, 56, Av.cells ⟨R.2.er, R.2.e, ⟨xa, xn, xc⟩⟩)]) from HF.out).front
              go_wp2
              go_roundw
              case rel => exact ⟨k + 1, R.1, ⟨qa, qn, qc⟩, ⟨ra, rn, rc⟩, by go_num, by omega, by omega, HF, HNE.out.rd, HNL.out.rd, HST.out.1, HST.out.2⟩
              case measure => simp [intOf]; omega
            ·skip
             refine wp_takeW (.bool true) (exec_bin .geq 3 _ _ _ rfl (.int .i64 bu) (.int .i64 1048576) (.bool true) (by kernel_rfl) (by kernel_rfl) (by kernel_rfl) (by rw [b_geq, q5]; try rfl)) (by kernel_rfl) ?_
             try simp only [pA, pB, p1, p2, p3]
             refine wp_takeW (.bool true) (by kernel_rfl) (by kernel_rfl) ?_
             try simp only [pA, pB, p1, p2, p3]
             refine WL.nil ?_
             try simp only [pA, pB, p1, p2, p3]
             go_wp2
             go_roundw
             case rel => exact ⟨k + 1, ⟨bu, bes, bls⟩, ⟨ba, bn, bc⟩, ⟨la, ln, lc⟩, by go_num, by omega, by omega, HF, HBE, HBL, HG, HN⟩
             case measure => simp [intOf]; omega
         · skip
           go_upto_region 4 with fail
           refine WL.start ?_
           refine wp_takeW (.int .i64 ((k : Nat) : Int)) (by kernel_rfl) (by kernel_rfl) ?_
           try simp only [pA, pB, p1, p2, p3]
           refine wp_takeW (.slice ca cn cc) (by kernel_rfl) (by kernel_rfl) ?_
           try simp only [pA, pB, p1, p2, p3]
           refine wp_takeW (.int .i64 ((cn : Nat) : Int)) (by kernel_rfl) (by kernel_rfl) ?_
           try simp only [pA, pB, p1, p2, p3]
           refine wp_takeW (.bool true) (exec_bin .lss 3 _ _ _ rfl (.int .i64 ((k : Nat) : Int)) (.int .i64 ((cn : Nat) : Int)) (.bool true) (by kernel_rfl) (by kernel_rfl) (by kernel_rfl) (by rw [b_lss, decide_eq_true (by omega)])) (by kernel_rfl) ?_
           try simp only [pA, pB, p1, p2, p3]
           refine wp_takeW (.bool true) (by kernel_rfl) (by kernel_rfl) ?_
           try simp only [pA, pB, p1, p2, p3]
           refine wp_takeW (.int .i64 ((k : Nat) : Int)) (by kernel_rfl) (by kernel_rfl) ?_
           try simp only [pA, pB, p1, p2, p3]
           refine wp_takeW (.bool false) (exec_bin .lss 3 _ _ _ rfl (.int .i64 ((k : Nat) : Int)) (.int .i64 400) (.bool false) (by kernel_rfl) (by kernel_rfl) (by kernel_rfl) (by rw [b_lss, decide_eq_false (by omega)])) (by kernel_rfl) ?_
           try simp only [pA, pB, p1, p2, p3]
           refine wp_takeW (.bool false) (by kernel_rfl) (by kernel_rfl) ?_
           try simp only [pA, pB, p1, p2, p3]
           refine WL.nil ?_
           try simp only [pA, pB, p1, p2, p3]
           go_upto_region 11 with fail
           refine WL.start ?_
           refine wp_callW 10 #[] (by kernel_rfl) _ (head_any _) (by kernel_rfl) ?_
           rintro e wk50 ⟨rfl, hk⟩
           have HBE : Hid (RdE (wk50) ⟨ba, bn, bc⟩ bes) := HBE.out.no hk
           have HBL : Hid (RdL (wk50) ⟨la, ln, lc⟩ bls) := HBL.out.no hk
           have HF : Hid (Fr No w (wk50) [(gk1, 25, Bv.cells ⟨bu, ⟨ba, bn, bc⟩, ⟨la, ln, lc⟩⟩)]) := HF.out.no hk
           clear hk
           refine ⟨.bool true, rfl, ?_⟩
           try simp only [pA, pB, p1, p2, p3]
           refine wp_takeW (.bool true) (by kernel_rfl) (by kernel_rfl) ?_
           try simp only [pA, pB, p1, p2, p3]
           refine WL.nil ?_
           try simp only [pA, pB, p1, p2, p3]
           go_wp2
           rw [HC.out]
           exact ⟨rfl, HF.out.kept⟩
       · skip
         go_upto_region 4 with fail
         refine WL.start ?_
         refine wp_takeW (.int .i64 ((k : Nat) : Int)) (by kernel_rfl) (by kernel_rfl) ?_
         try simp only [pA, pB, p1, p2, p3]
         refine wp_takeW (.slice ca cn cc) (by kernel_rfl) (by kernel_rfl) ?_
         try simp only [pA, pB, p1, p2, p3]
         refine wp_takeW (.int .i64 ((cn : Nat) : Int)) (by kernel_rfl) (by kernel_rfl) ?_
         try simp only [pA, pB, p1, p2, p3]
         refine wp_takeW (.bool false) (exec_bin .lss 3 _ _ _ rfl (.int .i64 ((k : Nat) : Int)) (.int .i64 ((cn : Nat) : Int)) (.bool false) (by kernel_rfl) (by kernel_rfl) (by kernel_rfl) (by rw [b_lss, decide_eq_false (by omega)])) (by kernel_rfl) ?_
         try simp only [pA, pB, p1, p2, p3]
         refine wp_takeW (.bool false) (by kernel_rfl) (by kernel_rfl) ?_
         try simp only [pA, pB, p1, p2, p3]
         refine wp_skip (by kernel_rfl) ?_
         try simp only [pA, pB, p1, p2, p3]
         refine wp_skip (by kernel_rfl) ?_
         try simp only [pA, pB, p1, p2, p3]
         refine wp_takeW (.bool false) (by kernel_rfl) (by kernel_rfl) ?_
         try simp only [pA, pB, p1, p2, p3]
         refine WL.nil ?_
         try simp only [pA, pB, p1, p2, p3]
         go_upto_region 11 with fail
         refine WL.start ?_
         refine wp_callW 10 #[] (by kernel_rfl) _ (head_any _) (by kernel_rfl) ?_
         rintro e wk51 ⟨rfl, hk⟩
         have HBE : Hid (RdE (wk51) ⟨ba, bn, bc⟩ bes) := HBE.out.no hk
         have HBL : Hid (RdL (wk51) ⟨la, ln, lc⟩ bls) := HBL.out.no hk
         have HF : Hid (Fr No w (wk51) [(gk1, 25, Bv.cells ⟨bu, ⟨ba, bn, bc⟩, ⟨la, ln, lc⟩⟩)]) := HF.out.no hk
         clear hk
         refine ⟨.bool true, rfl, ?_⟩
         try simp only [pA, pB, p1, p2, p3]
         refine wp_takeW (.bool true) (by kernel_rfl) (by kernel_rfl) ?_
         try simp only [pA, pB, p1, p2, p3]
         refine WL.nil ?_
         try simp only [pA, pB, p1, p2, p3]
         go_wp2
         rw [HC.out]
         exact ⟨rfl, HF.out.kept⟩
    ·skip
     refine wp_takeW (.bool true) (exec_bin .gtr 3 _ _ _ rfl (.int .i64 room) (.int .i64 256) (.bool true) (by kernel_rfl) (by kernel_rfl) (by kernel_rfl) (by rw [b_gtr, q3]; try rfl)) (by kernel_rfl) ?_
     try simp only [pA, pB, p1, p2, p3]
     refine wp_takeW (.bool true) (by kernel_rfl) (by kernel_rfl) ?_
     try simp only [pA, pB, p1, p2, p3]
     refine WL.nil ?_
     try simp only [pA, pB, p1, p2, p3]
     go_upto_region 2 with fail
     refine WL.start ?_
     refine wp_callW 10 #[] (by kernel_rfl) _ (head_any _) (by kernel_rfl) ?_
     rintro e wk52 ⟨rfl, hk⟩
     have HE0 : Hid (RdE (wk52) ⟨ea, en, ec⟩ es0) := HE0.out.no hk
     have HL0 : Hid (RdL (wk52) ⟨fa, fm, fc⟩ ls0) := HL0.out.no hk
     have HF : Hid (Fr No w (wk52) [(gk1, 25, Bv.cells ⟨bu0, ⟨ea, en, ec⟩, ⟨fa, fm, fc⟩⟩)]) := HF.out.no hk
     clear hk
     refine ⟨.bool true, rfl, ?_⟩
     try simp only [pA, pB, p1, p2, p3]
     refine wp_takeW (.bool true) (by kernel_rfl) (by kernel_rfl) ?_
     try simp only [pA, pB, p1, p2, p3]
     refine WL.nil ?_
     try simp only [pA, pB, p1, p2, p3]
     go_wp2
     rw [HC.out]
     exact ⟨rfl, HF.out.kept⟩
   ·skip
    refine wp_takeW (.bool true) (exec_bin .gtr 3 _ _ _ rfl (.int .i64 ((en : Nat) : Int)) (.int .i64 room) (.bool true) (by kernel_rfl) (by kernel_rfl) (by kernel_rfl) (by rw [b_gtr, q2]; try rfl)) (by kernel_rfl) ?_
    try simp only [pA, pB, p1, p2, p3]
    refine wp_takeW (.bool true) (by kernel_rfl) (by kernel_rfl) ?_
    try simp only [pA, pB, p1, p2, p3]
    refine wp_takeW (.bool true) (by kernel_rfl) (by kernel_rfl) ?_
    try simp only [pA, pB, p1, p2, p3]
    refine wp_skip (by kernel_rfl) ?_
    try simp only [pA, pB, p1, p2, p3]
    refine wp_skip (by kernel_rfl) ?_
    try simp only [pA, pB, p1, p2, p3]
    refine wp_takeW (.bool true) (by kernel_rfl) (by kernel_rfl) ?_
    try simp only [pA, pB, p1, p2, p3]
    refine WL.nil ?_
    try simp only [pA, pB, p1, p2, p3]
    go_upto_region 2 with fail
    refine WL.start ?_
    refine wp_callW 10 #[] (by kernel_rfl) _ (head_any _) (by kernel_rfl) ?_
    rintro e wk53 ⟨rfl, hk⟩
    have HE0 : Hid (RdE (wk53) ⟨ea, en, ec⟩ es0) := HE0.out.no hk
    have HL0 : Hid (RdL (wk53) ⟨fa, fm, fc⟩ ls0) := HL0.out.no hk
    have HF : Hid (Fr No w (wk53) [(gk1, 25, Bv.cells ⟨bu0, ⟨ea, en, ec⟩, ⟨fa, fm, fc⟩⟩)]) := HF.out.no hk
    clear hk
    refine ⟨.bool true, rfl, ?_⟩
    try simp only [pA, pB, p1, p2, p3]
    refine wp_takeW (.bool true) (by kernel_rfl) (by kernel_rfl) ?_
    try simp only [pA, pB, p1, p2, p3]
    refine WL.nil ?_
    try simp only [pA, pB, p1, p2, p3]
    go_wp2
    rw [HC.out]
    exact ⟨rfl, HF.out.kept⟩

end Go.Proofs.Ytfemlnfknebalaa
