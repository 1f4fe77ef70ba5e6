import Derived.Test.YtfemlnfknebalabC
import Derived.Laws.Externs
namespace Go.Proofs.Ytfemlnfknebalab
open Go.RowKit
set_option linter.unusedVariables false
set_option linter.unusedSimpArgs false

theorem isNaN_any (x : Int) (w : World) : Calls Try.prog 53 #[.int .i64 x] w (fun e w' => e = .returned (.bool false) ∧ w' = w) := by
  go_enter Try.func53, Try.ntmps53
  go_wp2
  go_ret
  exact ⟨rfl, rfl⟩
theorem cmp_any (x y : Int) (w : World) : Calls Try.prog 47 #[.int .i64 x, .int .i64 y] w (fun e w' => e = .returned (.int .i64 (cmpI x y)) ∧ w' = w) := by
  have HE : Hid (cmpI x y = if x < y then -1 else if y < x then 1 else 0) := rfl
  go_enter Try.func47, Try.ntmps47
  go_wp2_with (go_at_call 53
               refine Calls.mono (isNaN_any _ _) ?_
               rintro e w1 ⟨rfl, rfl⟩)
  all_goals go_ret
  all_goals refine ⟨ret_int ?_, rfl⟩
  all_goals rw [HE.out]
  all_goals first | rfl | (simp_all; done) | (simp_all; omega) | (rw [if_neg (by omega), if_pos (by omega)]) | (rw [if_neg (by omega), if_neg (by omega)]) | (rw [if_pos (by omega)])
set_option maxHeartbeats 1000000 in
set_option maxRecDepth 100000 in
theorem cmpS_any (a b : ByteArray) (w : World) : Calls Try.prog 43 #[.string a, .string b] w (fun e w' => e = .returned (.int .i64 (cmpB a b)) ∧ w' = w) := by
  go_enter Try.func43, Try.ntmps43
  go_wp2
  rw [run_callFunc_extern Try.func50 (by kernel_rfl) (by kernel_rfl) (by kernel_rfl) (e := Extern.BytealgCompare.compare) (by kernel_rfl), Lib.run_compareString]
  simp only [Result.andThen]
  rw [Oper.upon_value]
  go_wp2
  go_ret
  exact ⟨rfl, rfl⟩
theorem compare_any (a b : ByteArray) (w : World) : Calls Try.prog 35 #[.string a, .string b] w (fun e w' => e = .returned (.int .i64 (cmpB a b)) ∧ w' = w) := by
  generalize hc : cmpB a b = c
  have HC : Hid (cmpB a b = c) := hc
  clear hc
  go_enter Try.func35, Try.ntmps35
  go_wp2_with (go_at_call 43
               refine Calls.mono (cmpS_any _ _ _) ?_
               rw [HC.out]
               rintro e w1 ⟨rfl, rfl⟩)
  go_ret
  exact ⟨rfl, rfl⟩
set_option maxRecDepth 100000 in
set_option maxHeartbeats 4000000 in
theorem eCmp_any (e : En) (n : ByteArray) (w : World) : Calls Try.prog 34 #[.agg e.cells, .string n] w (fun e' w' => e' = .returned (.int .i64 (cmpB e.nm n)) ∧ Kept No w w') := by
  obtain ⟨C, hC⟩ : ∃ C : Ending → World → Prop, C = (fun e' w' => e' = .returned (.int .i64 (cmpB e.nm n)) ∧ Kept No w w') := ⟨_, rfl⟩
  have HC : Hid (C = (fun e' w' => e' = .returned (.int .i64 (cmpB e.nm n)) ∧ Kept No w w')) := hC
  rw [← hC]
  clear hC
  have HF : Hid (Fr No w w []) := Fr.start _ _
  go_enter Try.func34, Try.ntmps34
  go_upto_region 0 with fail
  refine WL.start ?_
  refine wp_runW (.pointer (some ⟨w.heap.size, 0, none⟩)) (w.alloc (.cells (En.cells e) 34)) (exec_box 34 _ rfl (En.cells e) (by kernel_rfl)) (by kernel_rfl) ?_
  try simp only [pA, pB, p1, p2, p3]
  have HF : Hid (Fr No w (w.alloc (.cells (En.cells e) 34)) [(w.heap.size, 34, En.cells e)]) := HF.out.alloc _ _
  generalize w.alloc (.cells (En.cells e) 34) = wk2 at HF ⊢
  generalize w.heap.size = gk1 at HF ⊢
  refine tK (.int .i64 0) ?_
  try simp only [pA, pB, p1, p2, p3]
  refine WL.nil ?_
  try simp only [pA, pB, p1, p2, p3]
  go_upto_region 1 with fail
  refine WL.start ?_
  refine tK (.pointer (some ⟨gk1, 0, none⟩)) ?_
  try simp only [pA, pB, p1, p2, p3]
  refine tW (.string e.nm) (exec_load 9 _ rfl ⟨gk1, 0, none⟩ (by kernel_rfl) (.string e.nm) (ld9 ((HF.out.box 0 _ _ _ rfl).cell 0))) ?_
  try simp only [pA, pB, p1, p2, p3]
  refine tK (.string n) ?_
  try simp only [pA, pB, p1, p2, p3]
  refine wp_callW 35 #[.string e.nm, .string n] (by kernel_rfl) _ (compare_any _ _ _) (by kernel_rfl) ?_
  rintro e wq ⟨rfl, hwq⟩
  rw [hwq]
  clear hwq wq
  refine ⟨.int .i64 (cmpB e.nm n), rfl, ?_⟩
  try simp only [pA, pB, p1, p2, p3]
  refine tK (.int .i64 (cmpB e.nm n)) ?_
  try simp only [pA, pB, p1, p2, p3]
  refine WL.nil ?_
  try simp only [pA, pB, p1, p2, p3]
  go_wp2
  rw [HC.out]
  exact ⟨rfl, HF.out.kept⟩
set_option maxRecDepth 100000 in
set_option maxHeartbeats 4000000 in
theorem lCmp_any (e : La) (n : Int) (w : World) : Calls Try.prog 46 #[.agg e.cells, .int .i64 n] w (fun e' w' => e' = .returned (.int .i64 (cmpI e.cl n)) ∧ Kept No w w') := by
  obtain ⟨C, hC⟩ : ∃ C : Ending → World → Prop, C = (fun e' w' => e' = .returned (.int .i64 (cmpI e.cl n)) ∧ Kept No w w') := ⟨_, rfl⟩
  have HC : Hid (C = (fun e' w' => e' = .returned (.int .i64 (cmpI e.cl n)) ∧ Kept No w w')) := hC
  rw [← hC]
  clear hC
  have HF : Hid (Fr No w w []) := Fr.start _ _
  go_enter Try.func46, Try.ntmps46
  go_upto_region 0 with fail
  refine WL.start ?_
  refine wp_runW (.pointer (some ⟨w.heap.size, 0, none⟩)) (w.alloc (.cells (La.cells e) 67)) (exec_box 67 _ rfl (La.cells e) (by kernel_rfl)) (by kernel_rfl) ?_
  try simp only [pA, pB, p1, p2, p3]
  have HF : Hid (Fr No w (w.alloc (.cells (La.cells e) 67)) [(w.heap.size, 67, La.cells e)]) := HF.out.alloc _ _
  generalize w.alloc (.cells (La.cells e) 67) = wk2 at HF ⊢
  generalize w.heap.size = gk1 at HF ⊢
  refine tK (.int .i64 0) ?_
  try simp only [pA, pB, p1, p2, p3]
  refine WL.nil ?_
  try simp only [pA, pB, p1, p2, p3]
  go_upto_region 1 with fail
  refine WL.start ?_
  refine tK (.pointer (some ⟨gk1, 0, none⟩)) ?_
  try simp only [pA, pB, p1, p2, p3]
  refine tW (.int .i64 e.cl) (exec_load 3 _ rfl ⟨gk1, 0, none⟩ (by kernel_rfl) (.int .i64 e.cl) (ld3 ((HF.out.box 0 _ _ _ rfl).cell 0))) ?_
  try simp only [pA, pB, p1, p2, p3]
  refine tK (.int .i64 n) ?_
  try simp only [pA, pB, p1, p2, p3]
  refine wp_callW 47 #[.int .i64 e.cl, .int .i64 n] (by kernel_rfl) _ (cmp_any _ _ _) (by kernel_rfl) ?_
  rintro e wq ⟨rfl, hwq⟩
  rw [hwq]
  clear hwq wq
  refine ⟨.int .i64 (cmpI e.cl n), rfl, ?_⟩
  try simp only [pA, pB, p1, p2, p3]
  refine tK (.int .i64 (cmpI e.cl n)) ?_
  try simp only [pA, pB, p1, p2, p3]
  refine WL.nil ?_
  try simp only [pA, pB, p1, p2, p3]
  go_wp2
  rw [HC.out]
  exact ⟨rfl, HF.out.kept⟩
set_option maxRecDepth 100000 in
set_option maxHeartbeats 4000000 in
theorem eSrch_any (a : Option Addr) (m cap : Nat) (es : List En) (n : ByteArray) (w : World) (hm : es.length = m) (hb : m ≤ 140737488355328) (hr : Es w a es) : Calls Try.prog 33 #[.slice a m cap, .string n, .func (.func 34) #[] #[]] w (fun e w' => e = .returned (.tuple #[.int .i64 (eIx es n : Nat), .bool (eIs es n)]) ∧ Kept No w w') := by
  obtain ⟨C, hC⟩ : ∃ C : Ending → World → Prop, C = (fun e w' => e = .returned (.tuple #[.int .i64 (eIx es n : Nat), .bool (eIs es n)]) ∧ Kept No w w') := ⟨_, rfl⟩
  have HC : Hid (C = (fun e w' => e = .returned (.tuple #[.int .i64 (eIx es n : Nat), .bool (eIs es n)]) ∧ Kept No w w')) := hC
  rw [← hC]
  clear hC
  have HM : Hid (es.length = m) := hm
  have HR : Hid (Es w a es) := hr
  obtain ⟨ix, hix⟩ : ∃ ix, ix = eIx es n := ⟨_, rfl⟩
  have H1X : Hid (ix = eIx es n) := hix
  have hle : ix ≤ m := by rw [hix, ← hm]; exact srch_le _ _
  have HLE : Hid (ix ≤ m) := hle
  clear hm hr hix hle
  go_enter Try.func33, Try.ntmps33
  go_wp2
  go_loopw [9, 10] (fun v9 v10 wr => ∃ lo hi : Nat, v9 = .int .i64 lo ∧ v10 = .int .i64 hi ∧ lo ≤ hi ∧ hi ≤ m ∧ Hid (∃ f, hi - lo ≤ f ∧ bs (eLt es n) f lo hi = ix) ∧ Hid (Kept No w wr)) (fun a b _ => ((intOf b) - (intOf a)).toNat)
  case atStart => exact ⟨0, m, by go_num, rfl, by omega, by omega, ⟨m, by omega, by rw [H1X.out]; show _ = srch _ _; rw [HM.out]; rfl⟩, Kept.refl _ _⟩
  case round =>
    obtain ⟨lo, hi, rfl, rfl, h1, h2, HB, HK⟩ := hrel
    by_cases hlt : lo < hi
    · have hlt' : (lo : Int) < (hi : Int) := by omega
      have hmid : (lo + hi) / 2 < m := by omega
      obtain ⟨b, off, rfl, hcell⟩ := Es.at (RowsAt.no HR.out HK.out : Es wr a es) (i := (lo + hi) / 2) (by rw [HM.out]; exact hmid)
      have HCE : Hid (∀ (j : Nat) v, (eAt es ((lo + hi) / 2)).cs[j]? = some v → wr.cell? ⟨b, off + ((lo + hi) / 2) * 4 + j, none⟩ = some v) := hcell
      clear hcell
      have HP : Hid (eLt es n ((lo + hi) / 2) = decide (cmpB (eAt es ((lo + hi) / 2)).nm n < 0)) := rfl
      generalize eAt es ((lo + hi) / 2) = e at HCE HP
      go_upto_region 5 with fail
      have hq : (Value.int IntKind.i64 (((lo : Int) + (hi : Int)) / 2)) = .int .i64 (((lo + hi) / 2 : Nat) : Int) := by congr 1
      try simp only [hq]
      generalize hmd : (lo + hi) / 2 = md at hmid HCE HP hq ⊢
      have HMD : Hid ((lo + hi) / 2 = md) := hmd
      clear hmd
      refine WL.start ?_
      refine tK (.func (.func 34) #[] #[]) ?_
      try simp only [pA, pB, p1, p2, p3]
      refine tK (.slice (some ⟨b, off, none⟩) m cap) ?_
      try simp only [pA, pB, p1, p2, p3]
      refine tK (.int .i64 (md : Nat)) ?_
      try simp only [pA, pB, p1, p2, p3]
      refine tW (.pointer (some ⟨b, off + md * 4, none⟩)) (exec_ixA 23 4 Try.und22e Try.size22e _ _ rfl b off m cap md (by kernel_rfl) (by kernel_rfl) hmid) ?_
      try simp only [pA, pB, p1, p2, p3]
      refine tW (.agg e.cells) (exec_load 34 _ rfl ⟨b, off + md * 4, none⟩ (by kernel_rfl) _ (load_E HCE.out)) ?_
      try simp only [pA, pB, p1, p2, p3]
      refine tK (.string n) ?_
      try simp only [pA, pB, p1, p2, p3]
      refine wp_callW 34 #[.agg e.cells, .string n] (by kernel_rfl) _ (eCmp_any e n wr) (by kernel_rfl) ?_
      rintro e' w7 ⟨rfl, hk7⟩
      have HK7 : Hid (Kept No w w7) := HK.out.then hk7
      refine ⟨.int .i64 (cmpB e.nm n), rfl, ?_⟩
      clear hk7
      try simp only [pA, pB, p1, p2, p3]
      cases hb' : decide (cmpB e.nm n < 0)
      · refine tW (.bool false) (exec_bin .lss 3 _ _ _ rfl (.int .i64 (cmpB e.nm n)) (.int .i64 0) (.bool false) (by kernel_rfl) (by kernel_rfl) (by kernel_rfl) (by rw [b_lss, hb'])) ?_
        try simp only [pA, pB, p1, p2, p3]
        refine WL.nil ?_
        try simp only [pA, pB, p1, p2, p3]
        have HB2 : Hid (∃ f, md - lo ≤ f ∧ bs (eLt es n) f lo md = ix) := by
          obtain ⟨f, hf, hx⟩ := HB.out
          obtain ⟨f', hf', hx'⟩ := bs_no (p := eLt es n) hlt hf (by rw [HMD.out, HP.out]; exact hb')
          rw [HMD.out] at hf' hx'
          exact ⟨f', hf', by rw [← hx', hx]⟩
        have hm1 : lo ≤ md ∧ md < hi := by have := HMD.out; omega
        clear HB HP HCE hb' hq
        go_wp2
        go_roundw
        case rel => exact ⟨lo, md, rfl, rfl, hm1.1, by omega, HB2, HK7⟩
        case measure => simp [intOf]; omega
      · refine tW (.bool true) (exec_bin .lss 3 _ _ _ rfl (.int .i64 (cmpB e.nm n)) (.int .i64 0) (.bool true) (by kernel_rfl) (by kernel_rfl) (by kernel_rfl) (by rw [b_lss, hb'])) ?_
        try simp only [pA, pB, p1, p2, p3]
        refine WL.nil ?_
        try simp only [pA, pB, p1, p2, p3]
        have HB2 : Hid (∃ f, hi - (md + 1) ≤ f ∧ bs (eLt es n) f (md + 1) hi = ix) := by
          obtain ⟨f, hf, hx⟩ := HB.out
          obtain ⟨f', hf', hx'⟩ := bs_yes (p := eLt es n) hlt hf (by rw [HMD.out, HP.out]; exact hb')
          rw [HMD.out] at hf' hx'
          exact ⟨f', hf', by rw [← hx', hx]⟩
        have hm1 : lo ≤ md ∧ md < hi := by have := HMD.out; omega
        clear HB HP HCE hb' hq
        go_wp2
        go_roundw
        case rel => exact ⟨md + 1, hi, by go_num, rfl, by omega, by omega, HB2, HK7⟩
        case measure => simp [intOf]; omega
    · have hlt' : ¬ (lo : Int) < (hi : Int) := by omega
      obtain rfl : lo = hi := by omega
      obtain rfl : ix = lo := by
        obtain ⟨f, _, hx⟩ := HB.out
        rw [bs_end _ _ _ _ hlt] at hx
        exact hx.symm
      clear HB hlt h1 h2 HLE
      have H1S : Hid (eIs es n = (decide (ix < m) && (cmpB (eAt es ix).nm n == 0))) := by show eIs es n = _; unfold eIs; rw [← H1X.out, HM.out]
      by_cases hlm : ix < m
      · have hlm' : (ix : Int) < (m : Int) := by omega
        obtain ⟨b, off, rfl, hcell⟩ := Es.at (RowsAt.no HR.out HK.out : Es wr a es) (i := ix) (by rw [HM.out]; exact hlm)
        have HCE : Hid (∀ (j : Nat) v, (eAt es ix).cs[j]? = some v → wr.cell? ⟨b, off + ix * 4 + j, none⟩ = some v) := hcell
        clear hcell
        generalize eAt es ix = e at HCE H1S
        go_upto_region 8 with fail
        refine WL.start ?_
        refine tK (.int .i64 (ix : Nat)) ?_
        try simp only [pA, pB, p1, p2, p3]
        refine tK (.int .i64 (ix : Nat)) ?_
        try simp only [pA, pB, p1, p2, p3]
        refine tK (.int .i64 (m : Nat)) ?_
        try simp only [pA, pB, p1, p2, p3]
        refine tW (.bool true) (exec_bin .lss 3 _ _ _ rfl (.int .i64 (ix : Nat)) (.int .i64 (m : Nat)) (.bool true) (by kernel_rfl) (by kernel_rfl) (by kernel_rfl) (by rw [b_lss, decide_eq_true hlm'])) ?_
        try simp only [pA, pB, p1, p2, p3]
        refine tK (.bool true) ?_
        try simp only [pA, pB, p1, p2, p3]
        refine tK (.func (.func 34) #[] #[]) ?_
        try simp only [pA, pB, p1, p2, p3]
        refine tK (.slice (some ⟨b, off, none⟩) m cap) ?_
        try simp only [pA, pB, p1, p2, p3]
        refine tK (.int .i64 (ix : Nat)) ?_
        try simp only [pA, pB, p1, p2, p3]
        refine tW (.pointer (some ⟨b, off + ix * 4, none⟩)) (exec_ixA 23 4 Try.und22e Try.size22e _ _ rfl b off m cap ix (by kernel_rfl) (by kernel_rfl) hlm) ?_
        try simp only [pA, pB, p1, p2, p3]
        refine tW (.agg e.cells) (exec_load 34 _ rfl ⟨b, off + ix * 4, none⟩ (by kernel_rfl) _ (load_E HCE.out)) ?_
        try simp only [pA, pB, p1, p2, p3]
        refine tK (.string n) ?_
        try simp only [pA, pB, p1, p2, p3]
        refine wp_callW 34 #[.agg e.cells, .string n] (by kernel_rfl) _ (eCmp_any e n wr) (by kernel_rfl) ?_
        rintro e' w7 ⟨rfl, hk7⟩
        have HK7 : Hid (Kept No w w7) := HK.out.then hk7
        refine ⟨.int .i64 (cmpB e.nm n), rfl, ?_⟩
        clear hk7
        try simp only [pA, pB, p1, p2, p3]
        refine tW (.bool (cmpB e.nm n == 0)) (exec_bin .eql 3 _ _ _ rfl (.int .i64 (cmpB e.nm n)) (.int .i64 0) (.bool (cmpB e.nm n == 0)) (by kernel_rfl) (by kernel_rfl) (by kernel_rfl) (b_eql _ _ _)) ?_
        try simp only [pA, pB, p1, p2, p3]
        refine tK (.bool (cmpB e.nm n == 0)) ?_
        try simp only [pA, pB, p1, p2, p3]
        refine tK (.int .i64 (ix : Nat)) ?_
        try simp only [pA, pB, p1, p2, p3]
        refine tK (.bool (cmpB e.nm n == 0)) ?_
        try simp only [pA, pB, p1, p2, p3]
        refine WL.nil ?_
        try simp only [pA, pB, p1, p2, p3]
        generalize (cmpB e.nm n == 0) = z at H1S ⊢
        go_wp2
        rw [HC.out]
        exact ⟨by rw [← H1X.out, H1S.out, decide_eq_true hlm]; rfl, HK7.out⟩
      · have hlm' : ¬ (ix : Int) < (m : Int) := by omega
        generalize (cmpB (eAt es ix).nm n == 0) = z at H1S
        go_wp2
        rw [HC.out]
        exact ⟨by rw [← H1X.out, H1S.out, decide_eq_false hlm]; rfl, HK.out⟩
set_option maxRecDepth 100000 in
set_option maxHeartbeats 4000000 in
theorem lSrch_any (a : Option Addr) (m cap : Nat) (es : List La) (n : Int) (w : World) (hm : es.length = m) (hb : m ≤ 140737488355328) (hr : Ls w a es) : Calls Try.prog 45 #[.slice a m cap, .int .i64 n, .func (.func 46) #[] #[]] w (fun e w' => e = .returned (.tuple #[.int .i64 (lIx es n : Nat), .bool (lIs es n)]) ∧ Kept No w w') := by
  obtain ⟨C, hC⟩ : ∃ C : Ending → World → Prop, C = (fun e w' => e = .returned (.tuple #[.int .i64 (lIx es n : Nat), .bool (lIs es n)]) ∧ Kept No w w') := ⟨_, rfl⟩
  have HC : Hid (C = (fun e w' => e = .returned (.tuple #[.int .i64 (lIx es n : Nat), .bool (lIs es n)]) ∧ Kept No w w')) := hC
  rw [← hC]
  clear hC
  have HM : Hid (es.length = m) := hm
  have HR : Hid (Ls w a es) := hr
  obtain ⟨ix, hix⟩ : ∃ ix, ix = lIx es n := ⟨_, rfl⟩
  have H1X : Hid (ix = lIx es n) := hix
  have hle : ix ≤ m := by rw [hix, ← hm]; exact srch_le _ _
  have HLE : Hid (ix ≤ m) := hle
  clear hm hr hix hle
  go_enter Try.func45, Try.ntmps45
  go_wp2
  go_loopw [9, 10] (fun v9 v10 wr => ∃ lo hi : Nat, v9 = .int .i64 lo ∧ v10 = .int .i64 hi ∧ lo ≤ hi ∧ hi ≤ m ∧ Hid (∃ f, hi - lo ≤ f ∧ bs (lLt es n) f lo hi = ix) ∧ Hid (Kept No w wr)) (fun a b _ => ((intOf b) - (intOf a)).toNat)
  case atStart => exact ⟨0, m, by go_num, rfl, by omega, by omega, ⟨m, by omega, by rw [H1X.out]; show _ = srch _ _; rw [HM.out]; rfl⟩, Kept.refl _ _⟩
  case round =>
    obtain ⟨lo, hi, rfl, rfl, h1, h2, HB, HK⟩ := hrel
    by_cases hlt : lo < hi
    · have hlt' : (lo : Int) < (hi : Int) := by omega
      have hmid : (lo + hi) / 2 < m := by omega
      obtain ⟨b, off, rfl, hcell⟩ := Ls.at (RowsAt.no HR.out HK.out : Ls wr a es) (i := (lo + hi) / 2) (by rw [HM.out]; exact hmid)
      have HCE : Hid (∀ (j : Nat) v, (lAt es ((lo + hi) / 2)).cs[j]? = some v → wr.cell? ⟨b, off + ((lo + hi) / 2) * 7 + j, none⟩ = some v) := hcell
      clear hcell
      have HP : Hid (lLt es n ((lo + hi) / 2) = decide (cmpI (lAt es ((lo + hi) / 2)).cl n < 0)) := rfl
      generalize lAt es ((lo + hi) / 2) = e at HCE HP
      go_upto_region 5 with fail
      have hq : (Value.int IntKind.i64 (((lo : Int) + (hi : Int)) / 2)) = .int .i64 (((lo + hi) / 2 : Nat) : Int) := by congr 1
      try simp only [hq]
      generalize hmd : (lo + hi) / 2 = md at hmid HCE HP hq ⊢
      have HMD : Hid ((lo + hi) / 2 = md) := hmd
      clear hmd
      refine WL.start ?_
      refine tK (.func (.func 46) #[] #[]) ?_
      try simp only [pA, pB, p1, p2, p3]
      refine tK (.slice (some ⟨b, off, none⟩) m cap) ?_
      try simp only [pA, pB, p1, p2, p3]
      refine tK (.int .i64 (md : Nat)) ?_
      try simp only [pA, pB, p1, p2, p3]
      refine tW (.pointer (some ⟨b, off + md * 7, none⟩)) (exec_ixA 24 7 Try.und23e Try.size23e _ _ rfl b off m cap md (by kernel_rfl) (by kernel_rfl) hmid) ?_
      try simp only [pA, pB, p1, p2, p3]
      refine tW (.agg e.cells) (exec_load 67 _ rfl ⟨b, off + md * 7, none⟩ (by kernel_rfl) _ (load_L HCE.out)) ?_
      try simp only [pA, pB, p1, p2, p3]
      refine tK (.int .i64 n) ?_
      try simp only [pA, pB, p1, p2, p3]
      refine wp_callW 46 #[.agg e.cells, .int .i64 n] (by kernel_rfl) _ (lCmp_any e n wr) (by kernel_rfl) ?_
      rintro e' w7 ⟨rfl, hk7⟩
      have HK7 : Hid (Kept No w w7) := HK.out.then hk7
      refine ⟨.int .i64 (cmpI e.cl n), rfl, ?_⟩
      clear hk7
      try simp only [pA, pB, p1, p2, p3]
      cases hb' : decide (cmpI e.cl n < 0)
      · refine tW (.bool false) (exec_bin .lss 3 _ _ _ rfl (.int .i64 (cmpI e.cl n)) (.int .i64 0) (.bool false) (by kernel_rfl) (by kernel_rfl) (by kernel_rfl) (by rw [b_lss, hb'])) ?_
        try simp only [pA, pB, p1, p2, p3]
        refine WL.nil ?_
        try simp only [pA, pB, p1, p2, p3]
        have HB2 : Hid (∃ f, md - lo ≤ f ∧ bs (lLt es n) f lo md = ix) := by
          obtain ⟨f, hf, hx⟩ := HB.out
          obtain ⟨f', hf', hx'⟩ := bs_no (p := lLt es n) hlt hf (by rw [HMD.out, HP.out]; exact hb')
          rw [HMD.out] at hf' hx'
          exact ⟨f', hf', by rw [← hx', hx]⟩
        have hm1 : lo ≤ md ∧ md < hi := by have := HMD.out; omega
        clear HB HP HCE hb' hq
        go_wp2
        go_roundw
        case rel => exact ⟨lo, md, rfl, rfl, hm1.1, by omega, HB2, HK7⟩
        case measure => simp [intOf]; omega
      · refine tW (.bool true) (exec_bin .lss 3 _ _ _ rfl (.int .i64 (cmpI e.cl n)) (.int .i64 0) (.bool true) (by kernel_rfl) (by kernel_rfl) (by kernel_rfl) (by rw [b_lss, hb'])) ?_
        try simp only [pA, pB, p1, p2, p3]
        refine WL.nil ?_
        try simp only [pA, pB, p1, p2, p3]
        have HB2 : Hid (∃ f, hi - (md + 1) ≤ f ∧ bs (lLt es n) f (md + 1) hi = ix) := by
          obtain ⟨f, hf, hx⟩ := HB.out
          obtain ⟨f', hf', hx'⟩ := bs_yes (p := lLt es n) hlt hf (by rw [HMD.out, HP.out]; exact hb')
          rw [HMD.out] at hf' hx'
          exact ⟨f', hf', by rw [← hx', hx]⟩
        have hm1 : lo ≤ md ∧ md < hi := by have := HMD.out; omega
        clear HB HP HCE hb' hq
        go_wp2
        go_roundw
        case rel => exact ⟨md + 1, hi, by go_num, rfl, by omega, by omega, HB2, HK7⟩
        case measure => simp [intOf]; omega
    · have hlt' : ¬ (lo : Int) < (hi : Int) := by omega
      obtain rfl : lo = hi := by omega
      obtain rfl : ix = lo := by
        obtain ⟨f, _, hx⟩ := HB.out
        rw [bs_end _ _ _ _ hlt] at hx
        exact hx.symm
      clear HB hlt h1 h2 HLE
      have H1S : Hid (lIs es n = (decide (ix < m) && (cmpI (lAt es ix).cl n == 0))) := by show lIs es n = _; unfold lIs; rw [← H1X.out, HM.out]
      by_cases hlm : ix < m
      · have hlm' : (ix : Int) < (m : Int) := by omega
        obtain ⟨b, off, rfl, hcell⟩ := Ls.at (RowsAt.no HR.out HK.out : Ls wr a es) (i := ix) (by rw [HM.out]; exact hlm)
        have HCE : Hid (∀ (j : Nat) v, (lAt es ix).cs[j]? = some v → wr.cell? ⟨b, off + ix * 7 + j, none⟩ = some v) := hcell
        clear hcell
        generalize lAt es ix = e at HCE H1S
        go_upto_region 8 with fail
        refine WL.start ?_
        refine tK (.int .i64 (ix : Nat)) ?_
        try simp only [pA, pB, p1, p2, p3]
        refine tK (.int .i64 (ix : Nat)) ?_
        try simp only [pA, pB, p1, p2, p3]
        refine tK (.int .i64 (m : Nat)) ?_
        try simp only [pA, pB, p1, p2, p3]
        refine tW (.bool true) (exec_bin .lss 3 _ _ _ rfl (.int .i64 (ix : Nat)) (.int .i64 (m : Nat)) (.bool true) (by kernel_rfl) (by kernel_rfl) (by kernel_rfl) (by rw [b_lss, decide_eq_true hlm'])) ?_
        try simp only [pA, pB, p1, p2, p3]
        refine tK (.bool true) ?_
        try simp only [pA, pB, p1, p2, p3]
        refine tK (.func (.func 46) #[] #[]) ?_
        try simp only [pA, pB, p1, p2, p3]
        refine tK (.slice (some ⟨b, off, none⟩) m cap) ?_
        try simp only [pA, pB, p1, p2, p3]
        refine tK (.int .i64 (ix : Nat)) ?_
        try simp only [pA, pB, p1, p2, p3]
        refine tW (.pointer (some ⟨b, off + ix * 7, none⟩)) (exec_ixA 24 7 Try.und23e Try.size23e _ _ rfl b off m cap ix (by kernel_rfl) (by kernel_rfl) hlm) ?_
        try simp only [pA, pB, p1, p2, p3]
        refine tW (.agg e.cells) (exec_load 67 _ rfl ⟨b, off + ix * 7, none⟩ (by kernel_rfl) _ (load_L HCE.out)) ?_
        try simp only [pA, pB, p1, p2, p3]
        refine tK (.int .i64 n) ?_
        try simp only [pA, pB, p1, p2, p3]
        refine wp_callW 46 #[.agg e.cells, .int .i64 n] (by kernel_rfl) _ (lCmp_any e n wr) (by kernel_rfl) ?_
        rintro e' w7 ⟨rfl, hk7⟩
        have HK7 : Hid (Kept No w w7) := HK.out.then hk7
        refine ⟨.int .i64 (cmpI e.cl n), rfl, ?_⟩
        clear hk7
        try simp only [pA, pB, p1, p2, p3]
        refine tW (.bool (cmpI e.cl n == 0)) (exec_bin .eql 3 _ _ _ rfl (.int .i64 (cmpI e.cl n)) (.int .i64 0) (.bool (cmpI e.cl n == 0)) (by kernel_rfl) (by kernel_rfl) (by kernel_rfl) (b_eql _ _ _)) ?_
        try simp only [pA, pB, p1, p2, p3]
        refine tK (.bool (cmpI e.cl n == 0)) ?_
        try simp only [pA, pB, p1, p2, p3]
        refine tK (.int .i64 (ix : Nat)) ?_
        try simp only [pA, pB, p1, p2, p3]
        refine tK (.bool (cmpI e.cl n == 0)) ?_
        try simp only [pA, pB, p1, p2, p3]
        refine WL.nil ?_
        try simp only [pA, pB, p1, p2, p3]
        generalize (cmpI e.cl n == 0) = z at H1S ⊢
        go_wp2
        rw [HC.out]
        exact ⟨by rw [← H1X.out, H1S.out, decide_eq_true hlm]; rfl, HK7.out⟩
      · have hlm' : ¬ (ix : Int) < (m : Int) := by omega
        generalize (cmpI (lAt es ix).cl n == 0) = z at H1S
        go_wp2
        rw [HC.out]
        exact ⟨by rw [← H1X.out, H1S.out, decide_eq_false hlm]; rfl, HK.out⟩
set_option maxRecDepth 100000 in
set_option maxHeartbeats 4000000 in
theorem entryAt_any (a : Option Addr) (m cap : Nat) (es : List En) (n : ByteArray) (w : World) (hm : es.length = m) (hb : m ≤ 140737488355328) (hr : Es w a es) : Calls Try.prog 28 #[.slice a m cap, .string n] w (fun e w' => e = .returned (.tuple #[.int .i64 (eIx es n : Nat), .bool (eIs es n)]) ∧ Kept No w w') := by
  obtain ⟨C, hC⟩ : ∃ C : Ending → World → Prop, C = (fun e w' => e = .returned (.tuple #[.int .i64 (eIx es n : Nat), .bool (eIs es n)]) ∧ Kept No w w') := ⟨_, rfl⟩
  have HC : Hid (C = (fun e w' => e = .returned (.tuple #[.int .i64 (eIx es n : Nat), .bool (eIs es n)]) ∧ Kept No w w')) := hC
  rw [← hC]
  clear hC
  have HX : Hid _ := @eSrch_any a m cap es n w hm hb hr
  clear hm hb hr
  generalize eIx es n = x at HC HX
  generalize eIs es n = y at HC HX
  go_enter Try.func28, Try.ntmps28
  go_wp2_with (go_at_call 33
               refine Calls.mono HX.out ?_
               rintro e w1 ⟨rfl, hk⟩
               have HK : Hid (Kept No w w1) := hk
               clear hk)
  rw [HC.out]
  exact ⟨rfl, HK.out⟩
set_option maxRecDepth 100000 in
set_option maxHeartbeats 4000000 in
theorem lastAt_any (a : Option Addr) (m cap : Nat) (es : List La) (n : Int) (w : World) (hm : es.length = m) (hb : m ≤ 140737488355328) (hr : Ls w a es) : Calls Try.prog 41 #[.slice a m cap, .int .i64 n] w (fun e w' => e = .returned (.tuple #[.int .i64 (lIx es n : Nat), .bool (lIs es n)]) ∧ Kept No w w') := by
  obtain ⟨C, hC⟩ : ∃ C : Ending → World → Prop, C = (fun e w' => e = .returned (.tuple #[.int .i64 (lIx es n : Nat), .bool (lIs es n)]) ∧ Kept No w w') := ⟨_, rfl⟩
  have HC : Hid (C = (fun e w' => e = .returned (.tuple #[.int .i64 (lIx es n : Nat), .bool (lIs es n)]) ∧ Kept No w w')) := hC
  rw [← hC]
  clear hC
  have HX : Hid _ := @lSrch_any a m cap es n w hm hb hr
  clear hm hb hr
  generalize lIx es n = x at HC HX
  generalize lIs es n = y at HC HX
  go_enter Try.func41, Try.ntmps41
  go_wp2_with (go_at_call 45
               refine Calls.mono HX.out ?_
               rintro e w1 ⟨rfl, hk⟩
               have HK : Hid (Kept No w w1) := hk
               clear hk)
  rw [HC.out]
  exact ⟨rfl, HK.out⟩

end Go.Proofs.Ytfemlnfknebalab
