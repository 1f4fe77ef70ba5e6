import Derived.Test.YtcgnbpaaalmkoabCb
namespace Go.Proofs.Ytcgnbpaaalmkoab
open Go.RowKit
set_option linter.unusedVariables false
set_option linter.unusedSimpArgs false

/-- What is held of an instance; the commands of a stretch of the row. -/
def atF (q : Int) : List Pl → In
  | [] => inZ
  | p :: r => if p.n = q then p.i else atF q r
def cmdAt (ps : List Pl) (q : Int) : Cm := if (atF q ps).d then (atF q ps).c else cZ
theorem atF_cons (q : Int) (p : Pl) (r : List Pl) : atF q (p :: r) = if p.n = q then p.i else atF q r := rfl
theorem at_far : ∀ (ps : List Pl) (q v : Int), RiseL v ps → q ≤ v → atF q ps = inZ
  | [], q, v, _, _ => rfl
  | p :: r, q, v, h, hv => by
    have h1 := h.1
    rw [atF_cons, if_neg (by omega)]
    exact at_far r q p.n h.2 (by omega)
theorem at_found : ∀ (ps : List Pl) (q : Int) (i : Nat), (∀ j, j < i → (pAt ps j).n ≠ q) → i < ps.length → (pAt ps i).n = q → atF q ps = (pAt ps i).i
  | [], q, i, _, hi, _ => by simp at hi
  | p :: r, q, 0, _, _, hn => by
    have hn : p.n = q := hn
    rw [atF_cons, if_pos hn]; rfl
  | p :: r, q, i + 1, h, hi, hn => by
    have h0 : p.n ≠ q := h 0 (by omega)
    rw [atF_cons, if_neg h0]
    exact at_found r q i (fun j hj => h (j + 1) (by omega)) (by simpa using hi) hn
theorem at_none : ∀ (ps : List Pl) (q : Int), (∀ j, j < ps.length → (pAt ps j).n ≠ q) → atF q ps = inZ
  | [], q, _ => rfl
  | p :: r, q, h => by
    have h0 : p.n ≠ q := h 0 (by simp)
    rw [atF_cons, if_neg h0]
    exact at_none r q (fun j hj => h (j + 1) (by simp only [List.length_cons]; omega))
def foldD (f : Int) (c : Nat) (l : List (Int × Cm)) (acc : List Cm) : List Cm := l.foldl (fun acc x => if f ≤ x.1 ∧ x.1 - f < c then acc.set (x.1 - f).toNat x.2 else acc) acc
theorem foldD_cons (f : Int) (c : Nat) (x : Int × Cm) (l : List (Int × Cm)) (acc : List Cm) : foldD f c (x :: l) acc = foldD f c l (if f ≤ x.1 ∧ x.1 - f < c then acc.set (x.1 - f).toNat x.2 else acc) := rfl
theorem foldD_at (f : Int) (c : Nat) : ∀ (ps : List Pl) (v : Int) (acc : List Cm), RiseL v ps → acc.length = c → ∀ j, j < c → (foldD f c (decd ps) acc)[j]?.getD cZ = if (atF (f + j) ps).d then (atF (f + j) ps).c else acc[j]?.getD cZ
  | [], v, acc, _, _, j, _ => by
    have : decd [] = [] := rfl
    rw [this]
    show acc[j]?.getD cZ = if (atF (f + j) []).d then _ else _
    rw [if_neg (by show ¬ (inZ.d = true); simp [inZ])]
  | p :: r, v, acc, h, hl, j, hj => by
    have h2 := h.2
    by_cases hd : p.i.d = true
    · have hdec : decd (p :: r) = (p.n, p.i.c) :: decd r := by simp [decd, hd]
      rw [hdec, foldD_cons]
      by_cases hn : p.n = f + j
      · have hin : f ≤ p.n ∧ p.n - f < c := by omega
        rw [if_pos hin, foldD_at f c r p.n _ h2 (by rw [List.length_set, hl]) j hj]
        rw [at_far r (f + j) p.n h2 (by omega), if_neg (by show ¬ (inZ.d = true); simp [inZ])]
        rw [atF_cons, if_pos hn, if_pos hd]
        have e : (p.n - f).toNat = j := by omega
        show (acc.set (p.n - f).toNat p.i.c)[j]?.getD cZ = p.i.c
        rw [e, List.getElem?_set]
        simp [hl, hj]
      · rw [foldD_at f c r p.n _ h2 (by split <;> simp [hl]) j hj]
        rw [atF_cons, if_neg hn]
        congr 1
        split
        · rename_i hin
          show (acc.set (p.n - f).toNat p.i.c)[j]?.getD cZ = acc[j]?.getD cZ
          have hin : f ≤ p.n ∧ p.n - f < c := hin
          rw [List.getElem?_set, if_neg (by omega)]
        · rfl
    · have hdec : decd (p :: r) = decd r := by simp [decd, hd]
      rw [hdec, foldD_at f c r p.n acc h2 hl j hj]
      rw [atF_cons]
      by_cases hn : p.n = f + j
      · rw [if_pos hn, at_far r (f + j) p.n h2 (by omega), if_neg (by show ¬ (inZ.d = true); simp [inZ]), if_neg hd]
      · rw [if_neg hn]
theorem decF_tab (f : Int) (c : Nat) (ps : List Pl) (v : Int) (h : RiseL v ps) : decF f c (decd ps) = tab c (fun j => cmdAt ps (f + j)) := by
  have hlen : (decF f c (decd ps)).length = c := decF_len _ _ _
  apply List.ext_getElem?
  intro j
  by_cases hj : j < c
  · rw [tab_get hj]
    have h1 := foldD_at f c ps v (List.replicate c cZ) h (by simp) j hj
    have h2 : (decF f c (decd ps))[j]? = some ((decF f c (decd ps))[j]?.getD cZ) := by rw [List.getElem?_eq_getElem (by omega)]; rfl
    rw [h2]
    have h3 : (decF f c (decd ps))[j]?.getD cZ = _ := h1
    rw [h3]
    unfold cmdAt
    simp [hj]
  · rw [List.getElem?_eq_none (by omega), List.getElem?_eq_none (by rw [tab_len]; omega)]
theorem ret_int2 {a b : Int} (h : a = b) : Ending.returned (.int .i64 a) = .returned (.int .i64 b) := by rw [h]
theorem take_all {ps : List Pl} {n : Nat} (h : ps.length = n) : ps.take n = ps := List.take_of_length_le (by omega)
set_option maxRecDepth 100000 in
set_option maxHeartbeats 4000000 in
theorem refTop_any (h : Hd) (ps : List Pl) (w : World) (hr : RdP w h.r ps) (hm : ps.length ≤ 10000000000000) : Calls Try.prog 24 #[.agg (Hd.cells h)] w (fun e w' => e = .returned (.int .i64 (topF h.k.up (decd ps))) ∧ Kept No w w') := by
  obtain ⟨C, hC⟩ : ∃ C : Ending → World → Prop, C = (fun e w' => e = .returned (.int .i64 (topF h.k.up (decd ps))) ∧ Kept No w w') := ⟨_, rfl⟩
  have HC : Hid (C = (fun e w' => e = .returned (.int .i64 (topF h.k.up (decd ps))) ∧ Kept No w w')) := hC
  rw [← hC]
  clear hC
  have HR : Hid (RdP w h.r ps) := hr
  have HL : Hid (ps.length = h.r.l) := hr.len
  have hn : h.r.l ≤ 10000000000000 := by rw [← hr.len]; exact hm
  clear hr hm
  have HF : Hid (Fr No w w []) := Fr.start _ _
  go_enter Try.func24, Try.ntmps24
  go_upto_region 0 with fail
  refine WL.start ?_
  refine wp_runW (.pointer (some ⟨w.heap.size, 0, none⟩)) (w.alloc (.cells (Hd.cells h) 33)) (exec_box 33 _ rfl (Hd.cells h) (by kernel_rfl)) (by kernel_rfl) ?_
  try simp only [pS]
  have HF : Hid (Fr No w _ [(w.heap.size, 33, Hd.cells h)]) := HF.out.alloc _ _
  generalize w.alloc (.cells (Hd.cells h) 33) = wk2 at HF ⊢
  generalize w.heap.size = gk1 at HF ⊢
  refine tK (.int .i64 0) ?_
  try simp only [pS]
  refine WL.nil ?_
  try simp only [pS]
  go_upto_region 1 with fail
  refine WL.start ?_
  refine tK (.pointer (some ⟨gk1, 3, none⟩)) ?_
  refine tK (.pointer (some ⟨gk1, 3, none⟩)) ?_
  refine tW (.int .i64 h.k.up) (eL 3 _ rfl ⟨gk1, 3, none⟩ (load_one ((HF.out.box 0 _ _ _ rfl).cell 3 |>.trans (by kernel_rfl)) Try.und3 rfl)) ?_
  refine tK (.int .i64 h.k.up) ?_
  try simp only [pS]
  refine WL.nil ?_
  try simp only [pS]
  go_upto_region 2 with fail
  refine WL.start ?_
  refine tK (.int .i64 0) ?_
  try simp only [pS]
  refine WL.nil ?_
  try simp only [pS]
  go_wp2
  go_loopw [3, 4] (fun v3 v4 wr => ∃ (i : Nat) (t : Int), v3 = .int .i64 t ∧ v4 = .int .i64 ((i : Nat) : Int) ∧ i ≤ h.r.l ∧ Hid (t = topF h.k.up (decd (ps.take i))) ∧ Hid (Fr No w wr [(gk1, 33, Hd.cells h)])) (fun _ i _ => h.r.l - (intOf i).toNat)
  case atStart => exact ⟨0, h.k.up, rfl, by go_num, by omega, show h.k.up = topF h.k.up (decd (ps.take 0)) from rfl, HF⟩
  case round =>
    clear HF
    obtain ⟨i, t, rfl, rfl, hi, HP, HF⟩ := hrel
    by_cases hlt : i < h.r.l
    · skip
      obtain ⟨pb, po, hca, hcc⟩ := HR.out.at (i := i) hlt
      have hsl : h.r.v = .slice (some ⟨pb, po, none⟩) h.r.l h.r.k := by unfold Sl.v; rw [hca]
      have hdt := decd_take (ps := ps) (k := i) (by rw [HL.out]; exact hlt)
      obtain ⟨x, hx⟩ : ∃ x, x = pAt ps i := ⟨_, rfl⟩
      rw [← hx] at hcc hdt
      have HX : Hid (x = pAt ps i) := hx
      have HD : Hid (decd (ps.take (i + 1)) = decd (ps.take i) ++ (if x.i.d then [(x.n, x.i.c)] else [])) := hdt
      have c0 : Hid (w.cell? ⟨pb, po + i * 15, none⟩ = some (.int .i64 x.n)) := hcc 0 _ rfl
      have c14 : Hid (w.cell? ⟨pb, po + i * 15 + 1 + 13, none⟩ = some (.bool x.i.d)) := hcc 14 _ rfl
      have ci : Hid (∀ (j : Nat) v, (In.cs x.i)[j]? = some v → w.cell? ⟨pb, po + i * 15 + 1 + j, none⟩ = some v) := fun j v hv => by rw [show po + i * 15 + 1 + j = po + i * 15 + (j + 1) by omega]; exact hcc (j + 1) v hv
      clear hcc hx hdt
      cases hdd : x.i.d
      ·skip
       rw [hdd] at c14 HD
       have HP2 : Hid (t = topF h.k.up (decd (ps.take (i + 1)))) := by show t = _; rw [HD.out]; simpa using HP.out
       go_upto_region 3 with fail
       refine WL.start ?_
       refine tK (.int .i64 ((i : Nat) : Int)) ?_
       refine tK (.pointer (some ⟨gk1, 6, none⟩)) ?_
       refine tW (h.r.v) (eL 31 _ rfl ⟨gk1, 6, none⟩ (load_one ((HF.out.box 0 _ _ _ rfl).cell 6 |>.trans (by kernel_rfl)) Try.und33 rfl)) ?_
       refine tK (.int .i64 ((h.r.l : Nat) : Int)) ?_
       refine tW (.bool true) (eB .lss 3 _ _ _ rfl (.int .i64 ((i : Nat) : Int)) (.int .i64 ((h.r.l : Nat) : Int)) _ (by rw [b_lss, decide_eq_true (by omega)])) ?_
       try simp only [pS]
       refine WL.nil ?_
       try simp only [pS]
       go_upto_region 5 with fail
       refine WL.start ?_
       refine tK (.pointer (some ⟨gk1, 6, none⟩)) ?_
       refine tW (h.r.v) (eL 31 _ rfl ⟨gk1, 6, none⟩ (load_one ((HF.out.box 0 _ _ _ rfl).cell 6 |>.trans (by kernel_rfl)) Try.und33 rfl)) ?_
       refine tK (.int .i64 ((i : Nat) : Int)) ?_
       refine tW (.pointer (some ⟨pb, po + i * 15, none⟩)) (exec_ixA 31 15 Try.und33e Try.size33e _ _ rfl pb po h.r.l h.r.k i (Eq.trans (b := h.r.v) (by kernel_rfl) hsl) (by kernel_rfl) hlt) ?_
       refine tK (.pointer (some ⟨pb, po + i * 15 + 1, none⟩)) ?_
       refine tK (.pointer (some ⟨pb, po + i * 15 + 1 + 13, none⟩)) ?_
       refine tW (.bool false) (eL 4 _ rfl ⟨pb, po + i * 15 + 1 + 13, none⟩ (load_one (HF.out.kept.cell (c14.out) (fun e => e)) Try.und4 rfl)) ?_
       try simp only [pS]
       refine WL.nil ?_
       try simp only [pS]
       go_upto_region 4 with fail
       refine WL.start ?_
       refine tK (.int .i64 ((i : Nat) : Int)) ?_
       refine tW (.int .i64 (((i + 1) : Nat) : Int)) (eB .add 3 _ _ _ rfl (.int .i64 ((i : Nat) : Int)) (.int .i64 1) _ (b_addw _ _ _ (by rw [IntKind.wrap_i64]; omega) _)) ?_
       refine tK (.int .i64 (((i + 1) : Nat) : Int)) ?_
       try simp only [pS]
       refine WL.nil ?_
       try simp only [pS]
       go_wp2
       go_roundw
       case rel => exact ⟨i + 1, t, rfl, by go_num, by omega, HP2, HF⟩
       case measure => simp [intOf]; omega
      ·skip
       rw [hdd] at c14 HD
       have HP2 : Hid (x.n = topF h.k.up (decd (ps.take (i + 1)))) := by show x.n = _; rw [HD.out]; exact (topF_snoc _ _ (x.n, x.i.c)).symm
       go_upto_region 3 with fail
       refine WL.start ?_
       refine tK (.int .i64 ((i : Nat) : Int)) ?_
       refine tK (.pointer (some ⟨gk1, 6, none⟩)) ?_
       refine tW (h.r.v) (eL 31 _ rfl ⟨gk1, 6, none⟩ (load_one ((HF.out.box 0 _ _ _ rfl).cell 6 |>.trans (by kernel_rfl)) Try.und33 rfl)) ?_
       refine tK (.int .i64 ((h.r.l : Nat) : Int)) ?_
       refine tW (.bool true) (eB .lss 3 _ _ _ rfl (.int .i64 ((i : Nat) : Int)) (.int .i64 ((h.r.l : Nat) : Int)) _ (by rw [b_lss, decide_eq_true (by omega)])) ?_
       try simp only [pS]
       refine WL.nil ?_
       try simp only [pS]
       go_upto_region 5 with fail
       refine WL.start ?_
       refine tK (.pointer (some ⟨gk1, 6, none⟩)) ?_
       refine tW (h.r.v) (eL 31 _ rfl ⟨gk1, 6, none⟩ (load_one ((HF.out.box 0 _ _ _ rfl).cell 6 |>.trans (by kernel_rfl)) Try.und33 rfl)) ?_
       refine tK (.int .i64 ((i : Nat) : Int)) ?_
       refine tW (.pointer (some ⟨pb, po + i * 15, none⟩)) (exec_ixA 31 15 Try.und33e Try.size33e _ _ rfl pb po h.r.l h.r.k i (Eq.trans (b := h.r.v) (by kernel_rfl) hsl) (by kernel_rfl) hlt) ?_
       refine tK (.pointer (some ⟨pb, po + i * 15 + 1, none⟩)) ?_
       refine tK (.pointer (some ⟨pb, po + i * 15 + 1 + 13, none⟩)) ?_
       refine tW (.bool true) (eL 4 _ rfl ⟨pb, po + i * 15 + 1 + 13, none⟩ (load_one (HF.out.kept.cell (c14.out) (fun e => e)) Try.und4 rfl)) ?_
       try simp only [pS]
       refine WL.nil ?_
       try simp only [pS]
       go_upto_region 6 with fail
       refine WL.start ?_
       refine tK (.pointer (some ⟨gk1, 6, none⟩)) ?_
       refine tW (h.r.v) (eL 31 _ rfl ⟨gk1, 6, none⟩ (load_one ((HF.out.box 0 _ _ _ rfl).cell 6 |>.trans (by kernel_rfl)) Try.und33 rfl)) ?_
       refine tK (.int .i64 ((i : Nat) : Int)) ?_
       refine tW (.pointer (some ⟨pb, po + i * 15, none⟩)) (exec_ixA 31 15 Try.und33e Try.size33e _ _ rfl pb po h.r.l h.r.k i (Eq.trans (b := h.r.v) (by kernel_rfl) hsl) (by kernel_rfl) hlt) ?_
       refine tK (.pointer (some ⟨pb, po + i * 15, none⟩)) ?_
       refine tW (.int .i64 x.n) (eL 3 _ rfl ⟨pb, po + i * 15, none⟩ (load_one (HF.out.kept.cell (c0.out) (fun e => e)) Try.und3 rfl)) ?_
       refine tK (.int .i64 x.n) ?_
       try simp only [pS]
       refine WL.nil ?_
       try simp only [pS]
       go_upto_region 4 with fail
       refine WL.start ?_
       refine tK (.int .i64 ((i : Nat) : Int)) ?_
       refine tW (.int .i64 (((i + 1) : Nat) : Int)) (eB .add 3 _ _ _ rfl (.int .i64 ((i : Nat) : Int)) (.int .i64 1) _ (b_addw _ _ _ (by rw [IntKind.wrap_i64]; omega) _)) ?_
       refine tK (.int .i64 (((i + 1) : Nat) : Int)) ?_
       try simp only [pS]
       refine WL.nil ?_
       try simp only [pS]
       go_wp2
       go_roundw
       case rel => exact ⟨i + 1, x.n, rfl, by go_num, by omega, HP2, HF⟩
       case measure => simp [intOf]; omega
    · skip
      go_upto_region 3 with fail
      refine WL.start ?_
      refine tK (.int .i64 ((i : Nat) : Int)) ?_
      refine tK (.pointer (some ⟨gk1, 6, none⟩)) ?_
      refine tW (h.r.v) (eL 31 _ rfl ⟨gk1, 6, none⟩ (load_one ((HF.out.box 0 _ _ _ rfl).cell 6 |>.trans (by kernel_rfl)) Try.und33 rfl)) ?_
      refine tK (.int .i64 ((h.r.l : Nat) : Int)) ?_
      refine tW (.bool false) (eB .lss 3 _ _ _ rfl (.int .i64 ((i : Nat) : Int)) (.int .i64 ((h.r.l : Nat) : Int)) _ (by rw [b_lss, decide_eq_false (by omega)])) ?_
      try simp only [pS]
      refine WL.nil ?_
      try simp only [pS]
      go_upto_region 7 with fail
      refine WL.start ?_
      refine tK (.int .i64 t) ?_
      refine tK (.int .i64 t) ?_
      try simp only [pS]
      refine WL.nil ?_
      try simp only [pS]
      go_wp2
      rw [HC.out]
      exact ⟨ret_int2 (HP.out.trans (by rw [take_all (by rw [HL.out]; omega)])), HF.out.kept⟩
set_option maxRecDepth 100000 in
set_option maxHeartbeats 4000000 in
theorem refAt_any (h : Hd) (ps : List Pl) (q : Int) (w : World) (hr : RdP w h.r ps) (hm : ps.length ≤ 10000000000000) : Calls Try.prog 25 #[.agg (Hd.cells h), .int .i64 q] w (fun e w' => e = .returned (.agg (In.cells (atF q ps))) ∧ Kept No w w') := by
  obtain ⟨C, hC⟩ : ∃ C : Ending → World → Prop, C = (fun e w' => e = .returned (.agg (In.cells (atF q ps))) ∧ Kept No w w') := ⟨_, rfl⟩
  have HC : Hid (C = (fun e w' => e = .returned (.agg (In.cells (atF q ps))) ∧ Kept No w w')) := hC
  rw [← hC]
  clear hC
  have HR : Hid (RdP w h.r ps) := hr
  have HL : Hid (ps.length = h.r.l) := hr.len
  have hn : h.r.l ≤ 10000000000000 := by rw [← hr.len]; exact hm
  clear hr hm
  have HF : Hid (Fr No w w []) := Fr.start _ _
  go_enter Try.func25, Try.ntmps25
  go_upto_region 0 with fail
  refine WL.start ?_
  refine wp_runW (.pointer (some ⟨w.heap.size, 0, none⟩)) (w.alloc (.cells (Hd.cells h) 33)) (exec_box 33 _ rfl (Hd.cells h) (by kernel_rfl)) (by kernel_rfl) ?_
  try simp only [pS]
  have HF : Hid (Fr No w _ [(w.heap.size, 33, Hd.cells h)]) := HF.out.alloc _ _
  generalize w.alloc (.cells (Hd.cells h) 33) = wk2 at HF ⊢
  generalize w.heap.size = gk1 at HF ⊢
  refine wp_runW (.pointer (some ⟨wk2.heap.size, 0, none⟩)) (wk2.alloc (.cells (In.cells inZ) 65)) (exec_alloc 65 rfl (In.cells inZ) zero70) (by kernel_rfl) ?_
  try simp only [pS]
  have HF : Hid (Fr No w _ [(gk1, 33, Hd.cells h), (wk2.heap.size, 65, In.cells inZ)]) := HF.out.alloc _ _
  generalize wk2.alloc (.cells (In.cells inZ) 65) = wk4 at HF ⊢
  generalize wk2.heap.size = gk3 at HF ⊢
  refine WL.nil ?_
  try simp only [pS]
  go_upto_region 1 with fail
  refine WL.start ?_
  refine tK (.int .i64 0) ?_
  try simp only [pS]
  refine WL.nil ?_
  try simp only [pS]
  go_wp2
  go_loopw [5] (fun v4 wr => ∃ i : Nat, v4 = .int .i64 ((i : Nat) : Int) ∧ i ≤ h.r.l ∧ Hid (∀ j, j < i → (pAt ps j).n ≠ q) ∧ Hid (Fr No w wr [(gk1, 33, Hd.cells h), (gk3, 65, In.cells inZ)])) (fun i _ => h.r.l - (intOf i).toNat)
  case atStart => exact ⟨0, by go_num, by omega, show ∀ j, j < 0 → (pAt ps j).n ≠ q from fun j hj => absurd hj (Nat.not_lt_zero _), HF⟩
  case round =>
    clear HF
    obtain ⟨i, rfl, hi, HP, HF⟩ := hrel
    by_cases hlt : i < h.r.l
    · skip
      obtain ⟨pb, po, hca, hcc⟩ := HR.out.at (i := i) hlt
      have hsl : h.r.v = .slice (some ⟨pb, po, none⟩) h.r.l h.r.k := by unfold Sl.v; rw [hca]
      have hdt := decd_take (ps := ps) (k := i) (by rw [HL.out]; exact hlt)
      obtain ⟨x, hx⟩ : ∃ x, x = pAt ps i := ⟨_, rfl⟩
      rw [← hx] at hcc hdt
      have HX : Hid (x = pAt ps i) := hx
      have HD : Hid (decd (ps.take (i + 1)) = decd (ps.take i) ++ (if x.i.d then [(x.n, x.i.c)] else [])) := hdt
      have c0 : Hid (w.cell? ⟨pb, po + i * 15, none⟩ = some (.int .i64 x.n)) := hcc 0 _ rfl
      have c14 : Hid (w.cell? ⟨pb, po + i * 15 + 1 + 13, none⟩ = some (.bool x.i.d)) := hcc 14 _ rfl
      have ci : Hid (∀ (j : Nat) v, (In.cs x.i)[j]? = some v → w.cell? ⟨pb, po + i * 15 + 1 + j, none⟩ = some v) := fun j v hv => by rw [show po + i * 15 + 1 + j = po + i * 15 + (j + 1) by omega]; exact hcc (j + 1) v hv
      clear hcc hx hdt
      go_upto_region 2 with fail
      refine WL.start ?_
      refine tK (.int .i64 ((i : Nat) : Int)) ?_
      refine tK (.pointer (some ⟨gk1, 6, none⟩)) ?_
      refine tW (h.r.v) (eL 31 _ rfl ⟨gk1, 6, none⟩ (load_one ((HF.out.box 0 _ _ _ rfl).cell 6 |>.trans (by kernel_rfl)) Try.und33 rfl)) ?_
      refine tK (.int .i64 ((h.r.l : Nat) : Int)) ?_
      refine tW (.bool true) (eB .lss 3 _ _ _ rfl (.int .i64 ((i : Nat) : Int)) (.int .i64 ((h.r.l : Nat) : Int)) _ (by rw [b_lss, decide_eq_true (by omega)])) ?_
      try simp only [pS]
      refine WL.nil ?_
      try simp only [pS]
      go_upto_region 4 with fail
      refine WL.start ?_
      refine tK (.pointer (some ⟨gk1, 6, none⟩)) ?_
      refine tW (h.r.v) (eL 31 _ rfl ⟨gk1, 6, none⟩ (load_one ((HF.out.box 0 _ _ _ rfl).cell 6 |>.trans (by kernel_rfl)) Try.und33 rfl)) ?_
      refine tK (.int .i64 ((i : Nat) : Int)) ?_
      refine tW (.pointer (some ⟨pb, po + i * 15, none⟩)) (exec_ixA 31 15 Try.und33e Try.size33e _ _ rfl pb po h.r.l h.r.k i (Eq.trans (b := h.r.v) (by kernel_rfl) hsl) (by kernel_rfl) hlt) ?_
      refine tK (.pointer (some ⟨pb, po + i * 15, none⟩)) ?_
      refine tW (.int .i64 x.n) (eL 3 _ rfl ⟨pb, po + i * 15, none⟩ (load_one (HF.out.kept.cell (c0.out) (fun e => e)) Try.und3 rfl)) ?_
      refine tK (.int .i64 q) ?_
      try simp only [pS]
      cases q1 : (x.n == q)
      ·skip
       refine tW (.bool false) (eB .eql 3 _ _ _ rfl (.int .i64 x.n) (.int .i64 q) _ (by rw [b_eql, q1]; try rfl)) ?_
       try simp only [pS]
       refine WL.nil ?_
       try simp only [pS]
       have HP2 : Hid (∀ j, j < i + 1 → (pAt ps j).n ≠ q) := show ∀ j, j < i + 1 → (pAt ps j).n ≠ q from fun j hj => by
         by_cases e : j = i
         · subst e; rw [← HX.out]; simpa using q1
         · exact HP.out j (by omega)
       go_upto_region 3 with fail
       refine WL.start ?_
       refine tK (.int .i64 ((i : Nat) : Int)) ?_
       refine tW (.int .i64 (((i + 1) : Nat) : Int)) (eB .add 3 _ _ _ rfl (.int .i64 ((i : Nat) : Int)) (.int .i64 1) _ (b_addw _ _ _ (by rw [IntKind.wrap_i64]; omega) _)) ?_
       refine tK (.int .i64 (((i + 1) : Nat) : Int)) ?_
       try simp only [pS]
       refine WL.nil ?_
       try simp only [pS]
       go_wp2
       go_roundw
       case rel => exact ⟨i + 1, by go_num, by omega, HP2, HF⟩
       case measure => simp [intOf]; omega
      ·skip
       refine tW (.bool true) (eB .eql 3 _ _ _ rfl (.int .i64 x.n) (.int .i64 q) _ (by rw [b_eql, q1]; try rfl)) ?_
       try simp only [pS]
       refine WL.nil ?_
       try simp only [pS]
       go_upto_region 5 with fail
       refine WL.start ?_
       refine tK (.pointer (some ⟨gk1, 6, none⟩)) ?_
       refine tW (h.r.v) (eL 31 _ rfl ⟨gk1, 6, none⟩ (load_one ((HF.out.box 0 _ _ _ rfl).cell 6 |>.trans (by kernel_rfl)) Try.und33 rfl)) ?_
       refine tK (.int .i64 ((i : Nat) : Int)) ?_
       refine tW (.pointer (some ⟨pb, po + i * 15, none⟩)) (exec_ixA 31 15 Try.und33e Try.size33e _ _ rfl pb po h.r.l h.r.k i (Eq.trans (b := h.r.v) (by kernel_rfl) hsl) (by kernel_rfl) hlt) ?_
       refine tK (.pointer (some ⟨pb, po + i * 15 + 1, none⟩)) ?_
       refine tW (.agg (In.cells x.i)) (eL 65 _ rfl ⟨pb, po + i * 15 + 1, none⟩ (load_cells (it := In.cs x.i) (fun j v hv => HF.out.kept.cell (ci.out j v hv) (fun e => e)) Try.und70 rfl Try.size70)) ?_
       try simp only [pS]
       refine wp_storeW 65 _ _ rfl ⟨gk3, 0, none⟩ (.agg (In.cells x.i)) (by kernel_rfl) (by kernel_rfl) (wr.setRow gk3 (In.cells x.i)) (run_store_to (cur := In.cs inZ) (vs := In.cs x.i) (new := In.cs x.i) (HF.out.box 1 _ _ _ rfl) (by kernel_rfl) Try.size70 (Nat.le_of_ble_eq_true (by kernel_rfl)) (In.oneL _) (by kernel_rfl)) (by kernel_rfl) ?_
       try simp only [pS]
       have HF : Hid (Fr No w _ [(gk1, 33, Hd.cells h), (gk3, 65, In.cells x.i)]) := HF.out.set 1 rfl _
       generalize wr.setRow gk3 (In.cells x.i) = wk5 at HF ⊢
       refine WL.nil ?_
       try simp only [pS]
       go_wp2
       rw [HC.out]
       refine bodyPost_ret (results_row1 (by rfl) _ _ gk3 (In.cells x.i) (by rfl) (run_load_part (cs := In.cs x.i) (sub := In.cs x.i) (HF.out.box 1 _ _ _ rfl) (Part.all _) Try.und70 rfl Try.size70)) rfl ?_
       exact ⟨by rw [at_found ps q i HP.out (by rw [HL.out]; exact hlt) (by rw [← HX.out]; simpa using q1), ← HX.out], HF.out.kept⟩
    · skip
      go_upto_region 2 with fail
      refine WL.start ?_
      refine tK (.int .i64 ((i : Nat) : Int)) ?_
      refine tK (.pointer (some ⟨gk1, 6, none⟩)) ?_
      refine tW (h.r.v) (eL 31 _ rfl ⟨gk1, 6, none⟩ (load_one ((HF.out.box 0 _ _ _ rfl).cell 6 |>.trans (by kernel_rfl)) Try.und33 rfl)) ?_
      refine tK (.int .i64 ((h.r.l : Nat) : Int)) ?_
      refine tW (.bool false) (eB .lss 3 _ _ _ rfl (.int .i64 ((i : Nat) : Int)) (.int .i64 ((h.r.l : Nat) : Int)) _ (by rw [b_lss, decide_eq_false (by omega)])) ?_
      try simp only [pS]
      refine WL.nil ?_
      try simp only [pS]
      go_upto_region 6 with fail
      refine WL.start ?_
      refine tW (.agg (In.cells inZ)) (exec_build 65 _ rfl (In.cells inZ) (by kernel_rfl)) ?_
      try simp only [pS]
      refine wp_storeW 65 _ _ rfl ⟨gk3, 0, none⟩ (.agg (In.cells inZ)) (by kernel_rfl) (by kernel_rfl) (wr.setRow gk3 (In.cells inZ)) (run_store_to (cur := In.cs inZ) (vs := In.cs inZ) (new := In.cs inZ) (HF.out.box 1 _ _ _ rfl) (by kernel_rfl) Try.size70 (Nat.le_of_ble_eq_true (by kernel_rfl)) (In.oneL _) (by kernel_rfl)) (by kernel_rfl) ?_
      try simp only [pS]
      have HF : Hid (Fr No w _ [(gk1, 33, Hd.cells h), (gk3, 65, In.cells inZ)]) := HF.out.set 1 rfl _
      generalize wr.setRow gk3 (In.cells inZ) = wk6 at HF ⊢
      refine WL.nil ?_
      try simp only [pS]
      go_wp2
      rw [HC.out]
      refine bodyPost_ret (results_row1 (by rfl) _ _ gk3 (In.cells inZ) (by rfl) (run_load_part (cs := In.cs inZ) (sub := In.cs inZ) (HF.out.box 1 _ _ _ rfl) (Part.all _) Try.und70 rfl Try.size70)) rfl ?_
      exact ⟨by rw [at_none ps q (fun j hj => HP.out j (by rw [HL.out] at hj; omega))], HF.out.kept⟩

end Go.Proofs.Ytcgnbpaaalmkoab
