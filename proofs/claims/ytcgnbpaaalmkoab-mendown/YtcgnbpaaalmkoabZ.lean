import Derived.Test.YtcgnbpaaalmkoabY
namespace Go.Proofs.Ytcgnbpaaalmkoab
open Go.RowKit
set_option linter.unusedVariables false
set_option linter.unusedSimpArgs false

/-- The reference's edge: how far the row goes on without a gap. -/
def refN (u : Int) (ps : List Pl) (k : Nat) : Prop := k ≤ ps.length ∧ ∀ j, j < k → (pAt ps j).n = u + j + 1 ∧ (pAt ps j).i.d = true
def EdOut (w : World) (u : Int) (ps : List Pl) (e : Ending) (w' : World) : Prop := ∃ k : Nat, e = .returned (.int .i64 (u + k)) ∧ refN u ps k ∧ (k < ps.length → ¬ ((pAt ps k).n = u + k + 1 ∧ (pAt ps k).i.d = true)) ∧ Kept No w w'
set_option maxRecDepth 100000 in
set_option maxHeartbeats 4000000 in
theorem refEdge_any (h : Hd) (ps : List Pl) (w : World) (hr : RdP w h.r ps) (hm : ps.length ≤ 10000000000000) (hu : 0 ≤ h.k.up ∧ h.k.up ≤ 4611686018427387) : Calls Try.prog 34 #[.agg (Hd.cells h)] w (EdOut w h.k.up ps) := by
  obtain ⟨C, hC⟩ : ∃ C : Ending → World → Prop, C = (EdOut w h.k.up ps) := ⟨_, rfl⟩
  have HC : Hid (C = (EdOut w h.k.up ps)) := hC
  rw [← hC]
  clear hC
  have HR : Hid (RdP w h.r ps) := hr
  have HL : Hid (ps.length = h.r.l) := hr.len
  have hl : h.r.l ≤ 10000000000000 := by rw [← hr.len]; exact hm
  clear hr hm
  have HF : Hid (Fr No w w []) := Fr.start _ _
  go_enter Try.func34, Try.ntmps34
  go_upto_region 0 with fail
  refine WL.start ?_
  refine wp_runW (.pointer (some ⟨w.heap.size, 0, none⟩)) (w.alloc (.cells (Hd.cells h) 33)) (exec_box 33 _ rfl (Hd.cells h) (by kernel_rfl)) (by kernel_rfl) ?_
  try simp only [pS]
  have HF : Hid (Fr No w _ [(w.heap.size, 33, Hd.cells h)]) := HF.out.alloc _ _
  generalize w.alloc (.cells (Hd.cells h) 33) = wk2 at HF ⊢
  generalize w.heap.size = gk1 at HF ⊢
  refine tK (.int .i64 0) ?_
  try simp only [pS]
  refine WL.nil ?_
  try simp only [pS]
  go_upto_region 1 with fail
  refine WL.start ?_
  refine tK (.pointer (some ⟨gk1, 3, none⟩)) ?_
  refine tK (.pointer (some ⟨gk1, 3, none⟩)) ?_
  refine tW (.int .i64 h.k.up) (eL 3 _ rfl ⟨gk1, 3, none⟩ (load_one ((HF.out.box 0 _ _ _ rfl).cell 3 |>.trans (by kernel_rfl)) Try.und3 rfl)) ?_
  refine tK (.int .i64 h.k.up) ?_
  try simp only [pS]
  refine WL.nil ?_
  try simp only [pS]
  go_upto_region 2 with fail
  refine WL.start ?_
  refine tK (.int .i64 0) ?_
  try simp only [pS]
  refine WL.nil ?_
  try simp only [pS]
  go_wp2
  go_loopw [3, 4] (fun v3 v4 wr => ∃ i : Nat, v3 = .int .i64 (h.k.up + ((i : Nat) : Int)) ∧ v4 = .int .i64 ((i : Nat) : Int) ∧ i ≤ h.r.l ∧ Hid (refN h.k.up ps i) ∧ Hid (Fr No w wr [(gk1, 33, Hd.cells h)])) (fun _ i _ => h.r.l - (intOf i).toNat)
  case atStart => exact ⟨0, by simp, by go_num, by omega, ⟨Nat.zero_le _, fun j hj => absurd hj (Nat.not_lt_zero _)⟩, HF⟩
  case round =>
    clear HF
    obtain ⟨i, rfl, rfl, hi, HN, HF⟩ := hrel
    by_cases hlt : i < h.r.l
    · skip
      obtain ⟨pb, po, hca, hcc⟩ := HR.out.at (i := i) hlt
      have hsl : h.r.v = .slice (some ⟨pb, po, none⟩) h.r.l h.r.k := by unfold Sl.v; rw [hca]
      obtain ⟨x, hx⟩ : ∃ x, x = pAt ps i := ⟨_, rfl⟩
      rw [← hx] at hcc
      have c0 : Hid (w.cell? ⟨pb, po + i * 15, none⟩ = some (.int .i64 x.n)) := hcc 0 _ rfl
      have c14 : Hid (w.cell? ⟨pb, po + i * 15 + 1 + 13, none⟩ = some (.bool x.i.d)) := hcc 14 _ rfl
      have HX : Hid (x = pAt ps i) := hx
      clear hcc hx
      cases hdd : x.i.d
      ·skip
       rw [hdd] at c14
       go_upto_region 3 with fail
       refine WL.start ?_
       refine tK (.int .i64 ((i : Nat) : Int)) ?_
       refine tK (.pointer (some ⟨gk1, 6, none⟩)) ?_
       refine tW (h.r.v) (eL 31 _ rfl ⟨gk1, 6, none⟩ (load_one ((HF.out.box 0 _ _ _ rfl).cell 6 |>.trans (by kernel_rfl)) Try.und33 rfl)) ?_
       refine tK (.int .i64 ((h.r.l : Nat) : Int)) ?_
       refine tW (.bool true) (eB .lss 3 _ _ _ rfl (.int .i64 ((i : Nat) : Int)) (.int .i64 ((h.r.l : Nat) : Int)) _ (by rw [b_lss, decide_eq_true (by omega)])) ?_
       refine tK (.bool true) ?_
       refine tK (.pointer (some ⟨gk1, 6, none⟩)) ?_
       refine tW (h.r.v) (eL 31 _ rfl ⟨gk1, 6, none⟩ (load_one ((HF.out.box 0 _ _ _ rfl).cell 6 |>.trans (by kernel_rfl)) Try.und33 rfl)) ?_
       refine tK (.int .i64 ((i : Nat) : Int)) ?_
       refine tW (.pointer (some ⟨pb, po + i * 15, none⟩)) (exec_ixA 31 15 Try.und33e Try.size33e _ _ rfl pb po h.r.l h.r.k i (Eq.trans (b := h.r.v) (by kernel_rfl) hsl) (by kernel_rfl) hlt) ?_
       refine tK (.pointer (some ⟨pb, po + i * 15, none⟩)) ?_
       refine tW (.int .i64 x.n) (eL 3 _ rfl ⟨pb, po + i * 15, none⟩ (load_one (HF.out.kept.cell (c0.out) (fun e => e)) Try.und3 rfl)) ?_
       refine tK (.int .i64 (h.k.up + ((i : Nat) : Int))) ?_
       refine tW (.int .i64 (h.k.up + ((i + 1 : Nat) : Int))) (eB .add 3 _ _ _ rfl (.int .i64 (h.k.up + ((i : Nat) : Int))) (.int .i64 1) _ (b_addw _ _ _ (by rw [IntKind.wrap_i64]; omega) _)) ?_
       try simp only [pS]
       cases q1 : (x.n == (h.k.up + ((i + 1 : Nat) : Int)))
       ·skip
        refine tW (.bool false) (eB .eql 3 _ _ _ rfl (.int .i64 x.n) (.int .i64 (h.k.up + ((i + 1 : Nat) : Int))) _ (by rw [b_eql, q1]; try rfl)) ?_
        refine tK (.bool false) ?_
        refine tK (.bool false) ?_
        refine sK ?_
        refine sK ?_
        refine sK ?_
        refine sK ?_
        refine sK ?_
        refine sK ?_
        refine sK ?_
        refine tK (.bool false) ?_
        try simp only [pS]
        refine WL.nil ?_
        try simp only [pS]
        go_upto_region 6 with fail
        refine WL.start ?_
        refine tK (.int .i64 (h.k.up + ((i : Nat) : Int))) ?_
        refine tK (.int .i64 (h.k.up + ((i : Nat) : Int))) ?_
        try simp only [pS]
        refine WL.nil ?_
        try simp only [pS]
        go_wp2
        rw [HC.out]
        exact ⟨i, rfl, HN.out, fun _ e => by rw [← HX.out] at e; have e1 := e.1; have := q1; simp at this; omega, HF.out.kept⟩
       ·skip
        refine tW (.bool true) (eB .eql 3 _ _ _ rfl (.int .i64 x.n) (.int .i64 (h.k.up + ((i + 1 : Nat) : Int))) _ (by rw [b_eql, q1]; try rfl)) ?_
        refine tK (.bool true) ?_
        refine tK (.bool true) ?_
        refine tK (.pointer (some ⟨gk1, 6, none⟩)) ?_
        refine tW (h.r.v) (eL 31 _ rfl ⟨gk1, 6, none⟩ (load_one ((HF.out.box 0 _ _ _ rfl).cell 6 |>.trans (by kernel_rfl)) Try.und33 rfl)) ?_
        refine tK (.int .i64 ((i : Nat) : Int)) ?_
        refine tW (.pointer (some ⟨pb, po + i * 15, none⟩)) (exec_ixA 31 15 Try.und33e Try.size33e _ _ rfl pb po h.r.l h.r.k i (Eq.trans (b := h.r.v) (by kernel_rfl) hsl) (by kernel_rfl) hlt) ?_
        refine tK (.pointer (some ⟨pb, po + i * 15 + 1, none⟩)) ?_
        refine tK (.pointer (some ⟨pb, po + i * 15 + 1 + 13, none⟩)) ?_
        refine tW (.bool false) (eL 4 _ rfl ⟨pb, po + i * 15 + 1 + 13, none⟩ (load_one (HF.out.kept.cell (c14.out) (fun e => e)) Try.und4 rfl)) ?_
        refine tK (.bool false) ?_
        try simp only [pS]
        refine WL.nil ?_
        try simp only [pS]
        go_upto_region 6 with fail
        refine WL.start ?_
        refine tK (.int .i64 (h.k.up + ((i : Nat) : Int))) ?_
        refine tK (.int .i64 (h.k.up + ((i : Nat) : Int))) ?_
        try simp only [pS]
        refine WL.nil ?_
        try simp only [pS]
        go_wp2
        rw [HC.out]
        exact ⟨i, rfl, HN.out, fun _ e => by rw [← HX.out] at e; rw [hdd] at e; exact absurd e.2 (by simp), HF.out.kept⟩
      ·skip
       rw [hdd] at c14
       go_upto_region 3 with fail
       refine WL.start ?_
       refine tK (.int .i64 ((i : Nat) : Int)) ?_
       refine tK (.pointer (some ⟨gk1, 6, none⟩)) ?_
       refine tW (h.r.v) (eL 31 _ rfl ⟨gk1, 6, none⟩ (load_one ((HF.out.box 0 _ _ _ rfl).cell 6 |>.trans (by kernel_rfl)) Try.und33 rfl)) ?_
       refine tK (.int .i64 ((h.r.l : Nat) : Int)) ?_
       refine tW (.bool true) (eB .lss 3 _ _ _ rfl (.int .i64 ((i : Nat) : Int)) (.int .i64 ((h.r.l : Nat) : Int)) _ (by rw [b_lss, decide_eq_true (by omega)])) ?_
       refine tK (.bool true) ?_
       refine tK (.pointer (some ⟨gk1, 6, none⟩)) ?_
       refine tW (h.r.v) (eL 31 _ rfl ⟨gk1, 6, none⟩ (load_one ((HF.out.box 0 _ _ _ rfl).cell 6 |>.trans (by kernel_rfl)) Try.und33 rfl)) ?_
       refine tK (.int .i64 ((i : Nat) : Int)) ?_
       refine tW (.pointer (some ⟨pb, po + i * 15, none⟩)) (exec_ixA 31 15 Try.und33e Try.size33e _ _ rfl pb po h.r.l h.r.k i (Eq.trans (b := h.r.v) (by kernel_rfl) hsl) (by kernel_rfl) hlt) ?_
       refine tK (.pointer (some ⟨pb, po + i * 15, none⟩)) ?_
       refine tW (.int .i64 x.n) (eL 3 _ rfl ⟨pb, po + i * 15, none⟩ (load_one (HF.out.kept.cell (c0.out) (fun e => e)) Try.und3 rfl)) ?_
       refine tK (.int .i64 (h.k.up + ((i : Nat) : Int))) ?_
       refine tW (.int .i64 (h.k.up + ((i + 1 : Nat) : Int))) (eB .add 3 _ _ _ rfl (.int .i64 (h.k.up + ((i : Nat) : Int))) (.int .i64 1) _ (b_addw _ _ _ (by rw [IntKind.wrap_i64]; omega) _)) ?_
       try simp only [pS]
       cases q2 : (x.n == (h.k.up + ((i + 1 : Nat) : Int)))
       ·skip
        refine tW (.bool false) (eB .eql 3 _ _ _ rfl (.int .i64 x.n) (.int .i64 (h.k.up + ((i + 1 : Nat) : Int))) _ (by rw [b_eql, q2]; try rfl)) ?_
        refine tK (.bool false) ?_
        refine tK (.bool false) ?_
        refine sK ?_
        refine sK ?_
        refine sK ?_
        refine sK ?_
        refine sK ?_
        refine sK ?_
        refine sK ?_
        refine tK (.bool false) ?_
        try simp only [pS]
        refine WL.nil ?_
        try simp only [pS]
        go_upto_region 6 with fail
        refine WL.start ?_
        refine tK (.int .i64 (h.k.up + ((i : Nat) : Int))) ?_
        refine tK (.int .i64 (h.k.up + ((i : Nat) : Int))) ?_
        try simp only [pS]
        refine WL.nil ?_
        try simp only [pS]
        go_wp2
        rw [HC.out]
        exact ⟨i, rfl, HN.out, fun _ e => by rw [← HX.out] at e; have e1 := e.1; have := q2; simp at this; omega, HF.out.kept⟩
       ·skip
        refine tW (.bool true) (eB .eql 3 _ _ _ rfl (.int .i64 x.n) (.int .i64 (h.k.up + ((i + 1 : Nat) : Int))) _ (by rw [b_eql, q2]; try rfl)) ?_
        refine tK (.bool true) ?_
        refine tK (.bool true) ?_
        refine tK (.pointer (some ⟨gk1, 6, none⟩)) ?_
        refine tW (h.r.v) (eL 31 _ rfl ⟨gk1, 6, none⟩ (load_one ((HF.out.box 0 _ _ _ rfl).cell 6 |>.trans (by kernel_rfl)) Try.und33 rfl)) ?_
        refine tK (.int .i64 ((i : Nat) : Int)) ?_
        refine tW (.pointer (some ⟨pb, po + i * 15, none⟩)) (exec_ixA 31 15 Try.und33e Try.size33e _ _ rfl pb po h.r.l h.r.k i (Eq.trans (b := h.r.v) (by kernel_rfl) hsl) (by kernel_rfl) hlt) ?_
        refine tK (.pointer (some ⟨pb, po + i * 15 + 1, none⟩)) ?_
        refine tK (.pointer (some ⟨pb, po + i * 15 + 1 + 13, none⟩)) ?_
        refine tW (.bool true) (eL 4 _ rfl ⟨pb, po + i * 15 + 1 + 13, none⟩ (load_one (HF.out.kept.cell (c14.out) (fun e => e)) Try.und4 rfl)) ?_
        refine tK (.bool true) ?_
        try simp only [pS]
        refine WL.nil ?_
        try simp only [pS]
        go_upto_region 5 with fail
        refine WL.start ?_
        refine tK (.int .i64 (h.k.up + ((i : Nat) : Int))) ?_
        refine tW (.int .i64 (h.k.up + ((i + 1 : Nat) : Int))) (eB .add 3 _ _ _ rfl (.int .i64 (h.k.up + ((i : Nat) : Int))) (.int .i64 1) _ (b_addw _ _ _ (by rw [IntKind.wrap_i64]; omega) _)) ?_
        refine tK (.int .i64 (h.k.up + ((i + 1 : Nat) : Int))) ?_
        try simp only [pS]
        refine WL.nil ?_
        try simp only [pS]
        go_upto_region 4 with fail
        refine WL.start ?_
        refine tK (.int .i64 ((i : Nat) : Int)) ?_
        refine tW (.int .i64 (((i + 1) : Nat) : Int)) (eB .add 3 _ _ _ rfl (.int .i64 ((i : Nat) : Int)) (.int .i64 1) _ (b_addw _ _ _ (by rw [IntKind.wrap_i64]; omega) _)) ?_
        refine tK (.int .i64 (((i + 1) : Nat) : Int)) ?_
        try simp only [pS]
        refine WL.nil ?_
        try simp only [pS]
        have hq1 : x.n = h.k.up + ((i + 1 : Nat) : Int) := by simpa using q2
        have HN2 : Hid (refN h.k.up ps (i + 1)) := ⟨by rw [HL.out]; exact hlt, fun j hj => by
          by_cases e : j = i
          · subst e; rw [← HX.out]; exact ⟨by omega, hdd⟩
          · exact HN.out.2 j (by omega)⟩
        clear hq1 q2 hdd
        go_wp2
        go_roundw
        case rel => exact ⟨i + 1, by go_num, by go_num, by omega, HN2, HF⟩
        case measure => simp [intOf]; omega
    · skip
      go_upto_region 3 with fail
      refine WL.start ?_
      refine tK (.int .i64 ((i : Nat) : Int)) ?_
      refine tK (.pointer (some ⟨gk1, 6, none⟩)) ?_
      refine tW (h.r.v) (eL 31 _ rfl ⟨gk1, 6, none⟩ (load_one ((HF.out.box 0 _ _ _ rfl).cell 6 |>.trans (by kernel_rfl)) Try.und33 rfl)) ?_
      refine tK (.int .i64 ((h.r.l : Nat) : Int)) ?_
      refine tW (.bool false) (eB .lss 3 _ _ _ rfl (.int .i64 ((i : Nat) : Int)) (.int .i64 ((h.r.l : Nat) : Int)) _ (by rw [b_lss, decide_eq_false (by omega)])) ?_
      refine tK (.bool false) ?_
      refine sK ?_
      refine sK ?_
      refine sK ?_
      refine sK ?_
      refine sK ?_
      refine sK ?_
      refine sK ?_
      refine sK ?_
      refine sK ?_
      refine tK (.bool false) ?_
      refine tK (.bool false) ?_
      refine sK ?_
      refine sK ?_
      refine sK ?_
      refine sK ?_
      refine sK ?_
      refine sK ?_
      refine sK ?_
      refine tK (.bool false) ?_
      try simp only [pS]
      refine WL.nil ?_
      try simp only [pS]
      go_upto_region 6 with fail
      refine WL.start ?_
      refine tK (.int .i64 (h.k.up + ((i : Nat) : Int))) ?_
      refine tK (.int .i64 (h.k.up + ((i : Nat) : Int))) ?_
      try simp only [pS]
      refine WL.nil ?_
      try simp only [pS]
      go_wp2
      rw [HC.out]
      exact ⟨i, rfl, HN.out, fun e => by rw [HL.out] at e; omega, HF.out.kept⟩

end Go.Proofs.Ytcgnbpaaalmkoab
