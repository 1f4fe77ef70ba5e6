import Derived.Test.YtcgnbpaaalmkoabMa
namespace Go.Proofs.Ytcgnbpaaalmkoab
open Go.RowKit
set_option linter.unusedVariables false
set_option linter.unusedSimpArgs false

def spoC : Cm := ⟨0, 0, 0, ⟨#[115, 112, 111, 105, 108, 116]⟩, 0, 0, 0, 0, 0⟩
def SpOut (w : World) (b : Bv) (e : Ending) (w' : World) : Prop := e = .returned (.tuple #[]) ∧ Kept (fun k => At b.e.a k ∨ At b.l.a k) w w'
set_option maxRecDepth 100000 in
set_option maxHeartbeats 4000000 in
theorem spoilO (b : Bv) (base : Nat) (es : List En) (ls : List La) (w : World) (he : OwE w base b.e es) (hl : OwL w base b.l ls) (n1 : b.e.l ≤ 4000000000000) (n2 : b.l.l ≤ 4000000000000) : Calls Try.prog 15 #[.agg (Bv.cells b)] w (SpOut w b) := by
  obtain ⟨C, hC⟩ : ∃ C : Ending → World → Prop, C = (SpOut w b) := ⟨_, rfl⟩
  have HC : Hid (C = (SpOut w b)) := hC
  rw [← hC]
  clear hC
  have htE : ∀ k, At b.e.a k → k < w.heap.size := fun k e => he.own.lt e
  have htL : ∀ k, At b.l.a k → k < w.heap.size := fun k e => hl.own.lt e
  have HE : Hid (OwE w base b.e es) := he
  have HL : Hid (OwL w base b.l ls) := hl
  clear he hl
  have HF : Hid (Fr (fun k => At b.e.a k ∨ At b.l.a k) w w []) := Fr.start _ _
  go_enter Try.func15, Try.ntmps15
  go_upto_region 0 with fail
  refine WL.start ?_
  refine wp_runW (.pointer (some ⟨w.heap.size, 0, none⟩)) (w.alloc (.cells (Bv.cells b) 30)) (exec_box 30 _ rfl (Bv.cells b) (by kernel_rfl)) (by kernel_rfl) ?_
  try simp only [pS]
  have HE : Hid (OwE (w.alloc (.cells (Bv.cells b) 30)) base b.e es) := HE.out.no ((Kept.refl No _).alloc _)
  have HL : Hid (OwL (w.alloc (.cells (Bv.cells b) 30)) base b.l ls) := HL.out.no ((Kept.refl No _).alloc _)
  have HF : Hid (Fr (fun k => At b.e.a k ∨ At b.l.a k) w _ [(w.heap.size, 30, Bv.cells b)]) := HF.out.alloc _ _
  generalize w.alloc (.cells (Bv.cells b) 30) = wk2 at HF HE HL ⊢
  generalize w.heap.size = gk1 at HF ⊢
  refine WL.nil ?_
  try simp only [pS]
  go_upto_region 1 with fail
  refine WL.start ?_
  refine tK (.int .i64 0) ?_
  try simp only [pS]
  refine WL.nil ?_
  try simp only [pS]
  go_wp2
  go_loopw [2] (fun v5 wr => ∃ (i : Nat) (cur : List En), v5 = .int .i64 ((i : Nat) : Int) ∧ i ≤ b.e.l ∧ Hid (OwE wr base b.e cur) ∧ Hid (OwL wr base b.l ls) ∧ Hid (Fr (fun k => At b.e.a k ∨ At b.l.a k) w wr [(gk1, 30, Bv.cells b)])) (fun i _ => b.e.l - (intOf i).toNat)
  case atStart => exact ⟨0, _, by go_num, by omega, HE, HL, HF⟩
  case round =>
    clear HF HE HL
    obtain ⟨i, cur, rfl, hi, HE, HL, HF⟩ := hrel
    by_cases hlt : i < b.e.l
    · skip
      obtain ⟨g9, hg9⟩ := HE.out.own.some (by omega)
      have hsl : Hid (b.e.v = .slice (some ⟨g9, 0, none⟩) b.e.l b.e.k) := by show Value.slice _ _ _ = _; rw [hg9]
      go_upto_region 2 with fail
      refine WL.start ?_
      refine tK (.int .i64 ((i : Nat) : Int)) ?_
      refine tK (.pointer (some ⟨gk1, 1, none⟩)) ?_
      refine tW (b.e.v) (eL 27 _ rfl ⟨gk1, 1, none⟩ (load_one ((HF.out.box 0 _ _ _ rfl).cell 1 |>.trans (by kernel_rfl)) Try.und29 rfl)) ?_
      refine tK (.int .i64 ((b.e.l : Nat) : Int)) ?_
      refine tW (.bool true) (eB .lss 3 _ _ _ rfl (.int .i64 ((i : Nat) : Int)) (.int .i64 ((b.e.l : Nat) : Int)) _ (by rw [b_lss, decide_eq_true (by omega)])) ?_
      try simp only [pS]
      refine WL.nil ?_
      try simp only [pS]
      go_upto_region 4 with fail
      refine WL.start ?_
      refine tK (.pointer (some ⟨gk1, 1, none⟩)) ?_
      refine tW (b.e.v) (eL 27 _ rfl ⟨gk1, 1, none⟩ (load_one ((HF.out.box 0 _ _ _ rfl).cell 1 |>.trans (by kernel_rfl)) Try.und29 rfl)) ?_
      refine tK (.int .i64 ((i : Nat) : Int)) ?_
      refine tW (.agg (En.cells ⟨⟨#[115, 112, 111, 105, 108, 116]⟩, 0, 0, 0⟩)) (exec_build 91 _ rfl (En.cells ⟨⟨#[115, 112, 111, 105, 108, 116]⟩, 0, 0, 0⟩) (by kernel_rfl)) ?_
      refine tW (.pointer (some ⟨g9, 0 + i * 4, none⟩)) (exec_ixA 27 4 Try.und29e Try.size29e _ _ rfl g9 0 b.e.l b.e.k i (Eq.trans (b := b.e.v) (by kernel_rfl) hsl.out) (by kernel_rfl) hlt) ?_
      try simp only [pS]
      obtain ⟨cs9, hrun9, hown9⟩ := HE.out.set hlt hg9 ⟨⟨#[115, 112, 111, 105, 108, 116]⟩, 0, 0, 0⟩
      refine wp_storeW 91 _ _ rfl ⟨g9, 0 + i * 4, none⟩ (.agg (En.cells ⟨⟨#[115, 112, 111, 105, 108, 116]⟩, 0, 0, 0⟩)) (by kernel_rfl) (by kernel_rfl) (wr.setRow g9 cs9) hrun9 (by kernel_rfl) ?_
      try simp only [pS]
      have HL : Hid (OwL (wr.setRow g9 cs9) base b.l ls) := HL.out.kept (Kept.setRow _ _ _) (fun k e f => HE.out.own.apart HL.out.own (by decide) (show At b.e.a k from ⟨_, hg9, f.symm⟩) e)
      have HF : Hid (Fr (fun k => At b.e.a k ∨ At b.l.a k) w (wr.setRow g9 cs9) [(gk1, 30, Bv.cells b)]) := HF.out.via (Kept.setRow _ _ _) (fun k e => ⟨by have e : k = g9 := e; rw [e]; exact htE _ ⟨_, hg9, rfl⟩, .inl ⟨_, hg9, (show k = g9 from e).symm⟩⟩)
      have HE : Hid (OwE (wr.setRow g9 cs9) base b.e (cur.set i ⟨⟨#[115, 112, 111, 105, 108, 116]⟩, 0, 0, 0⟩)) := hown9
      clear hrun9 hown9
      generalize wr.setRow g9 cs9 = wk3 at HF HL HE ⊢
      refine WL.nil ?_
      try simp only [pS]
      go_upto_region 3 with fail
      refine WL.start ?_
      refine tK (.int .i64 ((i : Nat) : Int)) ?_
      refine tW (.int .i64 (((i + 1) : Nat) : Int)) (eB .add 3 _ _ _ rfl (.int .i64 ((i : Nat) : Int)) (.int .i64 1) _ (b_addw _ _ _ (by rw [IntKind.wrap_i64]; omega) _)) ?_
      refine tK (.int .i64 (((i + 1) : Nat) : Int)) ?_
      try simp only [pS]
      refine WL.nil ?_
      try simp only [pS]
      go_wp2
      go_roundw
      case rel => exact ⟨i + 1, _, by go_num, by omega, HE, HL, HF⟩
      case measure => simp [intOf]; omega
    · skip
      go_upto_region 2 with fail
      refine WL.start ?_
      refine tK (.int .i64 ((i : Nat) : Int)) ?_
      refine tK (.pointer (some ⟨gk1, 1, none⟩)) ?_
      refine tW (b.e.v) (eL 27 _ rfl ⟨gk1, 1, none⟩ (load_one ((HF.out.box 0 _ _ _ rfl).cell 1 |>.trans (by kernel_rfl)) Try.und29 rfl)) ?_
      refine tK (.int .i64 ((b.e.l : Nat) : Int)) ?_
      refine tW (.bool false) (eB .lss 3 _ _ _ rfl (.int .i64 ((i : Nat) : Int)) (.int .i64 ((b.e.l : Nat) : Int)) _ (by rw [b_lss, decide_eq_false (by omega)])) ?_
      try simp only [pS]
      refine WL.nil ?_
      try simp only [pS]
      obtain ⟨es2, hes2⟩ : ∃ l : List En, l = cur := ⟨_, rfl⟩
      rw [← hes2] at HE
      clear hes2 hlt hi
      go_upto_region 5 with fail
      refine WL.start ?_
      refine tK (.int .i64 0) ?_
      try simp only [pS]
      refine WL.nil ?_
      try simp only [pS]
      go_wp2
      go_loopw [3] (fun v5 wr => ∃ (i : Nat) (cur : List La), v5 = .int .i64 ((i : Nat) : Int) ∧ i ≤ b.l.l ∧ Hid (OwL wr base b.l cur) ∧ Hid (OwE wr base b.e es2) ∧ Hid (Fr (fun k => At b.e.a k ∨ At b.l.a k) w wr [(gk1, 30, Bv.cells b)])) (fun i _ => b.l.l - (intOf i).toNat)
      case atStart => exact ⟨0, _, by go_num, by omega, HL, HE, HF⟩
      case round =>
        clear HF HE HL
        obtain ⟨i, cur, rfl, hi, HL, HE, HF⟩ := hrel
        by_cases hlt : i < b.l.l
        · skip
          obtain ⟨g9, hg9⟩ := HL.out.own.some (by omega)
          have hsl : Hid (b.l.v = .slice (some ⟨g9, 0, none⟩) b.l.l b.l.k) := by show Value.slice _ _ _ = _; rw [hg9]
          go_upto_region 6 with fail
          refine WL.start ?_
          refine tK (.int .i64 ((i : Nat) : Int)) ?_
          refine tK (.pointer (some ⟨gk1, 2, none⟩)) ?_
          refine tW (b.l.v) (eL 28 _ rfl ⟨gk1, 2, none⟩ (load_one ((HF.out.box 0 _ _ _ rfl).cell 2 |>.trans (by kernel_rfl)) Try.und30 rfl)) ?_
          refine tK (.int .i64 ((b.l.l : Nat) : Int)) ?_
          refine tW (.bool true) (eB .lss 3 _ _ _ rfl (.int .i64 ((i : Nat) : Int)) (.int .i64 ((b.l.l : Nat) : Int)) _ (by rw [b_lss, decide_eq_true (by omega)])) ?_
          try simp only [pS]
          refine WL.nil ?_
          try simp only [pS]
          go_upto_region 8 with fail
          refine WL.start ?_
          refine tK (.pointer (some ⟨gk1, 2, none⟩)) ?_
          refine tW (b.l.v) (eL 28 _ rfl ⟨gk1, 2, none⟩ (load_one ((HF.out.box 0 _ _ _ rfl).cell 2 |>.trans (by kernel_rfl)) Try.und30 rfl)) ?_
          refine tK (.int .i64 ((i : Nat) : Int)) ?_
          refine tW (.agg (La.cells ⟨0, (-1), 0, 0, 0, 0, 0⟩)) (exec_build 94 _ rfl (La.cells ⟨0, (-1), 0, 0, 0, 0, 0⟩) (by kernel_rfl)) ?_
          refine tW (.pointer (some ⟨g9, 0 + i * 7, none⟩)) (exec_ixA 28 7 Try.und30e Try.size30e _ _ rfl g9 0 b.l.l b.l.k i (Eq.trans (b := b.l.v) (by kernel_rfl) hsl.out) (by kernel_rfl) hlt) ?_
          try simp only [pS]
          obtain ⟨cs9, hrun9, hown9⟩ := HL.out.set hlt hg9 ⟨0, (-1), 0, 0, 0, 0, 0⟩
          refine wp_storeW 94 _ _ rfl ⟨g9, 0 + i * 7, none⟩ (.agg (La.cells ⟨0, (-1), 0, 0, 0, 0, 0⟩)) (by kernel_rfl) (by kernel_rfl) (wr.setRow g9 cs9) hrun9 (by kernel_rfl) ?_
          try simp only [pS]
          have HE : Hid (OwE (wr.setRow g9 cs9) base b.e es2) := HE.out.kept (Kept.setRow _ _ _) (fun k e f => HL.out.own.apart HE.out.own (by decide) (show At b.l.a k from ⟨_, hg9, f.symm⟩) e)
          have HF : Hid (Fr (fun k => At b.e.a k ∨ At b.l.a k) w (wr.setRow g9 cs9) [(gk1, 30, Bv.cells b)]) := HF.out.via (Kept.setRow _ _ _) (fun k e => ⟨by have e : k = g9 := e; rw [e]; exact htL _ ⟨_, hg9, rfl⟩, .inr ⟨_, hg9, (show k = g9 from e).symm⟩⟩)
          have HL : Hid (OwL (wr.setRow g9 cs9) base b.l (cur.set i ⟨0, (-1), 0, 0, 0, 0, 0⟩)) := hown9
          clear hrun9 hown9
          generalize wr.setRow g9 cs9 = wk4 at HF HE HL ⊢
          refine WL.nil ?_
          try simp only [pS]
          go_upto_region 7 with fail
          refine WL.start ?_
          refine tK (.int .i64 ((i : Nat) : Int)) ?_
          refine tW (.int .i64 (((i + 1) : Nat) : Int)) (eB .add 3 _ _ _ rfl (.int .i64 ((i : Nat) : Int)) (.int .i64 1) _ (b_addw _ _ _ (by rw [IntKind.wrap_i64]; omega) _)) ?_
          refine tK (.int .i64 (((i + 1) : Nat) : Int)) ?_
          try simp only [pS]
          refine WL.nil ?_
          try simp only [pS]
          go_wp2
          go_roundw
          case rel => exact ⟨i + 1, _, by go_num, by omega, HL, HE, HF⟩
          case measure => simp [intOf]; omega
        · skip
          go_upto_region 6 with fail
          refine WL.start ?_
          refine tK (.int .i64 ((i : Nat) : Int)) ?_
          refine tK (.pointer (some ⟨gk1, 2, none⟩)) ?_
          refine tW (b.l.v) (eL 28 _ rfl ⟨gk1, 2, none⟩ (load_one ((HF.out.box 0 _ _ _ rfl).cell 2 |>.trans (by kernel_rfl)) Try.und30 rfl)) ?_
          refine tK (.int .i64 ((b.l.l : Nat) : Int)) ?_
          refine tW (.bool false) (eB .lss 3 _ _ _ rfl (.int .i64 ((i : Nat) : Int)) (.int .i64 ((b.l.l : Nat) : Int)) _ (by rw [b_lss, decide_eq_false (by omega)])) ?_
          try simp only [pS]
          refine WL.nil ?_
          try simp only [pS]
          go_wp2
          rw [HC.out]
          refine bodyPost_end (v := .tuple #[]) (by kernel_rfl) rfl ⟨rfl, HF.out.kept⟩
def SmOut (w : World) (base : Nat) (m : Mg) (e : Ending) (w' : World) : Prop := e = .returned (.tuple #[]) ∧ (∃ cur, OwC w' base m.cm cur ∧ ∀ j, j < m.cm.l → cur[j]? = some spoC) ∧ Kept (fun k => At m.bk.e.a k ∨ At m.bk.l.a k ∨ At m.cm.a k) w w'
theorem spo_next {cur : List Cm} {i n : Nat} (hx : cur.length = n ∧ ∀ j, j < i → cur[j]? = some spoC) (hi : i < n) : (cur.set i spoC).length = n ∧ ∀ j, j < i + 1 → (cur.set i spoC)[j]? = some spoC := by
  refine ⟨by rw [List.length_set]; exact hx.1, fun j hj => ?_⟩
  by_cases e : j = i
  · subst e; rw [List.getElem?_set_self (by omega)]
  · rw [List.getElem?_set_ne (by omega)]; exact hx.2 j (by omega)
set_option maxRecDepth 100000 in
set_option maxHeartbeats 4000000 in
theorem spoilM (m : Mg) (base : Nat) (A : Aw) (w : World) (h : MgOw w base m A) (hb : m.bl.l = 0) (n1 : m.bk.e.l ≤ 4000000000000) (n2 : m.bk.l.l ≤ 4000000000000) (n3 : m.cm.l ≤ 4000000000000) : Calls Try.prog 10 #[.agg (Mg.cells m)] w (SmOut w base m) := by
  obtain ⟨C, hC⟩ : ∃ C : Ending → World → Prop, C = (SmOut w base m) := ⟨_, rfl⟩
  have HC : Hid (C = (SmOut w base m)) := hC
  rw [← hC]
  clear hC
  have htE : ∀ k, At m.bk.e.a k → k < w.heap.size := fun k e => h.e.own.lt e
  have htL : ∀ k, At m.bk.l.a k → k < w.heap.size := fun k e => h.l.own.lt e
  have htC : ∀ k, At m.cm.a k → k < w.heap.size := fun k e => h.c.own.lt e
  have hlc : A.c.length = m.cm.l := h.c.len
  have HE : Hid (OwE w base m.bk.e A.e) := h.e
  have HL : Hid (OwL w base m.bk.l A.l) := h.l
  have HP : Hid (OwC w base m.cm A.c) := h.c
  clear h
  have HF : Hid (Fr (fun k => At m.bk.e.a k ∨ At m.bk.l.a k ∨ At m.cm.a k) w w []) := Fr.start _ _
  go_enter Try.func10, Try.ntmps10
  go_upto_region 0 with fail
  refine WL.start ?_
  refine wp_runW (.pointer (some ⟨w.heap.size, 0, none⟩)) (w.alloc (.cells (Mg.cells m) 46)) (exec_box 46 _ rfl (Mg.cells m) (by kernel_rfl)) (by kernel_rfl) ?_
  try simp only [pS]
  have HE : Hid (OwE (w.alloc (.cells (Mg.cells m) 46)) base m.bk.e A.e) := HE.out.no ((Kept.refl No _).alloc _)
  have HL : Hid (OwL (w.alloc (.cells (Mg.cells m) 46)) base m.bk.l A.l) := HL.out.no ((Kept.refl No _).alloc _)
  have HP : Hid (OwC (w.alloc (.cells (Mg.cells m) 46)) base m.cm A.c) := HP.out.no ((Kept.refl No _).alloc _)
  have HF : Hid (Fr (fun k => At m.bk.e.a k ∨ At m.bk.l.a k ∨ At m.cm.a k) w _ [(w.heap.size, 46, Mg.cells m)]) := HF.out.alloc _ _
  generalize w.alloc (.cells (Mg.cells m) 46) = wk2 at HF HE HL HP ⊢
  generalize w.heap.size = gk1 at HF ⊢
  refine WL.nil ?_
  try simp only [pS]
  go_upto_region 1 with fail
  refine WL.start ?_
  refine tK (.int .i64 0) ?_
  try simp only [pS]
  refine WL.nil ?_
  try simp only [pS]
  go_wp2
  go_loopw [2] (fun v5 wr => v5 = .int .i64 ((0 : Nat) : Int) ∧ Hid (OwE wr base m.bk.e A.e) ∧ Hid (OwL wr base m.bk.l A.l) ∧ Hid (OwC wr base m.cm A.c) ∧ Hid (Fr (fun k => At m.bk.e.a k ∨ At m.bk.l.a k ∨ At m.cm.a k) w wr [(gk1, 46, Mg.cells m)])) (fun i _ => 0)
  case atStart => exact ⟨by go_num, HE, HL, HP, HF⟩
  case round =>
    clear HF HE HL HP
    obtain ⟨rfl, HE, HL, HP, HF⟩ := hrel
    go_upto_region 2 with fail
    refine WL.start ?_
    refine tK (.int .i64 ((0 : Nat) : Int)) ?_
    refine tK (.pointer (some ⟨gk1, 15, none⟩)) ?_
    refine tW (m.bl.v) (eL 24 _ rfl ⟨gk1, 15, none⟩ (load_one ((HF.out.box 0 _ _ _ rfl).cell 15 |>.trans (by kernel_rfl)) Try.und26 rfl)) ?_
    refine tK (.int .i64 ((m.bl.l : Nat) : Int)) ?_
    refine tW (.bool false) (eB .lss 3 _ _ _ rfl (.int .i64 ((0 : Nat) : Int)) (.int .i64 ((m.bl.l : Nat) : Int)) _ (by rw [b_lss, decide_eq_false (by omega)])) ?_
    try simp only [pS]
    refine WL.nil ?_
    try simp only [pS]
    go_upto_region 5 with fail
    refine WL.start ?_
    refine tK (.int .i64 0) ?_
    try simp only [pS]
    refine WL.nil ?_
    try simp only [pS]
    go_wp2
    go_loopw [3] (fun v5 wr => ∃ (i : Nat) (cur : List Cm), v5 = .int .i64 ((i : Nat) : Int) ∧ i ≤ m.cm.l ∧ (cur.length = m.cm.l ∧ ∀ j, j < i → cur[j]? = some spoC) ∧ Hid (OwC wr base m.cm cur) ∧ Hid (OwE wr base m.bk.e A.e) ∧ Hid (OwL wr base m.bk.l A.l) ∧ Hid (Fr (fun k => At m.bk.e.a k ∨ At m.bk.l.a k ∨ At m.cm.a k) w wr [(gk1, 46, Mg.cells m)])) (fun i _ => m.cm.l - (intOf i).toNat)
    case atStart => exact ⟨0, _, by go_num, by omega, ⟨hlc, fun j hj => absurd hj (Nat.not_lt_zero _)⟩, HP, HE, HL, HF⟩
    case round =>
      clear HF HE HL HP
      obtain ⟨i, cur, rfl, hi, hx9, HP, HE, HL, HF⟩ := hrel
      by_cases hlt : i < m.cm.l
      · skip
        obtain ⟨g9, hg9⟩ := HP.out.own.some (by omega)
        have hsl : Hid (m.cm.v = .slice (some ⟨g9, 0, none⟩) m.cm.l m.cm.k) := by show Value.slice _ _ _ = _; rw [hg9]
        go_upto_region 6 with fail
        refine WL.start ?_
        refine tK (.int .i64 ((i : Nat) : Int)) ?_
        refine tK (.pointer (some ⟨gk1, 28, none⟩)) ?_
        refine tW (m.cm.v) (eL 44 _ rfl ⟨gk1, 28, none⟩ (load_one ((HF.out.box 0 _ _ _ rfl).cell 28 |>.trans (by kernel_rfl)) Try.und48 rfl)) ?_
        refine tK (.int .i64 ((m.cm.l : Nat) : Int)) ?_
        refine tW (.bool true) (eB .lss 3 _ _ _ rfl (.int .i64 ((i : Nat) : Int)) (.int .i64 ((m.cm.l : Nat) : Int)) _ (by rw [b_lss, decide_eq_true (by omega)])) ?_
        try simp only [pS]
        refine WL.nil ?_
        try simp only [pS]
        go_upto_region 8 with fail
        refine WL.start ?_
        refine tK (.pointer (some ⟨gk1, 28, none⟩)) ?_
        refine tW (m.cm.v) (eL 44 _ rfl ⟨gk1, 28, none⟩ (load_one ((HF.out.box 0 _ _ _ rfl).cell 28 |>.trans (by kernel_rfl)) Try.und48 rfl)) ?_
        refine tK (.int .i64 ((i : Nat) : Int)) ?_
        refine tW (.agg (Cm.cells ⟨0, 0, 0, ⟨#[115, 112, 111, 105, 108, 116]⟩, 0, 0, 0, 0, 0⟩)) (exec_build 43 _ rfl (Cm.cells ⟨0, 0, 0, ⟨#[115, 112, 111, 105, 108, 116]⟩, 0, 0, 0, 0, 0⟩) (by kernel_rfl)) ?_
        refine tW (.pointer (some ⟨g9, 0 + i * 9, none⟩)) (exec_ixA 44 9 Try.und48e Try.size48e _ _ rfl g9 0 m.cm.l m.cm.k i (Eq.trans (b := m.cm.v) (by kernel_rfl) hsl.out) (by kernel_rfl) hlt) ?_
        try simp only [pS]
        obtain ⟨cs9, hrun9, hown9⟩ := HP.out.set hlt hg9 ⟨0, 0, 0, ⟨#[115, 112, 111, 105, 108, 116]⟩, 0, 0, 0, 0, 0⟩
        refine wp_storeW 43 _ _ rfl ⟨g9, 0 + i * 9, none⟩ (.agg (Cm.cells ⟨0, 0, 0, ⟨#[115, 112, 111, 105, 108, 116]⟩, 0, 0, 0, 0, 0⟩)) (by kernel_rfl) (by kernel_rfl) (wr.setRow g9 cs9) hrun9 (by kernel_rfl) ?_
        try simp only [pS]
        have HE : Hid (OwE (wr.setRow g9 cs9) base m.bk.e A.e) := HE.out.kept (Kept.setRow _ _ _) (fun k e f => HP.out.own.apart HE.out.own (by decide) (show At m.cm.a k from ⟨_, hg9, f.symm⟩) e)
        have HL : Hid (OwL (wr.setRow g9 cs9) base m.bk.l A.l) := HL.out.kept (Kept.setRow _ _ _) (fun k e f => HP.out.own.apart HL.out.own (by decide) (show At m.cm.a k from ⟨_, hg9, f.symm⟩) e)
        have HF : Hid (Fr (fun k => At m.bk.e.a k ∨ At m.bk.l.a k ∨ At m.cm.a k) w (wr.setRow g9 cs9) [(gk1, 46, Mg.cells m)]) := HF.out.via (Kept.setRow _ _ _) (fun k e => ⟨by have e : k = g9 := e; rw [e]; exact htC _ ⟨_, hg9, rfl⟩, .inr (.inr ⟨_, hg9, (show k = g9 from e).symm⟩)⟩)
        have HP : Hid (OwC (wr.setRow g9 cs9) base m.cm (cur.set i ⟨0, 0, 0, ⟨#[115, 112, 111, 105, 108, 116]⟩, 0, 0, 0, 0, 0⟩)) := hown9
        clear hrun9 hown9
        generalize wr.setRow g9 cs9 = wk3 at HF HE HL HP ⊢
        refine WL.nil ?_
        try simp only [pS]
        go_upto_region 7 with fail
        refine WL.start ?_
        refine tK (.int .i64 ((i : Nat) : Int)) ?_
        refine tW (.int .i64 (((i + 1) : Nat) : Int)) (eB .add 3 _ _ _ rfl (.int .i64 ((i : Nat) : Int)) (.int .i64 1) _ (b_addw _ _ _ (by rw [IntKind.wrap_i64]; omega) _)) ?_
        refine tK (.int .i64 (((i + 1) : Nat) : Int)) ?_
        try simp only [pS]
        refine WL.nil ?_
        try simp only [pS]
        go_wp2
        go_roundw
        case rel => exact ⟨i + 1, _, by go_num, by omega, spo_next hx9 hlt, HP, HE, HL, HF⟩
        case measure => simp [intOf]; omega
      · skip
        go_upto_region 6 with fail
        refine WL.start ?_
        refine tK (.int .i64 ((i : Nat) : Int)) ?_
        refine tK (.pointer (some ⟨gk1, 28, none⟩)) ?_
        refine tW (m.cm.v) (eL 44 _ rfl ⟨gk1, 28, none⟩ (load_one ((HF.out.box 0 _ _ _ rfl).cell 28 |>.trans (by kernel_rfl)) Try.und48 rfl)) ?_
        refine tK (.int .i64 ((m.cm.l : Nat) : Int)) ?_
        refine tW (.bool false) (eB .lss 3 _ _ _ rfl (.int .i64 ((i : Nat) : Int)) (.int .i64 ((m.cm.l : Nat) : Int)) _ (by rw [b_lss, decide_eq_false (by omega)])) ?_
        try simp only [pS]
        refine WL.nil ?_
        try simp only [pS]
        go_upto_region 9 with fail
        refine WL.start ?_
        refine tK (.pointer (some ⟨gk1, 25, none⟩)) ?_
        refine tW (.agg (Bv.cells m.bk)) (eL 30 _ rfl ⟨gk1, 25, none⟩ (run_load_part (cs := Mg.cs m) (sub := Bv.cs m.bk) (HF.out.box 0 _ _ _ rfl) (part_of (by kernel_rfl)) Try.und32 rfl Try.size32)) ?_
        try simp only [pS]
        refine wp_callW 15 #[.agg (Bv.cells m.bk)] (by kernel_rfl) _ (spoilO m.bk base A.e A.l _ HE.out HL.out n1 n2) (by kernel_rfl) ?_
        rintro e wk4 ⟨rfl, hk⟩
        have HF : Hid (Fr (fun k => At m.bk.e.a k ∨ At m.bk.l.a k ∨ At m.cm.a k) w (wk4) [(gk1, 46, Mg.cells m)]) := HF.out.via hk (fun k e => by rcases e with e | e; exact ⟨htE k e, .inl e⟩; exact ⟨htL k e, .inr (.inl e)⟩)
        have HP : Hid (OwC wk4 base m.cm cur) := HP.out.kept hk (fun k e f => by rcases f with f | f; exact HP.out.own.apart HE.out.own (by decide) e f; exact HP.out.own.apart HL.out.own (by decide) e f)
        clear hk
        refine ⟨.tuple #[], rfl, ?_⟩
        try simp only [pS]
        refine WL.nil ?_
        try simp only [pS]
        go_wp2
        rw [HC.out]
        refine bodyPost_end (v := .tuple #[]) (by kernel_rfl) rfl ⟨rfl, ⟨cur, HP.out, fun j hj => hx9.2 j (by omega)⟩, HF.out.kept⟩

end Go.Proofs.Ytcgnbpaaalmkoab
