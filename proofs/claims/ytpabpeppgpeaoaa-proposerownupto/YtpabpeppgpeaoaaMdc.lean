import Derived.Test.YtpabpeppgpeaoaaMdb
namespace Go.Proofs.Ytpabpeppgpeaoaa.Md
open Go.RowKit
set_option linter.unusedVariables false
set_option linter.unusedSimpArgs false

theorem _root_.Go.Proofs.Ytpabpeppgpeaoaa.Box.ne {w : World} {g g' : Nat} {t t' : TypeId} {cs cs' : Array Value} (h : Box w g t cs) (h' : Box w g' t' cs') (ht : t ≠ t') : g ≠ g' := by
  intro e
  subst e
  unfold Box at h h'
  rw [h] at h'
  exact ht (by injection (Option.some.inj h'))
set_option maxRecDepth 100000 in
set_option maxHeartbeats 4000000 in
theorem spoilK_any (u : Int) (ge gl n m xk yk : Nat) (es : List En) (ls : List La) (w : World) (hbe : Box w ge 124 (enL es).toArray) (hbl : Box w gl 127 (laL ls).toArray) (hn : n ≤ es.length) (hm : m ≤ ls.length) (hn2 : n ≤ 4000000000000) (hm2 : m ≤ 4000000000000) : Calls Try.prog 59 #[.agg (Bv.cells ⟨u, ⟨some ⟨ge, 0, none⟩, n, xk⟩, ⟨some ⟨gl, 0, none⟩, m, yk⟩⟩)] w (fun e w' => e = .returned (.tuple #[]) ∧ Kept (fun k => k = ge ∨ k = gl) w w') := by
  refine hideC fun C HC => ?_
  have hne : ge ≠ gl := hbe.ne hbl (by decide)
  have hte : ge < w.heap.size := hbe.lt
  have htl : gl < w.heap.size := hbl.lt
  have HE : Hid (Box w ge 124 (enL es).toArray) := hbe
  have HL : Hid (Box w gl 127 (laL ls).toArray) := hbl
  clear hbe hbl
  have HF : Hid (Fr (fun k => k = ge ∨ k = gl) w w []) := Fr.start _ _
  go_enter Try.func59, Try.ntmps59
  go_upto_region 0 with fail
  refine WL.start ?_
  refine uR (pV w.heap.size 0) (w.alloc (.cells (Bv.cells ⟨u, ⟨some ⟨ge, 0, none⟩, n, xk⟩, ⟨some ⟨gl, 0, none⟩, m, yk⟩⟩) 44)) (exec_box 44 _ rfl (Bv.cells ⟨u, ⟨some ⟨ge, 0, none⟩, n, xk⟩, ⟨some ⟨gl, 0, none⟩, m, yk⟩⟩) (by kernel_rfl)) ?_
  try simp only [pS]
  have HE : Hid (Box (w.alloc (.cells (Bv.cells ⟨u, ⟨some ⟨ge, 0, none⟩, n, xk⟩, ⟨some ⟨gl, 0, none⟩, m, yk⟩⟩) 44)) ge 124 (enL es).toArray) := HE.out.no ((Kept.refl No _).alloc _)
  have HL : Hid (Box (w.alloc (.cells (Bv.cells ⟨u, ⟨some ⟨ge, 0, none⟩, n, xk⟩, ⟨some ⟨gl, 0, none⟩, m, yk⟩⟩) 44)) gl 127 (laL ls).toArray) := HL.out.no ((Kept.refl No _).alloc _)
  have HF : Hid (Fr (fun k => k = ge ∨ k = gl) w (w.alloc (.cells (Bv.cells ⟨u, ⟨some ⟨ge, 0, none⟩, n, xk⟩, ⟨some ⟨gl, 0, none⟩, m, yk⟩⟩) 44)) [(w.heap.size, 44, Bv.cells ⟨u, ⟨some ⟨ge, 0, none⟩, n, xk⟩, ⟨some ⟨gl, 0, none⟩, m, yk⟩⟩)]) := HF.out.alloc _ _
  generalize w.alloc (.cells (Bv.cells ⟨u, ⟨some ⟨ge, 0, none⟩, n, xk⟩, ⟨some ⟨gl, 0, none⟩, m, yk⟩⟩) 44) = wk2 at HF HE HL ⊢
  generalize w.heap.size = gk1 at HF ⊢
  refine WL.nil ?_
  try simp only [pS]
  go_upto_region 1 with fail
  refine WL.start <| uK (.int .i64 0) <| WL.nil <| ?_
  try simp only [pS]
  go_wp2
  go_loopw [2] (fun v5 wr => ∃ (i : Nat) (cur : List En), v5 = .int .i64 ((i : Nat) : Int) ∧ i ≤ n ∧ n ≤ cur.length ∧ Hid (Box wr ge 124 (enL cur).toArray) ∧ Hid (Box wr gl 127 (laL ls).toArray) ∧ Hid (Fr (fun k => k = ge ∨ k = gl) w wr [(gk1, 44, Bv.cells ⟨u, ⟨some ⟨ge, 0, none⟩, n, xk⟩, ⟨some ⟨gl, 0, none⟩, m, yk⟩⟩)])) (fun i _ => n - (intOf i).toNat)
  case atStart => exact ⟨0, es, by go_num, by omega, hn, HE, HL, HF⟩
  case round =>
    clear HF HE HL
    obtain ⟨i, cur, rfl, hi, hcl, HE, HL, HF⟩ := hrel
    by_cases hlt : i < n
    · skip
      go_upto_region 2 with fail
      refine WL.start <| uK (.int .i64 ((i : Nat) : Int)) <| uK (pV gk1 1) <| uL 41 ⟨gk1, 1, none⟩ (.slice (some ⟨ge, 0, none⟩) n xk) (load_one ((HF.out.box 0 _ _ _ rfl).cell 1 |>.trans (by kernel_rfl)) Try.und29 rfl) <| uK (.int .i64 ((n : Nat) : Int)) <| uB .lss 3 (.int .i64 ((i : Nat) : Int)) (.int .i64 ((n : Nat) : Int)) (.bool true) (by rw [b_lss, decide_eq_true (by omega)]) <| WL.nil <| ?_
      try simp only [pS]
      go_upto_region 4 with fail
      refine WL.start <| uK (pV gk1 1) <| uL 41 ⟨gk1, 1, none⟩ (.slice (some ⟨ge, 0, none⟩) n xk) (load_one ((HF.out.box 0 _ _ _ rfl).cell 1 |>.trans (by kernel_rfl)) Try.und29 rfl) <| uK (.int .i64 ((i : Nat) : Int)) <| uW (.agg (En.cells ⟨⟨#[115, 112, 111, 105, 108, 116]⟩, 0, 0, 0⟩)) (exec_build 124 _ rfl (En.cells ⟨⟨#[115, 112, 111, 105, 108, 116]⟩, 0, 0, 0⟩) (by kernel_rfl)) <| uW (pV ge (0 + i * 4)) (exec_ixA 41 4 Try.und29e Try.size29e _ _ rfl ge 0 n xk i (by kernel_rfl) (by kernel_rfl) (by omega)) <| ?_
      try simp only [pS]
      refine uT 124 ⟨ge, 0 + i * 4, none⟩ (.agg (En.cells ⟨⟨#[115, 112, 111, 105, 108, 116]⟩, 0, 0, 0⟩)) (wr.setRow ge (enL (cur.set i ⟨⟨#[115, 112, 111, 105, 108, 116]⟩, 0, 0, 0⟩)).toArray) (st_E _ HE.out (by omega)) ?_
      try simp only [pS]
      have HL : Hid (Box (wr.setRow ge (enL (cur.set i ⟨⟨#[115, 112, 111, 105, 108, 116]⟩, 0, 0, 0⟩)).toArray) gl 127 (laL ls).toArray) := HL.out.rowNe (hne.symm) _
      have HE : Hid (Box (wr.setRow ge (enL (cur.set i ⟨⟨#[115, 112, 111, 105, 108, 116]⟩, 0, 0, 0⟩)).toArray) ge 124 (enL (cur.set i ⟨⟨#[115, 112, 111, 105, 108, 116]⟩, 0, 0, 0⟩)).toArray) := Box.setRow HE.out _
      have HF : Hid (Fr (fun k => k = ge ∨ k = gl) w (wr.setRow ge (enL (cur.set i ⟨⟨#[115, 112, 111, 105, 108, 116]⟩, 0, 0, 0⟩)).toArray) [(gk1, 44, Bv.cells ⟨u, ⟨some ⟨ge, 0, none⟩, n, xk⟩, ⟨some ⟨gl, 0, none⟩, m, yk⟩⟩)]) := HF.out.via (Kept.setRow _ _ _) (fun k e => ⟨by have e : k = ge := e; omega, .inl e⟩)
      generalize wr.setRow ge (enL (cur.set i ⟨⟨#[115, 112, 111, 105, 108, 116]⟩, 0, 0, 0⟩)).toArray = wk3 at HF HE HL ⊢
      refine WL.nil ?_
      try simp only [pS]
      go_upto_region 3 with fail
      refine WL.start <| uK (.int .i64 ((i : Nat) : Int)) <| uB .add 3 (.int .i64 ((i : Nat) : Int)) (.int .i64 1) (.int .i64 (((i + 1) : Nat) : Int)) (b_addw _ _ _ (by rw [IntKind.wrap_i64]; omega) _) <| uK (.int .i64 (((i + 1) : Nat) : Int)) <| WL.nil <| ?_
      try simp only [pS]
      go_wp2
      go_roundw
      case rel => exact ⟨i + 1, _, by go_num, by omega, by rw [List.length_set]; exact hcl, HE, HL, HF⟩
      case measure => simp [intOf]; omega
    · skip
      clear hcl
      go_upto_region 2 with fail
      refine WL.start <| uK (.int .i64 ((i : Nat) : Int)) <| uK (pV gk1 1) <| uL 41 ⟨gk1, 1, none⟩ (.slice (some ⟨ge, 0, none⟩) n xk) (load_one ((HF.out.box 0 _ _ _ rfl).cell 1 |>.trans (by kernel_rfl)) Try.und29 rfl) <| uK (.int .i64 ((n : Nat) : Int)) <| uB .lss 3 (.int .i64 ((i : Nat) : Int)) (.int .i64 ((n : Nat) : Int)) (.bool false) (by rw [b_lss, decide_eq_false (by omega)]) <| WL.nil <| ?_
      try simp only [pS]
      obtain ⟨es2, hes2⟩ : ∃ l : List En, l = cur := ⟨_, rfl⟩
      rw [← hes2] at HE
      clear hes2
      go_upto_region 5 with fail
      refine WL.start <| uK (.int .i64 0) <| WL.nil <| ?_
      try simp only [pS]
      go_wp2
      go_loopw [3] (fun v5 wr => ∃ (i : Nat) (cur : List La), v5 = .int .i64 ((i : Nat) : Int) ∧ i ≤ m ∧ m ≤ cur.length ∧ Hid (Box wr gl 127 (laL cur).toArray) ∧ Hid (Box wr ge 124 (enL es2).toArray) ∧ Hid (Fr (fun k => k = ge ∨ k = gl) w wr [(gk1, 44, Bv.cells ⟨u, ⟨some ⟨ge, 0, none⟩, n, xk⟩, ⟨some ⟨gl, 0, none⟩, m, yk⟩⟩)])) (fun i _ => m - (intOf i).toNat)
      case atStart => exact ⟨0, ls, by go_num, by omega, hm, HL, HE, HF⟩
      case round =>
        clear HF HE HL
        obtain ⟨i, cur, rfl, hi, hcl, HL, HE, HF⟩ := hrel
        by_cases hlt : i < m
        · skip
          go_upto_region 6 with fail
          refine WL.start <| uK (.int .i64 ((i : Nat) : Int)) <| uK (pV gk1 2) <| uL 42 ⟨gk1, 2, none⟩ (.slice (some ⟨gl, 0, none⟩) m yk) (load_one ((HF.out.box 0 _ _ _ rfl).cell 2 |>.trans (by kernel_rfl)) Try.und30 rfl) <| uK (.int .i64 ((m : Nat) : Int)) <| uB .lss 3 (.int .i64 ((i : Nat) : Int)) (.int .i64 ((m : Nat) : Int)) (.bool true) (by rw [b_lss, decide_eq_true (by omega)]) <| WL.nil <| ?_
          try simp only [pS]
          go_upto_region 8 with fail
          refine WL.start <| uK (pV gk1 2) <| uL 42 ⟨gk1, 2, none⟩ (.slice (some ⟨gl, 0, none⟩) m yk) (load_one ((HF.out.box 0 _ _ _ rfl).cell 2 |>.trans (by kernel_rfl)) Try.und30 rfl) <| uK (.int .i64 ((i : Nat) : Int)) <| uW (.agg (La.cells ⟨0, (-1), 0, 0, 0, 0, 0⟩)) (exec_build 127 _ rfl (La.cells ⟨0, (-1), 0, 0, 0, 0, 0⟩) (by kernel_rfl)) <| uW (pV gl (0 + i * 7)) (exec_ixA 42 7 Try.und30e Try.size30e _ _ rfl gl 0 m yk i (by kernel_rfl) (by kernel_rfl) (by omega)) <| ?_
          try simp only [pS]
          refine uT 127 ⟨gl, 0 + i * 7, none⟩ (.agg (La.cells ⟨0, (-1), 0, 0, 0, 0, 0⟩)) (wr.setRow gl (laL (cur.set i ⟨0, (-1), 0, 0, 0, 0, 0⟩)).toArray) (st_L _ HL.out (by omega)) ?_
          try simp only [pS]
          have HE : Hid (Box (wr.setRow gl (laL (cur.set i ⟨0, (-1), 0, 0, 0, 0, 0⟩)).toArray) ge 124 (enL es2).toArray) := HE.out.rowNe (hne) _
          have HL : Hid (Box (wr.setRow gl (laL (cur.set i ⟨0, (-1), 0, 0, 0, 0, 0⟩)).toArray) gl 127 (laL (cur.set i ⟨0, (-1), 0, 0, 0, 0, 0⟩)).toArray) := Box.setRow HL.out _
          have HF : Hid (Fr (fun k => k = ge ∨ k = gl) w (wr.setRow gl (laL (cur.set i ⟨0, (-1), 0, 0, 0, 0, 0⟩)).toArray) [(gk1, 44, Bv.cells ⟨u, ⟨some ⟨ge, 0, none⟩, n, xk⟩, ⟨some ⟨gl, 0, none⟩, m, yk⟩⟩)]) := HF.out.via (Kept.setRow _ _ _) (fun k e => ⟨by have e : k = gl := e; omega, .inr e⟩)
          generalize wr.setRow gl (laL (cur.set i ⟨0, (-1), 0, 0, 0, 0, 0⟩)).toArray = wk4 at HF HL HE ⊢
          refine WL.nil ?_
          try simp only [pS]
          go_upto_region 7 with fail
          refine WL.start <| uK (.int .i64 ((i : Nat) : Int)) <| uB .add 3 (.int .i64 ((i : Nat) : Int)) (.int .i64 1) (.int .i64 (((i + 1) : Nat) : Int)) (b_addw _ _ _ (by rw [IntKind.wrap_i64]; omega) _) <| uK (.int .i64 (((i + 1) : Nat) : Int)) <| WL.nil <| ?_
          try simp only [pS]
          go_wp2
          go_roundw
          case rel => exact ⟨i + 1, _, by go_num, by omega, by rw [List.length_set]; exact hcl, HL, HE, HF⟩
          case measure => simp [intOf]; omega
        · skip
          go_upto_region 6 with fail
          refine WL.start <| uK (.int .i64 ((i : Nat) : Int)) <| uK (pV gk1 2) <| uL 42 ⟨gk1, 2, none⟩ (.slice (some ⟨gl, 0, none⟩) m yk) (load_one ((HF.out.box 0 _ _ _ rfl).cell 2 |>.trans (by kernel_rfl)) Try.und30 rfl) <| uK (.int .i64 ((m : Nat) : Int)) <| uB .lss 3 (.int .i64 ((i : Nat) : Int)) (.int .i64 ((m : Nat) : Int)) (.bool false) (by rw [b_lss, decide_eq_false (by omega)]) <| WL.nil <| ?_
          try simp only [pS]
          go_wp2
          rw [HC.out]
          refine bodyPost_end (v := .tuple #[]) (by kernel_rfl) rfl ⟨rfl, HF.out.kept⟩

end Go.Proofs.Ytpabpeppgpeaoaa.Md
namespace Go.Proofs.Ytpabpeppgpeaoaa.Md
open Go.RowKit
set_option linter.unusedVariables false
set_option linter.unusedSimpArgs false
theorem b_add8 (x : Int) (w : World) : (binOp .add 5 (.int .u8 x) (.int .u8 1)).run Try.prog w = .ok (.int .u8 (IntKind.u8.wrap (x + 1))) w := by kernel_rfl
theorem Fr.of_no {S : Nat → Prop} {w0 w : World} {l : List (Nat × TypeId × Array Value)} (h : Fr No w0 w l) : Fr S w0 w l := ⟨h.kept.of_no, h.box, h.low, h.inj⟩
end Go.Proofs.Ytpabpeppgpeaoaa.Md
namespace Go.Proofs.Ytpabpeppgpeaoaa.Md
open Go.RowKit
set_option linter.unusedVariables false
set_option linter.unusedSimpArgs false

def likeM (m : Mg) (sb : Sl) (se : Option Addr) (ke : Nat) (sl : Option Addr) (kl : Nat) (sc : Option Addr) (kc : Nat) : Mg := ⟨m.k, m.fr, m.too, m.op, m.rd, m.ky, m.st, m.hd, sb, m.c, ⟨m.bk.up, ⟨se, m.bk.e.l, ke⟩, ⟨sl, m.bk.l.l, kl⟩⟩, ⟨sc, m.cm.l, kc⟩, m.mo⟩
set_option maxRecDepth 100000 in
set_option maxHeartbeats 4000000 in
theorem sameM_any (m : Mg) (sb : Sl) (se : Option Addr) (ke : Nat) (sl : Option Addr) (kl : Nat) (sc : Option Addr) (kc : Nat) (bs : List Int) (es : List En) (ls : List La) (cs : List Cm) (w : World) (hb1 : RdB w m.bl bs) (hb2 : RdB w sb bs) (he1 : RdE w m.bk.e es) (he2 : RdE w ⟨se, m.bk.e.l, ke⟩ es) (hl1 : RdL w m.bk.l ls) (hl2 : RdL w ⟨sl, m.bk.l.l, kl⟩ ls) (hc1 : RdC w m.cm cs) (hc2 : RdC w ⟨sc, m.cm.l, kc⟩ cs) (hn : m.bk.e.l ≤ 4000000000000) (hm : m.bk.l.l ≤ 4000000000000) (hq : m.cm.l ≤ 4000000000000) : Calls Try.prog 52 #[.agg (Mg.cells m), .agg (Mg.cells (likeM m sb se ke sl kl sc kc))] w (fun e w' => e = .returned (.bool true) ∧ Kept No w w') := by
  refine hideC fun C HC => ?_
  have HB1 : Hid (RdB w m.bl bs) := hb1
  have HB2 : Hid (RdB w sb bs) := hb2
  have HE1 : Hid (RdE w m.bk.e es) := he1
  have HE2 : Hid (RdE w ⟨se, m.bk.e.l, ke⟩ es) := he2
  have HL1 : Hid (RdL w m.bk.l ls) := hl1
  have HL2 : Hid (RdL w ⟨sl, m.bk.l.l, kl⟩ ls) := hl2
  have HC1 : Hid (RdC w m.cm cs) := hc1
  have HC2 : Hid (RdC w ⟨sc, m.cm.l, kc⟩ cs) := hc2
  have LC : Hid (cs.length = m.cm.l) := hc1.len
  clear hb1 hb2 he1 he2 hl1 hl2 hc1 hc2
  have HF : Hid (Fr No w w []) := Fr.start _ _
  go_enter Try.func52, Try.ntmps52
  go_upto_region 0 with fail
  refine WL.start ?_
  refine uR (pV w.heap.size 0) (w.alloc (.cells (Mg.cells m) 47)) (exec_box 47 _ rfl (Mg.cells m) (by kernel_rfl)) ?_
  try simp only [pS]
  have HF : Hid (Fr No w (w.alloc (.cells (Mg.cells m) 47)) [(w.heap.size, 47, Mg.cells m)]) := HF.out.alloc _ _
  generalize w.alloc (.cells (Mg.cells m) 47) = wk2 at HF ⊢
  generalize w.heap.size = gk1 at HF ⊢
  refine uR (pV wk2.heap.size 0) (wk2.alloc (.cells (Mg.cells (likeM m sb se ke sl kl sc kc)) 47)) (exec_box 47 _ rfl (Mg.cells (likeM m sb se ke sl kl sc kc)) (by kernel_rfl)) ?_
  try simp only [pS]
  have HF : Hid (Fr No w (wk2.alloc (.cells (Mg.cells (likeM m sb se ke sl kl sc kc)) 47)) [(gk1, 47, Mg.cells m), (wk2.heap.size, 47, Mg.cells (likeM m sb se ke sl kl sc kc))]) := HF.out.alloc _ _
  generalize wk2.alloc (.cells (Mg.cells (likeM m sb se ke sl kl sc kc)) 47) = wk4 at HF ⊢
  generalize wk2.heap.size = gk3 at HF ⊢
  refine uK (.bool false) <| WL.nil <| ?_
  try simp only [pS]
  go_upto_region 1 with fail
  refine WL.start <| uK (pV gk1 0) <| uL 3 ⟨gk1, 0, none⟩ (.int .i64 m.k) (load_one ((HF.out.box 0 _ _ _ rfl).cell 0 |>.trans (by kernel_rfl)) Try.und3 rfl) <| uK (pV gk3 0) <| uL 3 ⟨gk3, 0, none⟩ (.int .i64 m.k) (load_one ((HF.out.box 1 _ _ _ rfl).cell 0 |>.trans (by kernel_rfl)) Try.und3 rfl) <| uB .neq 3 (.int .i64 m.k) (.int .i64 m.k) (.bool false) (by rw [b_neq, beq_self_eq_true]; rfl) <| uK (.bool false) <| uK (pV gk1 1) <| ?_
  try simp only [pS]
  refine uL 37 ⟨gk1, 1, none⟩ (.agg (Ad.cells m.fr)) (run_load_part (cs := Mg.cs m) (sub := Ad.cs m.fr) (HF.out.box 0 _ _ _ rfl) (part_of (by kernel_rfl)) Try.und43 rfl Try.size43) <| uK (pV gk3 1) <| uL 37 ⟨gk3, 1, none⟩ (.agg (Ad.cells m.fr)) (run_load_part (cs := Mg.cs (likeM m sb se ke sl kl sc kc)) (sub := Ad.cs m.fr) (HF.out.box 1 _ _ _ rfl) (part_of (by kernel_rfl)) Try.und43 rfl Try.size43) <| uB .neq 37 (.agg (Ad.cells m.fr)) (.agg (Ad.cells m.fr)) (.bool false) (by rw [eqA_neq, eqA_refl]; rfl) <| uK (.bool false) <| uK (.bool false) <| uK (pV gk1 3) <| uL 37 ⟨gk1, 3, none⟩ (.agg (Ad.cells m.too)) (run_load_part (cs := Mg.cs m) (sub := Ad.cs m.too) (HF.out.box 0 _ _ _ rfl) (part_of (by kernel_rfl)) Try.und43 rfl Try.size43) <| ?_
  try simp only [pS]
  refine uK (pV gk3 3) <| uL 37 ⟨gk3, 3, none⟩ (.agg (Ad.cells m.too)) (run_load_part (cs := Mg.cs (likeM m sb se ke sl kl sc kc)) (sub := Ad.cs m.too) (HF.out.box 1 _ _ _ rfl) (part_of (by kernel_rfl)) Try.und43 rfl Try.size43) <| uB .neq 37 (.agg (Ad.cells m.too)) (.agg (Ad.cells m.too)) (.bool false) (by rw [eqA_neq, eqA_refl]; rfl) <| uK (.bool false) <| uK (.bool false) <| uK (pV gk1 5) <| uL 3 ⟨gk1, 5, none⟩ (.int .i64 m.op) (load_one ((HF.out.box 0 _ _ _ rfl).cell 5 |>.trans (by kernel_rfl)) Try.und3 rfl) <| uK (pV gk3 5) <| ?_
  try simp only [pS]
  refine uL 3 ⟨gk3, 5, none⟩ (.int .i64 m.op) (load_one ((HF.out.box 1 _ _ _ rfl).cell 5 |>.trans (by kernel_rfl)) Try.und3 rfl) <| uB .neq 3 (.int .i64 m.op) (.int .i64 m.op) (.bool false) (by rw [b_neq, beq_self_eq_true]; rfl) <| uK (.bool false) <| uK (.bool false) <| uK (pV gk1 6) <| uL 3 ⟨gk1, 6, none⟩ (.int .i64 m.rd) (load_one ((HF.out.box 0 _ _ _ rfl).cell 6 |>.trans (by kernel_rfl)) Try.und3 rfl) <| uK (pV gk3 6) <| uL 3 ⟨gk3, 6, none⟩ (.int .i64 m.rd) (load_one ((HF.out.box 1 _ _ _ rfl).cell 6 |>.trans (by kernel_rfl)) Try.und3 rfl) <| ?_
  try simp only [pS]
  refine uB .neq 3 (.int .i64 m.rd) (.int .i64 m.rd) (.bool false) (by rw [b_neq, beq_self_eq_true]; rfl) <| uK (.bool false) <| uK (.bool false) <| uK (pV gk1 7) <| uL 23 ⟨gk1, 7, none⟩ (.agg (Ky.cells m.ky)) (run_load_part (cs := Mg.cs m) (sub := Ky.cs m.ky) (HF.out.box 0 _ _ _ rfl) (part_of (by kernel_rfl)) Try.und23 rfl Try.size23) <| uK (pV gk3 7) <| uL 23 ⟨gk3, 7, none⟩ (.agg (Ky.cells m.ky)) (run_load_part (cs := Mg.cs (likeM m sb se ke sl kl sc kc)) (sub := Ky.cs m.ky) (HF.out.box 1 _ _ _ rfl) (part_of (by kernel_rfl)) Try.und23 rfl Try.size23) <| uB .neq 23 (.agg (Ky.cells m.ky)) (.agg (Ky.cells m.ky)) (.bool false) (by rw [eqK_neq, eqK_refl]; rfl) <| ?_
  try simp only [pS]
  refine uK (.bool false) <| uK (.bool false) <| uK (pV gk1 11) <| uL 39 ⟨gk1, 11, none⟩ (.agg (Sp.cells m.st)) (run_load_part (cs := Mg.cs m) (sub := Sp.cs m.st) (HF.out.box 0 _ _ _ rfl) (part_of (by kernel_rfl)) Try.und25 rfl Try.size25) <| uK (pV gk3 11) <| uL 39 ⟨gk3, 11, none⟩ (.agg (Sp.cells m.st)) (run_load_part (cs := Mg.cs (likeM m sb se ke sl kl sc kc)) (sub := Sp.cs m.st) (HF.out.box 1 _ _ _ rfl) (part_of (by kernel_rfl)) Try.und25 rfl Try.size25) <| uB .neq 39 (.agg (Sp.cells m.st)) (.agg (Sp.cells m.st)) (.bool false) (by rw [eqS_neq, eqS_refl]; rfl) <| uK (.bool false) <| ?_
  try simp only [pS]
  refine uK (.bool false) <| uK (pV gk1 13) <| uL 39 ⟨gk1, 13, none⟩ (.agg (Sp.cells m.hd)) (run_load_part (cs := Mg.cs m) (sub := Sp.cs m.hd) (HF.out.box 0 _ _ _ rfl) (part_of (by kernel_rfl)) Try.und25 rfl Try.size25) <| uK (pV gk3 13) <| uL 39 ⟨gk3, 13, none⟩ (.agg (Sp.cells m.hd)) (run_load_part (cs := Mg.cs (likeM m sb se ke sl kl sc kc)) (sub := Sp.cs m.hd) (HF.out.box 1 _ _ _ rfl) (part_of (by kernel_rfl)) Try.und25 rfl Try.size25) <| uB .neq 39 (.agg (Sp.cells m.hd)) (.agg (Sp.cells m.hd)) (.bool false) (by rw [eqS_neq, eqS_refl]; rfl) <| uK (.bool false) <| WL.nil <| ?_
  try simp only [pS]
  go_upto_region 3 with fail
  refine WL.start <| uK (pV gk1 16) <| uL 28 ⟨gk1, 16, none⟩ (.agg (Cm.cells m.c)) (run_load_part (cs := Mg.cs m) (sub := Cm.cs m.c) (HF.out.box 0 _ _ _ rfl) (part_of (by kernel_rfl)) Try.und47 rfl Try.size47) <| uK (pV gk3 16) <| uL 28 ⟨gk3, 16, none⟩ (.agg (Cm.cells m.c)) (run_load_part (cs := Mg.cs (likeM m sb se ke sl kl sc kc)) (sub := Cm.cs m.c) (HF.out.box 1 _ _ _ rfl) (part_of (by kernel_rfl)) Try.und47 rfl Try.size47) <| uB .neq 28 (.agg (Cm.cells m.c)) (.agg (Cm.cells m.c)) (.bool false) (by rw [eqC_neq, eqC_refl]; rfl) <| uK (.bool false) <| uK (pV gk1 29) <| ?_
  try simp only [pS]
  refine uL 4 ⟨gk1, 29, none⟩ (.bool m.mo) (load_one ((HF.out.box 0 _ _ _ rfl).cell 29 |>.trans (by kernel_rfl)) Try.und4 rfl) <| uK (pV gk3 29) <| uL 4 ⟨gk3, 29, none⟩ (.bool m.mo) (load_one ((HF.out.box 1 _ _ _ rfl).cell 29 |>.trans (by kernel_rfl)) Try.und4 rfl) <| uB .neq 4 (.bool m.mo) (.bool m.mo) (.bool false) (by rw [b_neqB]; simp) <| uK (.bool false) <| uK (.bool false) <| uK (pV gk1 15) <| uL 40 ⟨gk1, 15, none⟩ (m.bl.v) (load_one ((HF.out.box 0 _ _ _ rfl).cell 15 |>.trans (by kernel_rfl)) Try.und26 rfl) <| ?_
  try simp only [pS]
  refine uK (pV gk3 15) <| uL 40 ⟨gk3, 15, none⟩ (sb.v) (load_one ((HF.out.box 1 _ _ _ rfl).cell 15 |>.trans (by kernel_rfl)) Try.und26 rfl) <| ?_
  try simp only [pS]
  refine uC 77 #[m.bl.v, sb.v] (sameB_any m.bl sb bs _ (HB1.out.no HF.out.kept) (HB2.out.no HF.out.kept)) ?_
  rintro e wq ⟨rfl, hwq⟩
  rw [hwq]
  clear hwq wq
  refine ⟨.bool true, rfl, ?_⟩
  try simp only [pS]
  refine uK (.bool false) <| uK (.bool false) <| uK (.bool false) <| uK (pV gk1 25) <| uL 44 ⟨gk1, 25, none⟩ (.agg (Bv.cells m.bk)) (run_load_part (cs := Mg.cs m) (sub := Bv.cs m.bk) (HF.out.box 0 _ _ _ rfl) (part_of (by kernel_rfl)) Try.und32 rfl Try.size32) <| uK (pV gk3 25) <| uL 44 ⟨gk3, 25, none⟩ (.agg (Bv.cells ⟨m.bk.up, ⟨se, m.bk.e.l, ke⟩, ⟨sl, m.bk.l.l, kl⟩⟩)) (run_load_part (cs := Mg.cs (likeM m sb se ke sl kl sc kc)) (sub := Bv.cs ⟨m.bk.up, ⟨se, m.bk.e.l, ke⟩, ⟨sl, m.bk.l.l, kl⟩⟩) (HF.out.box 1 _ _ _ rfl) (part_of (by kernel_rfl)) Try.und32 rfl Try.size32) <| ?_
  try simp only [pS]
  refine uC 31 #[.agg (Bv.cells m.bk), .agg (Bv.cells ⟨m.bk.up, ⟨se, m.bk.e.l, ke⟩, ⟨sl, m.bk.l.l, kl⟩⟩)] (sameK_any m.bk.up m.bk.e.a se m.bk.l.a sl m.bk.e.l m.bk.l.l m.bk.e.k ke m.bk.l.k kl es ls _ (HE1.out.no HF.out.kept) (HE2.out.no HF.out.kept) (HL1.out.no HF.out.kept) (HL2.out.no HF.out.kept) hn hm) ?_
  rintro e wk5 ⟨rfl, hk⟩
  have HF : Hid (Fr No w (wk5) [(gk1, 47, Mg.cells m), (gk3, 47, Mg.cells (likeM m sb se ke sl kl sc kc))]) := HF.out.no hk
  clear hk
  refine ⟨.bool true, rfl, ?_⟩
  try simp only [pS]
  refine uK (.bool false) <| uK (.bool false) <| uK (.bool false) <| uK (pV gk1 28) <| uL 45 ⟨gk1, 28, none⟩ (m.cm.v) (load_one ((HF.out.box 0 _ _ _ rfl).cell 28 |>.trans (by kernel_rfl)) Try.und48 rfl) <| uK (.int .i64 ((m.cm.l : Nat) : Int)) <| uK (pV gk3 28) <| uL 45 ⟨gk3, 28, none⟩ (.slice sc m.cm.l kc) (load_one ((HF.out.box 1 _ _ _ rfl).cell 28 |>.trans (by kernel_rfl)) Try.und48 rfl) <| ?_
  try simp only [pS]
  refine uK (.int .i64 ((m.cm.l : Nat) : Int)) <| uB .neq 3 (.int .i64 ((m.cm.l : Nat) : Int)) (.int .i64 ((m.cm.l : Nat) : Int)) (.bool false) (by rw [b_neq, beq_self_eq_true]; rfl) <| uK (.bool false) <| WL.nil <| ?_
  try simp only [pS]
  go_upto_region 5 with fail
  refine WL.start <| uK (.int .i64 0) <| WL.nil <| ?_
  try simp only [pS]
  go_wp2
  go_loopw [5] (fun v5 wr => ∃ i : Nat, v5 = .int .i64 ((i : Nat) : Int) ∧ i ≤ m.cm.l ∧ Hid (Fr No w wr [(gk1, 47, Mg.cells m), (gk3, 47, Mg.cells (likeM m sb se ke sl kl sc kc))])) (fun i _ => m.cm.l - (intOf i).toNat)
  case atStart => exact ⟨0, by go_num, by omega, HF⟩
  case round =>
    clear HF
    obtain ⟨i, rfl, hi, HF⟩ := hrel
    by_cases hlt : i < m.cm.l
    · skip
      obtain ⟨pb, po, hcx⟩ := Cs.at HC1.out.row (i := i) (by rw [LC.out]; exact hlt)
      have hca := hcx.1
      have hcc := hcx.2
      obtain ⟨qb, qo, hdx⟩ := Cs.at HC2.out.row (i := i) (by rw [LC.out]; exact hlt)
      have hda := hdx.1
      have hdd := hdx.2
      clear hcx hdx
      have hs1 : Hid (m.cm.v = .slice (some ⟨pb, po, none⟩) m.cm.l m.cm.k) := congrArg (fun a => Value.slice a m.cm.l m.cm.k) hca
      have hs2 : Hid (Value.slice sc m.cm.l kc = .slice (some ⟨qb, qo, none⟩) m.cm.l kc) := congrArg (fun a => Value.slice a m.cm.l kc) hda
      obtain ⟨x, hx⟩ : ∃ x, x = cAt cs i := ⟨_, rfl⟩
      rw [← hx] at hcc hdd
      have cp : Hid (∀ (j : Nat) v, (Cm.cs x)[j]? = some v → w.cell? ⟨pb, po + i * 9 + j, none⟩ = some v) := hcc
      have cq : Hid (∀ (j : Nat) v, (Cm.cs x)[j]? = some v → w.cell? ⟨qb, qo + i * 9 + j, none⟩ = some v) := hdd
      clear hcc hdd hx hca hda
      go_upto_region 6 with fail
      refine WL.start <| uK (.int .i64 ((i : Nat) : Int)) <| uK (pV gk1 28) <| uL 45 ⟨gk1, 28, none⟩ (m.cm.v) (load_one ((HF.out.box 0 _ _ _ rfl).cell 28 |>.trans (by kernel_rfl)) Try.und48 rfl) <| uK (.int .i64 ((m.cm.l : Nat) : Int)) <| uB .lss 3 (.int .i64 ((i : Nat) : Int)) (.int .i64 ((m.cm.l : Nat) : Int)) (.bool true) (by rw [b_lss, decide_eq_true (by omega)]) <| WL.nil <| ?_
      try simp only [pS]
      go_upto_region 8 with fail
      refine wp_region_held_drew (S := fun w' => Fr No w w' [(gk1, 47, Mg.cells m), (gk3, 47, Mg.cells (likeM m sb se ke sl kl sc kc))]) rfl (HF.out.drew) (fun hH => ?_)
      have HF : Hid (Fr No w (wr.drew) [(gk1, 47, Mg.cells m), (gk3, 47, Mg.cells (likeM m sb se ke sl kl sc kc))]) := HF.out.drew
      generalize wr.drew = wk6 at HF hH ⊢
      refine xV 0 104 (pV gk1 28) hH <| xL 1 105 45 ⟨gk1, 28, none⟩ m.cm.v (fun _ hw => load_one ((hw.box 0 _ _ _ rfl).cell 28 |>.trans (by kernel_rfl)) Try.und48 rfl) hH <| xV 2 106 (.int .i64 ((i : Nat) : Int)) hH <| xU 3 107 (pV pb (po + i * 9)) (fun w' hw => exec_ixA 45 9 Try.und48e Try.size48e _ _ rfl pb po m.cm.l m.cm.k i (Eq.trans (b := m.cm.v) (by kernel_rfl) hs1.out) (by kernel_rfl) hlt) hH <| xL 4 108 28 ⟨pb, po + i * 9, none⟩ (.agg (Cm.cells x)) (fun _ hw => load_Ca (fun j v hv => hw.kept.cell (cp.out j v hv) (fun e => e))) hH <| xV 5 109 (pV gk3 28) hH <| ?_
      try simp only [pS]
      refine xL 6 110 45 ⟨gk3, 28, none⟩ (.slice sc m.cm.l kc) (fun _ hw => load_one ((hw.box 1 _ _ _ rfl).cell 28 |>.trans (by kernel_rfl)) Try.und48 rfl) hH <| xV 7 111 (.int .i64 ((i : Nat) : Int)) hH <| xU 8 112 (pV qb (qo + i * 9)) (fun w' hw => exec_ixA 45 9 Try.und48e Try.size48e _ _ rfl qb qo m.cm.l kc i (Eq.trans (b := .slice sc m.cm.l kc) (by kernel_rfl) hs2.out) (by kernel_rfl) hlt) hH <| xL 9 113 28 ⟨qb, qo + i * 9, none⟩ (.agg (Cm.cells x)) (fun _ hw => load_Ca (fun j v hv => hw.kept.cell (cq.out j v hv) (fun e => e))) hH <| xB 10 114 .neq 28 (.agg (Cm.cells x)) (.agg (Cm.cells x)) (.bool false) (fun _ _ => by rw [eqC_neq, eqC_refl]; rfl) hH <| ?_
      try simp only [pS]
      refine wpAnyH_done (by kernel_rfl) ?_ _
      try simp only [pS]
      clear hH
      go_upto_region 7 with fail
      refine WL.start <| uK (.int .i64 ((i : Nat) : Int)) <| uB .add 3 (.int .i64 ((i : Nat) : Int)) (.int .i64 1) (.int .i64 (((i + 1) : Nat) : Int)) (b_addw _ _ _ (by rw [IntKind.wrap_i64]; omega) _) <| uK (.int .i64 (((i + 1) : Nat) : Int)) <| WL.nil <| ?_
      try simp only [pS]
      go_wp2
      go_roundw
      case rel => exact ⟨i + 1, by go_num, by omega, HF⟩
      case measure => simp [intOf]; omega
    · skip
      go_upto_region 6 with fail
      refine WL.start <| uK (.int .i64 ((i : Nat) : Int)) <| uK (pV gk1 28) <| uL 45 ⟨gk1, 28, none⟩ (m.cm.v) (load_one ((HF.out.box 0 _ _ _ rfl).cell 28 |>.trans (by kernel_rfl)) Try.und48 rfl) <| uK (.int .i64 ((m.cm.l : Nat) : Int)) <| uB .lss 3 (.int .i64 ((i : Nat) : Int)) (.int .i64 ((m.cm.l : Nat) : Int)) (.bool false) (by rw [b_lss, decide_eq_false (by omega)]) <| WL.nil <| ?_
      try simp only [pS]
      go_upto_region 10 with fail
      refine WL.start <| uK (.bool true) <| WL.nil <| ?_
      try simp only [pS]
      go_wp2
      rw [HC.out]
      exact ⟨rfl, HF.out.kept⟩

end Go.Proofs.Ytpabpeppgpeaoaa.Md
namespace Go.Proofs.Ytpabpeppgpeaoaa.Md
open Go.RowKit
set_option linter.unusedVariables false
set_option linter.unusedSimpArgs false

/-- A message in memory, and one that is lent. -/
structure MgAt (w : World) (m : Mg) (bs : List Int) (es : List En) (ls : List La) (cs : List Cm) : Prop where
  b : RdB w m.bl bs
  e : RdE w m.bk.e es
  l : RdL w m.bk.l ls
  c : RdC w m.cm cs
  nb : m.bl.l ≤ 140737488351232
  ne : m.bk.e.l ≤ 3518437208780
  nl : m.bk.l.l ≤ 2513169434843
  nc : m.cm.l ≤ 1759218604390
theorem MgAt.no {w w' : World} {m : Mg} {bs : List Int} {es : List En} {ls : List La} {cs : List Cm} (H : MgAt w m bs es ls cs) (hk : Kept No w w') : MgAt w' m bs es ls cs := ⟨H.b.no hk, H.e.no hk, H.l.no hk, H.c.no hk, H.nb, H.ne, H.nl, H.nc⟩
theorem RdC.src {w : World} {s : Sl} {cs : List Cm} (h : RdC w s cs) : ∀ (j : Nat) u, (cmL cs)[j]? = some u → ∃ ad, s.a = some ad ∧ w.cell? (ad.add j) = some u := by
  intro j u hj
  have hlt := (List.getElem?_eq_some_iff.1 hj).1
  rw [cmL_len] at hlt
  have hi : j / 9 < cs.length := by omega
  obtain ⟨b, off, e, hc⟩ := Cs.at h.row hi
  refine ⟨⟨b, off, none⟩, e, ?_⟩
  rw [addr_add]
  have h9 : j = j / 9 * 9 + j % 9 := by omega
  have hx : (cAt cs (j / 9)).cs[j % 9]? = some u := by
    have hl : (cAt cs (j / 9)).cs.length = 9 := rfl
    have h1 := flat_get 9 (cs.map Cm.cs) (cmL_c cs) (j / 9) (cAt cs (j / 9)).cs (by rw [List.getElem?_map, cAt_some hi]; rfl) (j % 9) _ (List.getElem?_eq_getElem (by rw [hl]; omega))
    rw [← h9] at h1
    rw [List.getElem?_eq_getElem (by rw [hl]; omega)]
    have h2 : (cmL cs)[j]? = _ := h1
    rw [hj] at h2
    exact h2.symm
  rw [show off + j = off + j / 9 * 9 + j % 9 by omega]
  exact hc _ _ hx
theorem cpy_C {w : World} {g : Nat} {s : Sl} {es : List Cm} (ty : TypeId) (hb : Box w g 28 (cmL (List.replicate (s.l + 67) cZ)).toArray) (he : RdC w s es) : (Builtin.copy_ #[45, 45] ty #[.slice (some ⟨g, 0, none⟩) (s.l + 67) (s.l + 67), s.v]).run Try.prog w = .ok (goInt s.l) (w.setRow g (cmL (tab (s.l + 67) (upt (lntC s.l es) cZ s.l))).toArray) := by
  obtain ⟨ea, en, ec⟩ := s
  dsimp only at hb ⊢
  have hl : es.length = en := he.len
  unfold lntC
  rw [← app_tab _ _ 67 hl]
  have hp : putL (cmL (List.replicate (en + 67) cZ)) 0 (cmL es) = cmL (es ++ List.replicate 67 cZ) := by
    rw [cmL_app]
    unfold putL
    rw [List.take_zero, List.nil_append, Nat.zero_add, cmL_len, hl, ← List.replicate_append_replicate, cmL_app, List.drop_append_of_le_length (by rw [cmL_len, List.length_replicate]; exact Nat.le_refl _), List.drop_of_length_le (by rw [cmL_len, List.length_replicate]; exact Nat.le_refl _)]
    rfl
  show (Builtin.copy_ #[45, 45] ty #[.slice (some ⟨g, 0, none⟩) (en + 67) (en + 67), .slice ea en ec]).run Try.prog w = .ok (goInt en) (w.setRow g (cmL (es ++ List.replicate 67 cZ)).toArray)
  cases ea with
  | none =>
    have hes : es = [] := by
      cases es with
      | nil => rfl
      | cons x r =>
        obtain ⟨b, off, e, _⟩ := he.row 0 x.cs rfl
        cases e
    subst hes
    have hn : en = 0 := hl.symm
    subst hn
    have : (Builtin.copy_ #[45, 45] ty #[.slice (some ⟨g, 0, none⟩) (0 + 67) (0 + 67), .slice none 0 ec]).run Try.prog w = .ok (goInt 0) w := by
      simp [Builtin.copy_, run_underlying Try.und48, Builtin.lenOf, size_of Try.size47, run_firstCells_none, storeCells]
    rw [this]
    rw [show w.setRow g (cmL ([] ++ List.replicate 67 cZ)).toArray = w from setRow_self hb]
    rfl
  | some ad =>
    rw [← hp]
    exact run_copyN 45 ty 28 9 Try.und48 Try.size47 hb (en + 67) (en + 67) ad en ec en (by omega) (cmL es) (by rw [cmL_len, hl]) (fun j u h => by
      obtain ⟨ad', e1, e2⟩ := he.src j u h
      cases e1; exact e2) (by rw [Nat.zero_add, cmL_len, cmL_len, List.length_replicate, hl]; omega) (cmL_one _)
def lentM (m : Mg) (gb ge gl gc : Nat) : Mg := ⟨m.k, m.fr, m.too, m.op, m.rd, m.ky, m.st, m.hd, lent m.bl gb, m.c, ⟨m.bk.up, lent m.bk.e ge, lent m.bk.l gl⟩, lent m.cm gc, m.mo⟩
structure LmAt (W : World) (base : Nat) (m : Mg) (bs : List Int) (es : List En) (ls : List La) (cs : List Cm) (gb ge gl gc : Nat) : Prop where
  b : Box W gb 5 (u8L (tab (m.bl.l + 67) (lntB m.bl.l bs))).toArray
  e : Box W ge 124 (enL (tab (m.bk.e.l + 67) (lntE m.bk.e.l es))).toArray
  l : Box W gl 127 (laL (tab (m.bk.l.l + 67) (lntL m.bk.l.l ls))).toArray
  c : Box W gc 28 (cmL (tab (m.cm.l + 67) (lntC m.cm.l cs))).toArray
  lb : base ≤ gb
  le : base ≤ ge
  ll : base ≤ gl
  lc : base ≤ gc
theorem LmAt.no {W W' : World} {base : Nat} {m : Mg} {bs : List Int} {es : List En} {ls : List La} {cs : List Cm} {gb ge gl gc : Nat} (H : LmAt W base m bs es ls cs gb ge gl gc) (hk : Kept No W W') : LmAt W' base m bs es ls cs gb ge gl gc := ⟨H.b.no hk, H.e.no hk, H.l.no hk, H.c.no hk, H.lb, H.le, H.ll, H.lc⟩
def LmOut (w : World) (m : Mg) (bs : List Int) (es : List En) (ls : List La) (cs : List Cm) (e : Ending) (w' : World) : Prop := ∃ gb ge gl gc : Nat, e = .returned (.agg (Mg.cells (lentM m gb ge gl gc))) ∧ LmAt w' w.heap.size m bs es ls cs gb ge gl gc ∧ Kept No w w'
set_option maxRecDepth 100000 in
set_option maxHeartbeats 4000000 in
theorem lendM_any (m : Mg) (bs : List Int) (es : List En) (ls : List La) (cs : List Cm) (w : World) (hh : MgAt w m bs es ls cs) : Calls Try.prog 27 #[.agg (Mg.cells m)] w (LmOut w m bs es ls cs) := by
  refine hideC fun C HC => ?_
  have HH : Hid (MgAt w m bs es ls cs) := hh
  have hn := hh.nc
  clear hh
  have HF : Hid (Fr No w w []) := Fr.start _ _
  go_enter Try.func27, Try.ntmps27
  go_upto_region 0 with fail
  refine WL.start ?_
  refine uR (pV w.heap.size 0) (w.alloc (.cells (Mg.cells m) 47)) (exec_box 47 _ rfl (Mg.cells m) (by kernel_rfl)) ?_
  try simp only [pS]
  have HF : Hid (Fr No w (w.alloc (.cells (Mg.cells m) 47)) [(w.heap.size, 47, Mg.cells m)]) := HF.out.alloc _ _
  generalize w.alloc (.cells (Mg.cells m) 47) = wk2 at HF ⊢
  generalize w.heap.size = gk1 at HF ⊢
  refine uR (pV wk2.heap.size 0) (wk2.alloc (.cells (Mg.cells mgZ) 47)) (exec_alloc 47 rfl (Mg.cells mgZ) zero50) ?_
  try simp only [pS]
  have HF : Hid (Fr No w (wk2.alloc (.cells (Mg.cells mgZ) 47)) [(gk1, 47, Mg.cells m), (wk2.heap.size, 47, Mg.cells mgZ)]) := HF.out.alloc _ _
  generalize wk2.alloc (.cells (Mg.cells mgZ) 47) = wk4 at HF ⊢
  generalize wk2.heap.size = gk3 at HF ⊢
  refine WL.nil ?_
  try simp only [pS]
  go_upto_region 1 with fail
  refine WL.start <| uL 47 ⟨gk1, 0, none⟩ (.agg (Mg.cells m)) (run_load_part (cs := Mg.cs m) (sub := Mg.cs m) (HF.out.box 0 _ _ _ rfl) (Part.all _) Try.und50 rfl Try.size50) <| ?_
  try simp only [pS]
  refine uR (pV wk4.heap.size 0) (wk4.alloc (.cells (Mg.cells mgZ) 47)) (exec_alloc 47 rfl (Mg.cells mgZ) zero50) ?_
  try simp only [pS]
  have HF : Hid (Fr No w (wk4.alloc (.cells (Mg.cells mgZ) 47)) [(gk1, 47, Mg.cells m), (gk3, 47, Mg.cells mgZ), (wk4.heap.size, 47, Mg.cells mgZ)]) := HF.out.alloc _ _
  generalize wk4.alloc (.cells (Mg.cells mgZ) 47) = wk6 at HF ⊢
  generalize wk4.heap.size = gk5 at HF ⊢
  refine uT 47 ⟨gk5, 0, none⟩ (.agg (Mg.cells m)) (wk6.setRow gk5 (Mg.cells m)) (rs (Mg.cs mgZ) (Mg.cs m) (Mg.cs m) (HF.out.box 2 _ _ _ rfl) Try.size50 (Mg.oneL _)) ?_
  try simp only [pS]
  have HF : Hid (Fr No w (wk6.setRow gk5 (Mg.cells m)) [(gk1, 47, Mg.cells m), (gk3, 47, Mg.cells mgZ), (gk5, 47, Mg.cells m)]) := HF.out.set 2 rfl _
  generalize wk6.setRow gk5 (Mg.cells m) = wk7 at HF ⊢
  refine WL.nil ?_
  try simp only [pS]
  go_upto_region 2 with fail
  refine WL.start <| uK (pV gk1 15) <| uL 40 ⟨gk1, 15, none⟩ (m.bl.v) (load_one ((HF.out.box 0 _ _ _ rfl).cell 15 |>.trans (by kernel_rfl)) Try.und26 rfl) <| ?_
  try simp only [pS]
  refine uC 53 #[m.bl.v] (lendB_any m.bl bs _ (HH.out.b.no HF.out.kept) HH.out.nb) ?_
  rintro e wk8 ⟨gb, rfl, hgb, hbb, hk⟩
  have HF : Hid (Fr No w (wk8) [(gk1, 47, Mg.cells m), (gk3, 47, Mg.cells mgZ), (gk5, 47, Mg.cells m), (gb, 5, (u8L (tab (m.bl.l + 67) (lntB m.bl.l bs))).toArray)]) := HF.out.add hk hgb hbb
  clear hk hgb hbb
  refine ⟨.slice (some ⟨gb, 0, none⟩) m.bl.l (m.bl.l + 67), rfl, ?_⟩
  try simp only [pS]
  refine uK (pV gk5 15) ?_
  try simp only [pS]
  refine uT 40 ⟨gk5, 15, none⟩ (.slice (some ⟨gb, 0, none⟩) m.bl.l (m.bl.l + 67)) (wk8.setRow gk5 (Mg.cells ⟨m.k, m.fr, m.too, m.op, m.rd, m.ky, m.st, m.hd, ⟨(some ⟨gb, 0, none⟩), m.bl.l, (m.bl.l + 67)⟩, m.c, m.bk, m.cm, m.mo⟩)) (rs (Mg.cs m) ([.slice (some ⟨gb, 0, none⟩) m.bl.l (m.bl.l + 67)]) (Mg.cs ⟨m.k, m.fr, m.too, m.op, m.rd, m.ky, m.st, m.hd, ⟨(some ⟨gb, 0, none⟩), m.bl.l, (m.bl.l + 67)⟩, m.c, m.bk, m.cm, m.mo⟩) (HF.out.box 2 _ _ _ rfl) Try.size26 (by simp [Value.oneCell', Sl.v])) ?_
  try simp only [pS]
  have HF : Hid (Fr No w (wk8.setRow gk5 (Mg.cells ⟨m.k, m.fr, m.too, m.op, m.rd, m.ky, m.st, m.hd, ⟨(some ⟨gb, 0, none⟩), m.bl.l, (m.bl.l + 67)⟩, m.c, m.bk, m.cm, m.mo⟩)) [(gk1, 47, Mg.cells m), (gk3, 47, Mg.cells mgZ), (gk5, 47, Mg.cells ⟨m.k, m.fr, m.too, m.op, m.rd, m.ky, m.st, m.hd, ⟨(some ⟨gb, 0, none⟩), m.bl.l, (m.bl.l + 67)⟩, m.c, m.bk, m.cm, m.mo⟩), (gb, 5, (u8L (tab (m.bl.l + 67) (lntB m.bl.l bs))).toArray)]) := HF.out.set 2 rfl _
  generalize wk8.setRow gk5 (Mg.cells ⟨m.k, m.fr, m.too, m.op, m.rd, m.ky, m.st, m.hd, ⟨(some ⟨gb, 0, none⟩), m.bl.l, (m.bl.l + 67)⟩, m.c, m.bk, m.cm, m.mo⟩) = wk9 at HF ⊢
  refine WL.nil ?_
  try simp only [pS]
  go_upto_region 3 with fail
  refine WL.start <| uK (pV gk1 25) <| uL 44 ⟨gk1, 25, none⟩ (.agg (Bv.cells m.bk)) (run_load_part (cs := Mg.cs m) (sub := Bv.cs m.bk) (HF.out.box 0 _ _ _ rfl) (part_of (by kernel_rfl)) Try.und32 rfl Try.size32) <| ?_
  try simp only [pS]
  refine uC 54 #[.agg (Bv.cells m.bk)] (lendK_any m.bk es ls _ (HH.out.e.no HF.out.kept) (HH.out.l.no HF.out.kept) HH.out.ne HH.out.nl) ?_
  rintro e wk10 ⟨ge, gl, rfl, hge, hgl, hbe, hbl, hk⟩
  have HF : Hid (Fr No w (wk10) [(gk1, 47, Mg.cells m), (gk3, 47, Mg.cells mgZ), (gk5, 47, Mg.cells ⟨m.k, m.fr, m.too, m.op, m.rd, m.ky, m.st, m.hd, ⟨(some ⟨gb, 0, none⟩), m.bl.l, (m.bl.l + 67)⟩, m.c, m.bk, m.cm, m.mo⟩), (gb, 5, (u8L (tab (m.bl.l + 67) (lntB m.bl.l bs))).toArray), (ge, 124, (enL (tab (m.bk.e.l + 67) (lntE m.bk.e.l es))).toArray), (gl, 127, (laL (tab (m.bk.l.l + 67) (lntL m.bk.l.l ls))).toArray)]) := HF.out.add2 hk hge hbe hgl hbl (by decide)
  clear hk hge hgl hbe hbl
  refine ⟨.agg (Bv.cells ⟨m.bk.up, ⟨(some ⟨ge, 0, none⟩), m.bk.e.l, (m.bk.e.l + 67)⟩, ⟨(some ⟨gl, 0, none⟩), m.bk.l.l, (m.bk.l.l + 67)⟩⟩), rfl, ?_⟩
  try simp only [pS]
  refine uK (pV gk5 25) ?_
  try simp only [pS]
  refine uT 44 ⟨gk5, 25, none⟩ (.agg (Bv.cells ⟨m.bk.up, ⟨(some ⟨ge, 0, none⟩), m.bk.e.l, (m.bk.e.l + 67)⟩, ⟨(some ⟨gl, 0, none⟩), m.bk.l.l, (m.bk.l.l + 67)⟩⟩)) (wk10.setRow gk5 (Mg.cells ⟨m.k, m.fr, m.too, m.op, m.rd, m.ky, m.st, m.hd, ⟨(some ⟨gb, 0, none⟩), m.bl.l, (m.bl.l + 67)⟩, m.c, ⟨m.bk.up, ⟨(some ⟨ge, 0, none⟩), m.bk.e.l, (m.bk.e.l + 67)⟩, ⟨(some ⟨gl, 0, none⟩), m.bk.l.l, (m.bk.l.l + 67)⟩⟩, m.cm, m.mo⟩)) (rs (Mg.cs ⟨m.k, m.fr, m.too, m.op, m.rd, m.ky, m.st, m.hd, ⟨(some ⟨gb, 0, none⟩), m.bl.l, (m.bl.l + 67)⟩, m.c, m.bk, m.cm, m.mo⟩) (Bv.cs ⟨m.bk.up, ⟨(some ⟨ge, 0, none⟩), m.bk.e.l, (m.bk.e.l + 67)⟩, ⟨(some ⟨gl, 0, none⟩), m.bk.l.l, (m.bk.l.l + 67)⟩⟩) (Mg.cs ⟨m.k, m.fr, m.too, m.op, m.rd, m.ky, m.st, m.hd, ⟨(some ⟨gb, 0, none⟩), m.bl.l, (m.bl.l + 67)⟩, m.c, ⟨m.bk.up, ⟨(some ⟨ge, 0, none⟩), m.bk.e.l, (m.bk.e.l + 67)⟩, ⟨(some ⟨gl, 0, none⟩), m.bk.l.l, (m.bk.l.l + 67)⟩⟩, m.cm, m.mo⟩) (HF.out.box 2 _ _ _ rfl) Try.size32 (Bv.oneL _)) ?_
  try simp only [pS]
  have HF : Hid (Fr No w (wk10.setRow gk5 (Mg.cells ⟨m.k, m.fr, m.too, m.op, m.rd, m.ky, m.st, m.hd, ⟨(some ⟨gb, 0, none⟩), m.bl.l, (m.bl.l + 67)⟩, m.c, ⟨m.bk.up, ⟨(some ⟨ge, 0, none⟩), m.bk.e.l, (m.bk.e.l + 67)⟩, ⟨(some ⟨gl, 0, none⟩), m.bk.l.l, (m.bk.l.l + 67)⟩⟩, m.cm, m.mo⟩)) [(gk1, 47, Mg.cells m), (gk3, 47, Mg.cells mgZ), (gk5, 47, Mg.cells ⟨m.k, m.fr, m.too, m.op, m.rd, m.ky, m.st, m.hd, ⟨(some ⟨gb, 0, none⟩), m.bl.l, (m.bl.l + 67)⟩, m.c, ⟨m.bk.up, ⟨(some ⟨ge, 0, none⟩), m.bk.e.l, (m.bk.e.l + 67)⟩, ⟨(some ⟨gl, 0, none⟩), m.bk.l.l, (m.bk.l.l + 67)⟩⟩, m.cm, m.mo⟩), (gb, 5, (u8L (tab (m.bl.l + 67) (lntB m.bl.l bs))).toArray), (ge, 124, (enL (tab (m.bk.e.l + 67) (lntE m.bk.e.l es))).toArray), (gl, 127, (laL (tab (m.bk.l.l + 67) (lntL m.bk.l.l ls))).toArray)]) := HF.out.set 2 rfl _
  generalize wk10.setRow gk5 (Mg.cells ⟨m.k, m.fr, m.too, m.op, m.rd, m.ky, m.st, m.hd, ⟨(some ⟨gb, 0, none⟩), m.bl.l, (m.bl.l + 67)⟩, m.c, ⟨m.bk.up, ⟨(some ⟨ge, 0, none⟩), m.bk.e.l, (m.bk.e.l + 67)⟩, ⟨(some ⟨gl, 0, none⟩), m.bk.l.l, (m.bk.l.l + 67)⟩⟩, m.cm, m.mo⟩) = wk11 at HF ⊢
  refine WL.nil ?_
  try simp only [pS]
  go_upto_region 4 with fail
  refine WL.start <| uK (pV gk1 28) <| uL 45 ⟨gk1, 28, none⟩ (m.cm.v) (load_one ((HF.out.box 0 _ _ _ rfl).cell 28 |>.trans (by kernel_rfl)) Try.und48 rfl) <| uK (.int .i64 ((m.cm.l : Nat) : Int)) <| uB .add 3 (.int .i64 ((m.cm.l : Nat) : Int)) (.int .i64 67) (.int .i64 (((m.cm.l + 67) : Nat) : Int)) (b_addw _ _ _ (by rw [IntKind.wrap_i64]; omega) _) <| ?_
  try simp only [pS]
  refine uR (.slice (some ⟨wk11.heap.size, 0, none⟩) (m.cm.l + 67) (m.cm.l + 67)) (wk11.alloc (.cells ((cmL (List.replicate (m.cm.l + 67) cZ)).toArray) 28)) (exec_make 45 _ _ rfl _ _ (by kernel_rfl) (by kernel_rfl) (make_cm _ (m.cm.l + 67) (by omega))) ?_
  try simp only [pS]
  have HF : Hid (Fr No w (wk11.alloc (.cells ((cmL (List.replicate (m.cm.l + 67) cZ)).toArray) 28)) [(gk1, 47, Mg.cells m), (gk3, 47, Mg.cells mgZ), (gk5, 47, Mg.cells ⟨m.k, m.fr, m.too, m.op, m.rd, m.ky, m.st, m.hd, ⟨(some ⟨gb, 0, none⟩), m.bl.l, (m.bl.l + 67)⟩, m.c, ⟨m.bk.up, ⟨(some ⟨ge, 0, none⟩), m.bk.e.l, (m.bk.e.l + 67)⟩, ⟨(some ⟨gl, 0, none⟩), m.bk.l.l, (m.bk.l.l + 67)⟩⟩, m.cm, m.mo⟩), (gb, 5, (u8L (tab (m.bl.l + 67) (lntB m.bl.l bs))).toArray), (ge, 124, (enL (tab (m.bk.e.l + 67) (lntE m.bk.e.l es))).toArray), (gl, 127, (laL (tab (m.bk.l.l + 67) (lntL m.bk.l.l ls))).toArray), (wk11.heap.size, 28, (cmL (List.replicate (m.cm.l + 67) cZ)).toArray)]) := HF.out.alloc _ _
  generalize wk11.alloc (.cells ((cmL (List.replicate (m.cm.l + 67) cZ)).toArray) 28) = wk13 at HF ⊢
  generalize wk11.heap.size = gk12 at HF ⊢
  refine uK (.slice (some ⟨gk12, 0, none⟩) (m.cm.l + 67) (m.cm.l + 67)) <| WL.nil <| ?_
  try simp only [pS]
  go_upto_region 5 with fail
  refine WL.start <| uK (.slice (some ⟨gk12, 0, none⟩) (m.cm.l + 67) (m.cm.l + 67)) <| uK (pV gk1 28) <| uL 45 ⟨gk1, 28, none⟩ (m.cm.v) (load_one ((HF.out.box 0 _ _ _ rfl).cell 28 |>.trans (by kernel_rfl)) Try.und48 rfl) <| ?_
  try simp only [pS]
  refine uR (goInt m.cm.l) (wk13.setRow gk12 ((cmL (tab (m.cm.l + 67) (upt (lntC m.cm.l cs) cZ m.cm.l))).toArray)) (exec_copy _ _ 45 45 rfl _ _ (by kernel_rfl) (by kernel_rfl) (cpy_C _ (HF.out.box 6 _ _ _ rfl) (HH.out.c.no HF.out.kept))) ?_
  try simp only [pS]
  have HF : Hid (Fr No w (wk13.setRow gk12 ((cmL (tab (m.cm.l + 67) (upt (lntC m.cm.l cs) cZ m.cm.l))).toArray)) [(gk1, 47, Mg.cells m), (gk3, 47, Mg.cells mgZ), (gk5, 47, Mg.cells ⟨m.k, m.fr, m.too, m.op, m.rd, m.ky, m.st, m.hd, ⟨(some ⟨gb, 0, none⟩), m.bl.l, (m.bl.l + 67)⟩, m.c, ⟨m.bk.up, ⟨(some ⟨ge, 0, none⟩), m.bk.e.l, (m.bk.e.l + 67)⟩, ⟨(some ⟨gl, 0, none⟩), m.bk.l.l, (m.bk.l.l + 67)⟩⟩, m.cm, m.mo⟩), (gb, 5, (u8L (tab (m.bl.l + 67) (lntB m.bl.l bs))).toArray), (ge, 124, (enL (tab (m.bk.e.l + 67) (lntE m.bk.e.l es))).toArray), (gl, 127, (laL (tab (m.bk.l.l + 67) (lntL m.bk.l.l ls))).toArray), (gk12, 28, (cmL (tab (m.cm.l + 67) (upt (lntC m.cm.l cs) cZ m.cm.l))).toArray)]) := HF.out.set 6 rfl _
  generalize wk13.setRow gk12 ((cmL (tab (m.cm.l + 67) (upt (lntC m.cm.l cs) cZ m.cm.l))).toArray) = wk14 at HF ⊢
  refine WL.nil ?_
  try simp only [pS]
  go_upto_region 6 with fail
  refine WL.start <| uK (pV gk1 28) <| uL 45 ⟨gk1, 28, none⟩ (m.cm.v) (load_one ((HF.out.box 0 _ _ _ rfl).cell 28 |>.trans (by kernel_rfl)) Try.und48 rfl) <| uK (.int .i64 ((m.cm.l : Nat) : Int)) <| uK (.int .i64 ((m.cm.l : Nat) : Int)) <| WL.nil <| ?_
  try simp only [pS]
  go_wp2
  go_loopw [5] (fun v4 wr => ∃ i : Nat, v4 = .int .i64 ((i : Nat) : Int) ∧ m.cm.l ≤ i ∧ i ≤ m.cm.l + 67 ∧ Hid (Fr No w wr [(gk1, 47, Mg.cells m), (gk3, 47, Mg.cells mgZ), (gk5, 47, Mg.cells ⟨m.k, m.fr, m.too, m.op, m.rd, m.ky, m.st, m.hd, ⟨(some ⟨gb, 0, none⟩), m.bl.l, (m.bl.l + 67)⟩, m.c, ⟨m.bk.up, ⟨(some ⟨ge, 0, none⟩), m.bk.e.l, (m.bk.e.l + 67)⟩, ⟨(some ⟨gl, 0, none⟩), m.bk.l.l, (m.bk.l.l + 67)⟩⟩, m.cm, m.mo⟩), (gb, 5, (u8L (tab (m.bl.l + 67) (lntB m.bl.l bs))).toArray), (ge, 124, (enL (tab (m.bk.e.l + 67) (lntE m.bk.e.l es))).toArray), (gl, 127, (laL (tab (m.bk.l.l + 67) (lntL m.bk.l.l ls))).toArray), (gk12, 28, (cmL (tab (m.cm.l + 67) (upt (lntC m.cm.l cs) cZ i))).toArray)])) (fun i _ => m.cm.l + 67 - (intOf i).toNat)
  case atStart => exact ⟨m.cm.l, rfl, by omega, by omega, HF⟩
  case round =>
    clear HF
    obtain ⟨i, rfl, hi0, hi, HF⟩ := hrel
    by_cases hlt : i < m.cm.l + 67
    · skip
      go_upto_region 7 with fail
      refine WL.start <| uK (.int .i64 ((i : Nat) : Int)) <| uK (.slice (some ⟨gk12, 0, none⟩) (m.cm.l + 67) (m.cm.l + 67)) <| uK (.int .i64 (((m.cm.l + 67) : Nat) : Int)) <| uB .lss 3 (.int .i64 ((i : Nat) : Int)) (.int .i64 (((m.cm.l + 67) : Nat) : Int)) (.bool true) (by rw [b_lss, decide_eq_true (by omega)]) <| WL.nil <| ?_
      try simp only [pS]
      go_upto_region 9 with fail
      refine WL.start <| uK (.slice (some ⟨gk12, 0, none⟩) (m.cm.l + 67) (m.cm.l + 67)) <| uK (.int .i64 ((i : Nat) : Int)) <| uK (.int .i64 ((i : Nat) : Int)) <| uB .sub 3 (.int .i64 0) (.int .i64 ((i : Nat) : Int)) (.int .i64 (-((i : Nat) : Int))) (b_subw _ _ _ (by rw [IntKind.wrap_i64]; omega) _) <| uW (.agg (Cm.cells ⟨0, 0, (-((i : Nat) : Int)), ⟨#[109, 97, 114, 107]⟩, 0, 0, 0, 0, 0⟩)) (exec_build 28 _ rfl (Cm.cells ⟨0, 0, (-((i : Nat) : Int)), ⟨#[109, 97, 114, 107]⟩, 0, 0, 0, 0, 0⟩) (by kernel_rfl)) <| uW (pV gk12 (0 + i * 9)) (exec_ixA 45 9 Try.und48e Try.size48e _ _ rfl gk12 0 (m.cm.l + 67) (m.cm.l + 67) i (by kernel_rfl) (by kernel_rfl) (by omega)) <| ?_
      try simp only [pS]
      refine uT 28 ⟨gk12, 0 + i * 9, none⟩ (.agg (Cm.cells ⟨0, 0, (-((i : Nat) : Int)), ⟨#[109, 97, 114, 107]⟩, 0, 0, 0, 0, 0⟩)) (wr.setRow gk12 ((cmL (tab (m.cm.l + 67) (upt (lntC m.cm.l cs) cZ (i + 1)))).toArray)) (lay_C _ (HF.out.box 6 _ _ _ rfl) (by omega) (lnt_ge (by omega))) ?_
      try simp only [pS]
      have HF : Hid (Fr No w (wr.setRow gk12 ((cmL (tab (m.cm.l + 67) (upt (lntC m.cm.l cs) cZ (i + 1)))).toArray)) [(gk1, 47, Mg.cells m), (gk3, 47, Mg.cells mgZ), (gk5, 47, Mg.cells ⟨m.k, m.fr, m.too, m.op, m.rd, m.ky, m.st, m.hd, ⟨(some ⟨gb, 0, none⟩), m.bl.l, (m.bl.l + 67)⟩, m.c, ⟨m.bk.up, ⟨(some ⟨ge, 0, none⟩), m.bk.e.l, (m.bk.e.l + 67)⟩, ⟨(some ⟨gl, 0, none⟩), m.bk.l.l, (m.bk.l.l + 67)⟩⟩, m.cm, m.mo⟩), (gb, 5, (u8L (tab (m.bl.l + 67) (lntB m.bl.l bs))).toArray), (ge, 124, (enL (tab (m.bk.e.l + 67) (lntE m.bk.e.l es))).toArray), (gl, 127, (laL (tab (m.bk.l.l + 67) (lntL m.bk.l.l ls))).toArray), (gk12, 28, (cmL (tab (m.cm.l + 67) (upt (lntC m.cm.l cs) cZ (i + 1)))).toArray)]) := HF.out.set 6 rfl _
      generalize wr.setRow gk12 ((cmL (tab (m.cm.l + 67) (upt (lntC m.cm.l cs) cZ (i + 1)))).toArray) = wk15 at HF ⊢
      refine WL.nil ?_
      try simp only [pS]
      go_upto_region 8 with fail
      refine WL.start <| uK (.int .i64 ((i : Nat) : Int)) <| uB .add 3 (.int .i64 ((i : Nat) : Int)) (.int .i64 1) (.int .i64 (((i + 1) : Nat) : Int)) (b_addw _ _ _ (by rw [IntKind.wrap_i64]; omega) _) <| uK (.int .i64 (((i + 1) : Nat) : Int)) <| WL.nil <| ?_
      try simp only [pS]
      go_wp2
      go_roundw
      case rel => exact ⟨i + 1, by go_num, by omega, by omega, HF⟩
      case measure => simp [intOf]; omega
    · skip
      have he : i = m.cm.l + 67 := by omega
      subst he
      go_upto_region 7 with fail
      refine WL.start <| uK (.int .i64 (((m.cm.l + 67) : Nat) : Int)) <| uK (.slice (some ⟨gk12, 0, none⟩) (m.cm.l + 67) (m.cm.l + 67)) <| uK (.int .i64 (((m.cm.l + 67) : Nat) : Int)) <| uB .lss 3 (.int .i64 (((m.cm.l + 67) : Nat) : Int)) (.int .i64 (((m.cm.l + 67) : Nat) : Int)) (.bool false) (by rw [b_lss, decide_eq_false (by omega)]) <| WL.nil <| ?_
      try simp only [pS]
      go_upto_region 10 with fail
      refine WL.start <| uK (.slice (some ⟨gk12, 0, none⟩) (m.cm.l + 67) (m.cm.l + 67)) <| uK (pV gk1 28) <| uL 45 ⟨gk1, 28, none⟩ (m.cm.v) (load_one ((HF.out.box 0 _ _ _ rfl).cell 28 |>.trans (by kernel_rfl)) Try.und48 rfl) <| uK (.int .i64 ((m.cm.l : Nat) : Int)) <| uW (.slice (some ⟨gk12, 0, none⟩) m.cm.l (m.cm.l + 67)) ((exec_slH 45 _ _ rfl 9 Try.und48e Try.size48e (some ⟨gk12, 0, none⟩) (m.cm.l + 67) (m.cm.l + 67) m.cm.l (by kernel_rfl) (by kernel_rfl) (by omega)).trans (by rw [sliced0 _ _ _ _ (by omega)])) <| uK (pV gk5 28) <| ?_
      try simp only [pS]
      refine uT 45 ⟨gk5, 28, none⟩ (.slice (some ⟨gk12, 0, none⟩) m.cm.l (m.cm.l + 67)) (wr.setRow gk5 (Mg.cells ⟨m.k, m.fr, m.too, m.op, m.rd, m.ky, m.st, m.hd, ⟨(some ⟨gb, 0, none⟩), m.bl.l, (m.bl.l + 67)⟩, m.c, ⟨m.bk.up, ⟨(some ⟨ge, 0, none⟩), m.bk.e.l, (m.bk.e.l + 67)⟩, ⟨(some ⟨gl, 0, none⟩), m.bk.l.l, (m.bk.l.l + 67)⟩⟩, ⟨(some ⟨gk12, 0, none⟩), m.cm.l, (m.cm.l + 67)⟩, m.mo⟩)) (rs (Mg.cs ⟨m.k, m.fr, m.too, m.op, m.rd, m.ky, m.st, m.hd, ⟨(some ⟨gb, 0, none⟩), m.bl.l, (m.bl.l + 67)⟩, m.c, ⟨m.bk.up, ⟨(some ⟨ge, 0, none⟩), m.bk.e.l, (m.bk.e.l + 67)⟩, ⟨(some ⟨gl, 0, none⟩), m.bk.l.l, (m.bk.l.l + 67)⟩⟩, m.cm, m.mo⟩) ([.slice (some ⟨gk12, 0, none⟩) m.cm.l (m.cm.l + 67)]) (Mg.cs ⟨m.k, m.fr, m.too, m.op, m.rd, m.ky, m.st, m.hd, ⟨(some ⟨gb, 0, none⟩), m.bl.l, (m.bl.l + 67)⟩, m.c, ⟨m.bk.up, ⟨(some ⟨ge, 0, none⟩), m.bk.e.l, (m.bk.e.l + 67)⟩, ⟨(some ⟨gl, 0, none⟩), m.bk.l.l, (m.bk.l.l + 67)⟩⟩, ⟨(some ⟨gk12, 0, none⟩), m.cm.l, (m.cm.l + 67)⟩, m.mo⟩) (HF.out.box 2 _ _ _ rfl) Try.size48 (by simp [Value.oneCell', Sl.v])) ?_
      try simp only [pS]
      have HF : Hid (Fr No w (wr.setRow gk5 (Mg.cells ⟨m.k, m.fr, m.too, m.op, m.rd, m.ky, m.st, m.hd, ⟨(some ⟨gb, 0, none⟩), m.bl.l, (m.bl.l + 67)⟩, m.c, ⟨m.bk.up, ⟨(some ⟨ge, 0, none⟩), m.bk.e.l, (m.bk.e.l + 67)⟩, ⟨(some ⟨gl, 0, none⟩), m.bk.l.l, (m.bk.l.l + 67)⟩⟩, ⟨(some ⟨gk12, 0, none⟩), m.cm.l, (m.cm.l + 67)⟩, m.mo⟩)) [(gk1, 47, Mg.cells m), (gk3, 47, Mg.cells mgZ), (gk5, 47, Mg.cells ⟨m.k, m.fr, m.too, m.op, m.rd, m.ky, m.st, m.hd, ⟨(some ⟨gb, 0, none⟩), m.bl.l, (m.bl.l + 67)⟩, m.c, ⟨m.bk.up, ⟨(some ⟨ge, 0, none⟩), m.bk.e.l, (m.bk.e.l + 67)⟩, ⟨(some ⟨gl, 0, none⟩), m.bk.l.l, (m.bk.l.l + 67)⟩⟩, ⟨(some ⟨gk12, 0, none⟩), m.cm.l, (m.cm.l + 67)⟩, m.mo⟩), (gb, 5, (u8L (tab (m.bl.l + 67) (lntB m.bl.l bs))).toArray), (ge, 124, (enL (tab (m.bk.e.l + 67) (lntE m.bk.e.l es))).toArray), (gl, 127, (laL (tab (m.bk.l.l + 67) (lntL m.bk.l.l ls))).toArray), (gk12, 28, (cmL (tab (m.cm.l + 67) (upt (lntC m.cm.l cs) cZ (m.cm.l + 67)))).toArray)]) := HF.out.set 2 rfl _
      generalize wr.setRow gk5 (Mg.cells ⟨m.k, m.fr, m.too, m.op, m.rd, m.ky, m.st, m.hd, ⟨(some ⟨gb, 0, none⟩), m.bl.l, (m.bl.l + 67)⟩, m.c, ⟨m.bk.up, ⟨(some ⟨ge, 0, none⟩), m.bk.e.l, (m.bk.e.l + 67)⟩, ⟨(some ⟨gl, 0, none⟩), m.bk.l.l, (m.bk.l.l + 67)⟩⟩, ⟨(some ⟨gk12, 0, none⟩), m.cm.l, (m.cm.l + 67)⟩, m.mo⟩) = wk16 at HF ⊢
      refine WL.nil ?_
      try simp only [pS]
      go_upto_region 11 with fail
      refine WL.start <| uL 47 ⟨gk5, 0, none⟩ (.agg (Mg.cells ⟨m.k, m.fr, m.too, m.op, m.rd, m.ky, m.st, m.hd, ⟨(some ⟨gb, 0, none⟩), m.bl.l, (m.bl.l + 67)⟩, m.c, ⟨m.bk.up, ⟨(some ⟨ge, 0, none⟩), m.bk.e.l, (m.bk.e.l + 67)⟩, ⟨(some ⟨gl, 0, none⟩), m.bk.l.l, (m.bk.l.l + 67)⟩⟩, ⟨(some ⟨gk12, 0, none⟩), m.cm.l, (m.cm.l + 67)⟩, m.mo⟩)) (run_load_part (cs := Mg.cs ⟨m.k, m.fr, m.too, m.op, m.rd, m.ky, m.st, m.hd, ⟨(some ⟨gb, 0, none⟩), m.bl.l, (m.bl.l + 67)⟩, m.c, ⟨m.bk.up, ⟨(some ⟨ge, 0, none⟩), m.bk.e.l, (m.bk.e.l + 67)⟩, ⟨(some ⟨gl, 0, none⟩), m.bk.l.l, (m.bk.l.l + 67)⟩⟩, ⟨(some ⟨gk12, 0, none⟩), m.cm.l, (m.cm.l + 67)⟩, m.mo⟩) (sub := Mg.cs ⟨m.k, m.fr, m.too, m.op, m.rd, m.ky, m.st, m.hd, ⟨(some ⟨gb, 0, none⟩), m.bl.l, (m.bl.l + 67)⟩, m.c, ⟨m.bk.up, ⟨(some ⟨ge, 0, none⟩), m.bk.e.l, (m.bk.e.l + 67)⟩, ⟨(some ⟨gl, 0, none⟩), m.bk.l.l, (m.bk.l.l + 67)⟩⟩, ⟨(some ⟨gk12, 0, none⟩), m.cm.l, (m.cm.l + 67)⟩, m.mo⟩) (HF.out.box 2 _ _ _ rfl) (Part.all _) Try.und50 rfl Try.size50) <| ?_
      try simp only [pS]
      refine uT 47 ⟨gk3, 0, none⟩ (.agg (Mg.cells ⟨m.k, m.fr, m.too, m.op, m.rd, m.ky, m.st, m.hd, ⟨(some ⟨gb, 0, none⟩), m.bl.l, (m.bl.l + 67)⟩, m.c, ⟨m.bk.up, ⟨(some ⟨ge, 0, none⟩), m.bk.e.l, (m.bk.e.l + 67)⟩, ⟨(some ⟨gl, 0, none⟩), m.bk.l.l, (m.bk.l.l + 67)⟩⟩, ⟨(some ⟨gk12, 0, none⟩), m.cm.l, (m.cm.l + 67)⟩, m.mo⟩)) (wk16.setRow gk3 (Mg.cells ⟨m.k, m.fr, m.too, m.op, m.rd, m.ky, m.st, m.hd, ⟨(some ⟨gb, 0, none⟩), m.bl.l, (m.bl.l + 67)⟩, m.c, ⟨m.bk.up, ⟨(some ⟨ge, 0, none⟩), m.bk.e.l, (m.bk.e.l + 67)⟩, ⟨(some ⟨gl, 0, none⟩), m.bk.l.l, (m.bk.l.l + 67)⟩⟩, ⟨(some ⟨gk12, 0, none⟩), m.cm.l, (m.cm.l + 67)⟩, m.mo⟩)) (rs (Mg.cs mgZ) (Mg.cs ⟨m.k, m.fr, m.too, m.op, m.rd, m.ky, m.st, m.hd, ⟨(some ⟨gb, 0, none⟩), m.bl.l, (m.bl.l + 67)⟩, m.c, ⟨m.bk.up, ⟨(some ⟨ge, 0, none⟩), m.bk.e.l, (m.bk.e.l + 67)⟩, ⟨(some ⟨gl, 0, none⟩), m.bk.l.l, (m.bk.l.l + 67)⟩⟩, ⟨(some ⟨gk12, 0, none⟩), m.cm.l, (m.cm.l + 67)⟩, m.mo⟩) (Mg.cs ⟨m.k, m.fr, m.too, m.op, m.rd, m.ky, m.st, m.hd, ⟨(some ⟨gb, 0, none⟩), m.bl.l, (m.bl.l + 67)⟩, m.c, ⟨m.bk.up, ⟨(some ⟨ge, 0, none⟩), m.bk.e.l, (m.bk.e.l + 67)⟩, ⟨(some ⟨gl, 0, none⟩), m.bk.l.l, (m.bk.l.l + 67)⟩⟩, ⟨(some ⟨gk12, 0, none⟩), m.cm.l, (m.cm.l + 67)⟩, m.mo⟩) (HF.out.box 1 _ _ _ rfl) Try.size50 (Mg.oneL _)) ?_
      try simp only [pS]
      have HF : Hid (Fr No w (wk16.setRow gk3 (Mg.cells ⟨m.k, m.fr, m.too, m.op, m.rd, m.ky, m.st, m.hd, ⟨(some ⟨gb, 0, none⟩), m.bl.l, (m.bl.l + 67)⟩, m.c, ⟨m.bk.up, ⟨(some ⟨ge, 0, none⟩), m.bk.e.l, (m.bk.e.l + 67)⟩, ⟨(some ⟨gl, 0, none⟩), m.bk.l.l, (m.bk.l.l + 67)⟩⟩, ⟨(some ⟨gk12, 0, none⟩), m.cm.l, (m.cm.l + 67)⟩, m.mo⟩)) [(gk1, 47, Mg.cells m), (gk3, 47, Mg.cells ⟨m.k, m.fr, m.too, m.op, m.rd, m.ky, m.st, m.hd, ⟨(some ⟨gb, 0, none⟩), m.bl.l, (m.bl.l + 67)⟩, m.c, ⟨m.bk.up, ⟨(some ⟨ge, 0, none⟩), m.bk.e.l, (m.bk.e.l + 67)⟩, ⟨(some ⟨gl, 0, none⟩), m.bk.l.l, (m.bk.l.l + 67)⟩⟩, ⟨(some ⟨gk12, 0, none⟩), m.cm.l, (m.cm.l + 67)⟩, m.mo⟩), (gk5, 47, Mg.cells ⟨m.k, m.fr, m.too, m.op, m.rd, m.ky, m.st, m.hd, ⟨(some ⟨gb, 0, none⟩), m.bl.l, (m.bl.l + 67)⟩, m.c, ⟨m.bk.up, ⟨(some ⟨ge, 0, none⟩), m.bk.e.l, (m.bk.e.l + 67)⟩, ⟨(some ⟨gl, 0, none⟩), m.bk.l.l, (m.bk.l.l + 67)⟩⟩, ⟨(some ⟨gk12, 0, none⟩), m.cm.l, (m.cm.l + 67)⟩, m.mo⟩), (gb, 5, (u8L (tab (m.bl.l + 67) (lntB m.bl.l bs))).toArray), (ge, 124, (enL (tab (m.bk.e.l + 67) (lntE m.bk.e.l es))).toArray), (gl, 127, (laL (tab (m.bk.l.l + 67) (lntL m.bk.l.l ls))).toArray), (gk12, 28, (cmL (tab (m.cm.l + 67) (upt (lntC m.cm.l cs) cZ (m.cm.l + 67)))).toArray)]) := HF.out.set 1 rfl _
      generalize wk16.setRow gk3 (Mg.cells ⟨m.k, m.fr, m.too, m.op, m.rd, m.ky, m.st, m.hd, ⟨(some ⟨gb, 0, none⟩), m.bl.l, (m.bl.l + 67)⟩, m.c, ⟨m.bk.up, ⟨(some ⟨ge, 0, none⟩), m.bk.e.l, (m.bk.e.l + 67)⟩, ⟨(some ⟨gl, 0, none⟩), m.bk.l.l, (m.bk.l.l + 67)⟩⟩, ⟨(some ⟨gk12, 0, none⟩), m.cm.l, (m.cm.l + 67)⟩, m.mo⟩) = wk17 at HF ⊢
      refine WL.nil ?_
      try simp only [pS]
      go_wp2
      rw [HC.out]
      refine bodyPost_ret (results_row1 (by rfl) _ _ gk3 (Mg.cells ⟨m.k, m.fr, m.too, m.op, m.rd, m.ky, m.st, m.hd, ⟨(some ⟨gb, 0, none⟩), m.bl.l, (m.bl.l + 67)⟩, m.c, ⟨m.bk.up, ⟨(some ⟨ge, 0, none⟩), m.bk.e.l, (m.bk.e.l + 67)⟩, ⟨(some ⟨gl, 0, none⟩), m.bk.l.l, (m.bk.l.l + 67)⟩⟩, ⟨(some ⟨gk12, 0, none⟩), m.cm.l, (m.cm.l + 67)⟩, m.mo⟩) (by rfl) (run_load_part (cs := Mg.cs ⟨m.k, m.fr, m.too, m.op, m.rd, m.ky, m.st, m.hd, ⟨(some ⟨gb, 0, none⟩), m.bl.l, (m.bl.l + 67)⟩, m.c, ⟨m.bk.up, ⟨(some ⟨ge, 0, none⟩), m.bk.e.l, (m.bk.e.l + 67)⟩, ⟨(some ⟨gl, 0, none⟩), m.bk.l.l, (m.bk.l.l + 67)⟩⟩, ⟨(some ⟨gk12, 0, none⟩), m.cm.l, (m.cm.l + 67)⟩, m.mo⟩) (sub := Mg.cs ⟨m.k, m.fr, m.too, m.op, m.rd, m.ky, m.st, m.hd, ⟨(some ⟨gb, 0, none⟩), m.bl.l, (m.bl.l + 67)⟩, m.c, ⟨m.bk.up, ⟨(some ⟨ge, 0, none⟩), m.bk.e.l, (m.bk.e.l + 67)⟩, ⟨(some ⟨gl, 0, none⟩), m.bk.l.l, (m.bk.l.l + 67)⟩⟩, ⟨(some ⟨gk12, 0, none⟩), m.cm.l, (m.cm.l + 67)⟩, m.mo⟩) (HF.out.box 1 _ _ _ rfl) (Part.all _) Try.und50 rfl Try.size50)) rfl ?_
      exact ⟨gb, ge, gl, gk12, rfl, ⟨HF.out.box 3 _ _ _ rfl, HF.out.box 4 _ _ _ rfl, HF.out.box 5 _ _ _ rfl, by have h := HF.out.box 6 _ _ _ rfl; rw [upt_all] at h; exact h, HF.out.low 3 _ _ _ rfl, HF.out.low 4 _ _ _ rfl, HF.out.low 5 _ _ _ rfl, HF.out.low 6 _ _ _ rfl⟩, HF.out.kept⟩

end Go.Proofs.Ytpabpeppgpeaoaa.Md
namespace Go.Proofs.Ytpabpeppgpeaoaa.Md
open Go.RowKit
set_option linter.unusedVariables false
set_option linter.unusedSimpArgs false

set_option maxRecDepth 100000 in
set_option maxHeartbeats 4000000 in
theorem spoil_any (m : Mg) (gb ge gl gc base : Nat) (bs : List Int) (es : List En) (ls : List La) (cs : List Cm) (w : World) (hl : LmAt w base m bs es ls cs gb ge gl gc) (hnb : m.bl.l ≤ 140737488351232) (hne : m.bk.e.l ≤ 3518437208780) (hnl : m.bk.l.l ≤ 2513169434843) (hnc : m.cm.l ≤ 1759218604390) : Calls Try.prog 29 #[.agg (Mg.cells (lentM m gb ge gl gc))] w (fun e w' => e = .returned (.tuple #[]) ∧ Kept (fun k => k = gb ∨ k = ge ∨ k = gl ∨ k = gc) w w') := by
  refine hideC fun C HC => ?_
  have tb : gb < w.heap.size := hl.b.lt
  have te : ge < w.heap.size := hl.e.lt
  have tl : gl < w.heap.size := hl.l.lt
  have tc : gc < w.heap.size := hl.c.lt
  have nbc : gb ≠ gc := hl.b.ne hl.c (by decide)
  have nec : ge ≠ gc := hl.e.ne hl.c (by decide)
  have nlc : gl ≠ gc := hl.l.ne hl.c (by decide)
  have neb : ge ≠ gb := hl.e.ne hl.b (by decide)
  have nlb : gl ≠ gb := hl.l.ne hl.b (by decide)
  have HB : Hid (Box w gb 5 (u8L (tab (m.bl.l + 67) (lntB m.bl.l bs))).toArray) := hl.b
  have HE : Hid (Box w ge 124 (enL (tab (m.bk.e.l + 67) (lntE m.bk.e.l es))).toArray) := hl.e
  have HL : Hid (Box w gl 127 (laL (tab (m.bk.l.l + 67) (lntL m.bk.l.l ls))).toArray) := hl.l
  have HP : Hid (Box w gc 28 (cmL (tab (m.cm.l + 67) (lntC m.cm.l cs))).toArray) := hl.c
  clear hl
  have HF : Hid (Fr (fun k => k = gb ∨ k = ge ∨ k = gl ∨ k = gc) w w []) := Fr.start _ _
  go_enter Try.func29, Try.ntmps29
  go_upto_region 0 with fail
  refine WL.start ?_
  refine uR (pV w.heap.size 0) (w.alloc (.cells (Mg.cells (lentM m gb ge gl gc)) 47)) (exec_box 47 _ rfl (Mg.cells (lentM m gb ge gl gc)) (by kernel_rfl)) ?_
  try simp only [pS]
  have HB : Hid (Box (w.alloc (.cells (Mg.cells (lentM m gb ge gl gc)) 47)) gb 5 (u8L (tab (m.bl.l + 67) (lntB m.bl.l bs))).toArray) := HB.out.no ((Kept.refl No _).alloc _)
  have HE : Hid (Box (w.alloc (.cells (Mg.cells (lentM m gb ge gl gc)) 47)) ge 124 (enL (tab (m.bk.e.l + 67) (lntE m.bk.e.l es))).toArray) := HE.out.no ((Kept.refl No _).alloc _)
  have HL : Hid (Box (w.alloc (.cells (Mg.cells (lentM m gb ge gl gc)) 47)) gl 127 (laL (tab (m.bk.l.l + 67) (lntL m.bk.l.l ls))).toArray) := HL.out.no ((Kept.refl No _).alloc _)
  have HP : Hid (Box (w.alloc (.cells (Mg.cells (lentM m gb ge gl gc)) 47)) gc 28 (cmL (tab (m.cm.l + 67) (lntC m.cm.l cs))).toArray) := HP.out.no ((Kept.refl No _).alloc _)
  have HF : Hid (Fr (fun k => k = gb ∨ k = ge ∨ k = gl ∨ k = gc) w (w.alloc (.cells (Mg.cells (lentM m gb ge gl gc)) 47)) [(w.heap.size, 47, Mg.cells (lentM m gb ge gl gc))]) := HF.out.alloc _ _
  generalize w.alloc (.cells (Mg.cells (lentM m gb ge gl gc)) 47) = wk2 at HF HB HE HL HP ⊢
  generalize w.heap.size = gk1 at HF ⊢
  refine WL.nil ?_
  try simp only [pS]
  go_upto_region 1 with fail
  refine WL.start <| uK (.int .i64 0) <| WL.nil <| ?_
  try simp only [pS]
  go_wp2
  go_loopw [2] (fun v5 wr => ∃ (i : Nat) (cur : List Int), v5 = .int .i64 ((i : Nat) : Int) ∧ i ≤ m.bl.l ∧ m.bl.l ≤ cur.length ∧ Hid (Box wr gb 5 (u8L cur).toArray) ∧ Hid (Box wr ge 124 (enL (tab (m.bk.e.l + 67) (lntE m.bk.e.l es))).toArray) ∧ Hid (Box wr gl 127 (laL (tab (m.bk.l.l + 67) (lntL m.bk.l.l ls))).toArray) ∧ Hid (Box wr gc 28 (cmL (tab (m.cm.l + 67) (lntC m.cm.l cs))).toArray) ∧ Hid (Fr (fun k => k = gb ∨ k = ge ∨ k = gl ∨ k = gc) w wr [(gk1, 47, Mg.cells (lentM m gb ge gl gc))])) (fun i _ => m.bl.l - (intOf i).toNat)
  case atStart => exact ⟨0, _, by go_num, by omega, by rw [tab_len]; omega, HB, HE, HL, HP, HF⟩
  case round =>
    clear HF HB HE HL HP
    obtain ⟨i, cur, rfl, hi, hcl, HB, HE, HL, HP, HF⟩ := hrel
    by_cases hlt : i < m.bl.l
    · skip
      obtain ⟨z, hz⟩ : ∃ z, cur[i]? = some z := ⟨cur[i], List.getElem?_eq_getElem (by omega)⟩
      go_upto_region 2 with fail
      refine WL.start <| uK (.int .i64 ((i : Nat) : Int)) <| uK (pV gk1 15) <| uL 40 ⟨gk1, 15, none⟩ (.slice (some ⟨gb, 0, none⟩) m.bl.l (m.bl.l + 67)) (load_one ((HF.out.box 0 _ _ _ rfl).cell 15 |>.trans (by kernel_rfl)) Try.und26 rfl) <| uK (.int .i64 ((m.bl.l : Nat) : Int)) <| uB .lss 3 (.int .i64 ((i : Nat) : Int)) (.int .i64 ((m.bl.l : Nat) : Int)) (.bool true) (by rw [b_lss, decide_eq_true (by omega)]) <| WL.nil <| ?_
      try simp only [pS]
      go_upto_region 4 with fail
      refine wp_region_held_drew (S := fun w' => Fr (fun k => k = gb ∨ k = ge ∨ k = gl ∨ k = gc) w w' [(gk1, 47, Mg.cells (lentM m gb ge gl gc))]) rfl (HF.out.drew) (fun hH => ?_)
      have HE : Hid (Box (wr.drew) ge 124 (enL (tab (m.bk.e.l + 67) (lntE m.bk.e.l es))).toArray) := HE.out.no (Kept.refl No _).drew
      have HL : Hid (Box (wr.drew) gl 127 (laL (tab (m.bk.l.l + 67) (lntL m.bk.l.l ls))).toArray) := HL.out.no (Kept.refl No _).drew
      have HP : Hid (Box (wr.drew) gc 28 (cmL (tab (m.cm.l + 67) (lntC m.cm.l cs))).toArray) := HP.out.no (Kept.refl No _).drew
      have HB : Hid (Box (wr.drew) gb 5 (u8L cur).toArray) := HB.out.no (Kept.refl No _).drew
      have HF : Hid (Fr (fun k => k = gb ∨ k = ge ∨ k = gl ∨ k = gc) w (wr.drew) [(gk1, 47, Mg.cells (lentM m gb ge gl gc))]) := HF.out.drew
      generalize wr.drew = wk3 at HF HE HL HP HB hH ⊢
      refine xV 0 11 (pV gk1 15) hH <| xL 1 12 40 ⟨gk1, 15, none⟩ (.slice (some ⟨gb, 0, none⟩) m.bl.l (m.bl.l + 67)) (fun _ hw => load_one ((hw.box 0 _ _ _ rfl).cell 15 |>.trans (by kernel_rfl)) Try.und26 rfl) hH <| xV 2 13 (.int .i64 ((i : Nat) : Int)) hH <| xV 3 14 (pV gk1 15) hH <| xL 4 15 40 ⟨gk1, 15, none⟩ (.slice (some ⟨gb, 0, none⟩) m.bl.l (m.bl.l + 67)) (fun _ hw => load_one ((hw.box 0 _ _ _ rfl).cell 15 |>.trans (by kernel_rfl)) Try.und26 rfl) hH <| xV 5 16 (.int .i64 ((i : Nat) : Int)) hH <| ?_
      try simp only [pS]
      refine xU 6 17 (pV gb (0 + i * 1)) (fun w' hw => exec_ixA 40 1 Try.und26e Try.size26e _ _ rfl gb 0 m.bl.l (m.bl.l + 67) i (by kernel_rfl) (by kernel_rfl) (by omega)) hH ?_
      try simp only [pS]
      refine any_step (i := 7) (o := { dst := some 18, op := Op.load 5 (Operand.tmp 17), type := 5, pos := "same.go:145", after := #[{ on := 6, ground := Ground.data }], guard := none }) (w' := wk3) rfl (by kernel_rfl) (by kernel_rfl) (exec_load 5 _ rfl ⟨gb, 0 + i * 1, none⟩ (by kernel_rfl) (.int .u8 z) (load_one (row_B HB.out hz) Try.und5 rfl)) hH (fun hH => ?_)
      try simp only [pS]
      refine xB 8 19 .add 5 (.int .u8 z) (.int .u8 1) (.int .u8 (IntKind.u8.wrap (z + 1))) (fun _ _ => b_add8 _ _) hH <| xU 9 20 (pV gb (0 + i * 1)) (fun w' hw => exec_ixA 40 1 Try.und26e Try.size26e _ _ rfl gb 0 m.bl.l (m.bl.l + 67) i (by kernel_rfl) (by kernel_rfl) (by omega)) hH <| ?_
      try simp only [pS]
      refine xS 10 5 ⟨gb, 0 + i * 1, none⟩ (.int .u8 (IntKind.u8.wrap (z + 1))) (w' := wk3.setRow gb (u8L (cur.set i (IntKind.u8.wrap (z + 1)))).toArray) (st_B _ HB.out (by omega)) (hH.via (Kept.setRow _ _ _) (fun k e => ⟨by have e : k = gb := e; omega, by have e : k = gb := e; subst e; simp⟩)) (fun hH => ?_)
      try simp only [pS]
      have HE : Hid (Box (wk3.setRow gb (u8L (cur.set i (IntKind.u8.wrap (z + 1)))).toArray) ge 124 (enL (tab (m.bk.e.l + 67) (lntE m.bk.e.l es))).toArray) := HE.out.rowNe neb _
      have HL : Hid (Box (wk3.setRow gb (u8L (cur.set i (IntKind.u8.wrap (z + 1)))).toArray) gl 127 (laL (tab (m.bk.l.l + 67) (lntL m.bk.l.l ls))).toArray) := HL.out.rowNe nlb _
      have HP : Hid (Box (wk3.setRow gb (u8L (cur.set i (IntKind.u8.wrap (z + 1)))).toArray) gc 28 (cmL (tab (m.cm.l + 67) (lntC m.cm.l cs))).toArray) := HP.out.rowNe nbc.symm _
      have HB : Hid (Box (wk3.setRow gb (u8L (cur.set i (IntKind.u8.wrap (z + 1)))).toArray) gb 5 (u8L (cur.set i (IntKind.u8.wrap (z + 1)))).toArray) := Box.setRow HB.out _
      have HF : Hid (Fr (fun k => k = gb ∨ k = ge ∨ k = gl ∨ k = gc) w (wk3.setRow gb (u8L (cur.set i (IntKind.u8.wrap (z + 1)))).toArray) [(gk1, 47, Mg.cells (lentM m gb ge gl gc))]) := HF.out.via (Kept.setRow _ _ _) (fun k e => ⟨by have e : k = gb := e; omega, by have e : k = gb := e; subst e; simp⟩)
      generalize wk3.setRow gb (u8L (cur.set i (IntKind.u8.wrap (z + 1)))).toArray = wk4 at HF HE HL HP HB hH ⊢
      refine wpAnyH_done (by kernel_rfl) ?_ _
      try simp only [pS]
      clear hH
      go_upto_region 3 with fail
      refine WL.start <| uK (.int .i64 ((i : Nat) : Int)) <| uB .add 3 (.int .i64 ((i : Nat) : Int)) (.int .i64 1) (.int .i64 (((i + 1) : Nat) : Int)) (b_addw _ _ _ (by rw [IntKind.wrap_i64]; omega) _) <| uK (.int .i64 (((i + 1) : Nat) : Int)) <| WL.nil <| ?_
      try simp only [pS]
      go_wp2
      go_roundw
      case rel => exact ⟨i + 1, _, by go_num, by omega, by rw [List.length_set]; exact hcl, HB, HE, HL, HP, HF⟩
      case measure => simp [intOf]; omega
    · skip
      go_upto_region 2 with fail
      refine WL.start <| uK (.int .i64 ((i : Nat) : Int)) <| uK (pV gk1 15) <| uL 40 ⟨gk1, 15, none⟩ (.slice (some ⟨gb, 0, none⟩) m.bl.l (m.bl.l + 67)) (load_one ((HF.out.box 0 _ _ _ rfl).cell 15 |>.trans (by kernel_rfl)) Try.und26 rfl) <| uK (.int .i64 ((m.bl.l : Nat) : Int)) <| uB .lss 3 (.int .i64 ((i : Nat) : Int)) (.int .i64 ((m.bl.l : Nat) : Int)) (.bool false) (by rw [b_lss, decide_eq_false (by omega)]) <| WL.nil <| ?_
      try simp only [pS]
      go_upto_region 5 with fail
      refine WL.start <| uK (.int .i64 0) <| WL.nil <| ?_
      try simp only [pS]
      go_wp2
      go_loopw [3] (fun v5 wr => ∃ (i : Nat) (cur : List Cm), v5 = .int .i64 ((i : Nat) : Int) ∧ i ≤ m.cm.l ∧ m.cm.l ≤ cur.length ∧ Hid (Box wr gc 28 (cmL cur).toArray) ∧ Hid (Box wr ge 124 (enL (tab (m.bk.e.l + 67) (lntE m.bk.e.l es))).toArray) ∧ Hid (Box wr gl 127 (laL (tab (m.bk.l.l + 67) (lntL m.bk.l.l ls))).toArray) ∧ Hid (Fr (fun k => k = gb ∨ k = ge ∨ k = gl ∨ k = gc) w wr [(gk1, 47, Mg.cells (lentM m gb ge gl gc))])) (fun i _ => m.cm.l - (intOf i).toNat)
      case atStart => exact ⟨0, _, by go_num, by omega, by rw [tab_len]; omega, HP, HE, HL, HF⟩
      case round =>
        clear HF HB HE HL HP
        obtain ⟨i, cur, rfl, hi, hcl, HP, HE, HL, HF⟩ := hrel
        by_cases hlt : i < m.cm.l
        · skip
          go_upto_region 6 with fail
          refine WL.start <| uK (.int .i64 ((i : Nat) : Int)) <| uK (pV gk1 28) <| uL 45 ⟨gk1, 28, none⟩ (.slice (some ⟨gc, 0, none⟩) m.cm.l (m.cm.l + 67)) (load_one ((HF.out.box 0 _ _ _ rfl).cell 28 |>.trans (by kernel_rfl)) Try.und48 rfl) <| uK (.int .i64 ((m.cm.l : Nat) : Int)) <| uB .lss 3 (.int .i64 ((i : Nat) : Int)) (.int .i64 ((m.cm.l : Nat) : Int)) (.bool true) (by rw [b_lss, decide_eq_true (by omega)]) <| WL.nil <| ?_
          try simp only [pS]
          go_upto_region 8 with fail
          refine WL.start <| uK (pV gk1 28) <| uL 45 ⟨gk1, 28, none⟩ (.slice (some ⟨gc, 0, none⟩) m.cm.l (m.cm.l + 67)) (load_one ((HF.out.box 0 _ _ _ rfl).cell 28 |>.trans (by kernel_rfl)) Try.und48 rfl) <| uK (.int .i64 ((i : Nat) : Int)) <| uW (.agg (Cm.cells ⟨0, 0, 0, ⟨#[115, 112, 111, 105, 108, 116]⟩, 0, 0, 0, 0, 0⟩)) (exec_build 28 _ rfl (Cm.cells ⟨0, 0, 0, ⟨#[115, 112, 111, 105, 108, 116]⟩, 0, 0, 0, 0, 0⟩) (by kernel_rfl)) <| uW (pV gc (0 + i * 9)) (exec_ixA 45 9 Try.und48e Try.size48e _ _ rfl gc 0 m.cm.l (m.cm.l + 67) i (by kernel_rfl) (by kernel_rfl) (by omega)) <| ?_
          try simp only [pS]
          refine uT 28 ⟨gc, 0 + i * 9, none⟩ (.agg (Cm.cells ⟨0, 0, 0, ⟨#[115, 112, 111, 105, 108, 116]⟩, 0, 0, 0, 0, 0⟩)) (wr.setRow gc (cmL (cur.set i ⟨0, 0, 0, ⟨#[115, 112, 111, 105, 108, 116]⟩, 0, 0, 0, 0, 0⟩)).toArray) (st_C _ HP.out (by omega)) ?_
          try simp only [pS]
          have HE : Hid (Box (wr.setRow gc (cmL (cur.set i ⟨0, 0, 0, ⟨#[115, 112, 111, 105, 108, 116]⟩, 0, 0, 0, 0, 0⟩)).toArray) ge 124 (enL (tab (m.bk.e.l + 67) (lntE m.bk.e.l es))).toArray) := HE.out.rowNe nec _
          have HL : Hid (Box (wr.setRow gc (cmL (cur.set i ⟨0, 0, 0, ⟨#[115, 112, 111, 105, 108, 116]⟩, 0, 0, 0, 0, 0⟩)).toArray) gl 127 (laL (tab (m.bk.l.l + 67) (lntL m.bk.l.l ls))).toArray) := HL.out.rowNe nlc _
          have HP : Hid (Box (wr.setRow gc (cmL (cur.set i ⟨0, 0, 0, ⟨#[115, 112, 111, 105, 108, 116]⟩, 0, 0, 0, 0, 0⟩)).toArray) gc 28 (cmL (cur.set i ⟨0, 0, 0, ⟨#[115, 112, 111, 105, 108, 116]⟩, 0, 0, 0, 0, 0⟩)).toArray) := Box.setRow HP.out _
          have HF : Hid (Fr (fun k => k = gb ∨ k = ge ∨ k = gl ∨ k = gc) w (wr.setRow gc (cmL (cur.set i ⟨0, 0, 0, ⟨#[115, 112, 111, 105, 108, 116]⟩, 0, 0, 0, 0, 0⟩)).toArray) [(gk1, 47, Mg.cells (lentM m gb ge gl gc))]) := HF.out.via (Kept.setRow _ _ _) (fun k e => ⟨by have e : k = gc := e; omega, by have e : k = gc := e; subst e; simp⟩)
          generalize wr.setRow gc (cmL (cur.set i ⟨0, 0, 0, ⟨#[115, 112, 111, 105, 108, 116]⟩, 0, 0, 0, 0, 0⟩)).toArray = wk5 at HF HE HL HP ⊢
          refine WL.nil ?_
          try simp only [pS]
          go_upto_region 7 with fail
          refine WL.start <| uK (.int .i64 ((i : Nat) : Int)) <| uB .add 3 (.int .i64 ((i : Nat) : Int)) (.int .i64 1) (.int .i64 (((i + 1) : Nat) : Int)) (b_addw _ _ _ (by rw [IntKind.wrap_i64]; omega) _) <| uK (.int .i64 (((i + 1) : Nat) : Int)) <| WL.nil <| ?_
          try simp only [pS]
          go_wp2
          go_roundw
          case rel => exact ⟨i + 1, _, by go_num, by omega, by rw [List.length_set]; exact hcl, HP, HE, HL, HF⟩
          case measure => simp [intOf]; omega
        · skip
          go_upto_region 6 with fail
          refine WL.start <| uK (.int .i64 ((i : Nat) : Int)) <| uK (pV gk1 28) <| uL 45 ⟨gk1, 28, none⟩ (.slice (some ⟨gc, 0, none⟩) m.cm.l (m.cm.l + 67)) (load_one ((HF.out.box 0 _ _ _ rfl).cell 28 |>.trans (by kernel_rfl)) Try.und48 rfl) <| uK (.int .i64 ((m.cm.l : Nat) : Int)) <| uB .lss 3 (.int .i64 ((i : Nat) : Int)) (.int .i64 ((m.cm.l : Nat) : Int)) (.bool false) (by rw [b_lss, decide_eq_false (by omega)]) <| WL.nil <| ?_
          try simp only [pS]
          go_upto_region 9 with fail
          refine WL.start <| uK (pV gk1 25) <| uL 44 ⟨gk1, 25, none⟩ (.agg (Bv.cells ⟨m.bk.up, ⟨(some ⟨ge, 0, none⟩), m.bk.e.l, (m.bk.e.l + 67)⟩, ⟨(some ⟨gl, 0, none⟩), m.bk.l.l, (m.bk.l.l + 67)⟩⟩)) (run_load_part (cs := Mg.cs (lentM m gb ge gl gc)) (sub := Bv.cs ⟨m.bk.up, ⟨(some ⟨ge, 0, none⟩), m.bk.e.l, (m.bk.e.l + 67)⟩, ⟨(some ⟨gl, 0, none⟩), m.bk.l.l, (m.bk.l.l + 67)⟩⟩) (HF.out.box 0 _ _ _ rfl) (part_of (by kernel_rfl)) Try.und32 rfl Try.size32) <| ?_
          try simp only [pS]
          refine uC 59 #[.agg (Bv.cells ⟨m.bk.up, ⟨(some ⟨ge, 0, none⟩), m.bk.e.l, (m.bk.e.l + 67)⟩, ⟨(some ⟨gl, 0, none⟩), m.bk.l.l, (m.bk.l.l + 67)⟩⟩)] (spoilK_any m.bk.up ge gl m.bk.e.l m.bk.l.l (m.bk.e.l + 67) (m.bk.l.l + 67) _ _ _ HE.out HL.out (by rw [tab_len]; omega) (by rw [tab_len]; omega) (by omega) (by omega)) ?_
          rintro e wk6 ⟨rfl, hk⟩
          have HF : Hid (Fr (fun k => k = gb ∨ k = ge ∨ k = gl ∨ k = gc) w (wk6) [(gk1, 47, Mg.cells (lentM m gb ge gl gc))]) := HF.out.via hk (fun k e => by rcases e with e | e <;> subst e; exact ⟨te, .inr (.inl rfl)⟩; exact ⟨tl, .inr (.inr (.inl rfl))⟩)
          clear hk
          refine ⟨.tuple #[], rfl, ?_⟩
          try simp only [pS]
          refine WL.nil ?_
          try simp only [pS]
          go_wp2
          rw [HC.out]
          refine bodyPost_end (v := .tuple #[]) (by kernel_rfl) rfl ⟨rfl, HF.out.kept⟩

end Go.Proofs.Ytpabpeppgpeaoaa.Md
