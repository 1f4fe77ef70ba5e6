import Derived.Test.YtpabpeppgpeaoaaRd
namespace Go.Proofs.Ytpabpeppgpeaoaa.Md
open Go.RowKit
set_option linter.unusedVariables false
set_option linter.unusedSimpArgs false

section
variable {ops : Array Oper} {rest : List Oper} {o : Oper} {a : Act} {w : World} {Q : Exit → Act → World → Prop} {md : Region.Mode} {S : World → Prop}
end
theorem RfB.no {w w' : World} {J : Nat → Prop} {r : Nat} {x : Rs} {g : Sl} {ba bc bh bm : Nat} (h : RfB w J r x g ba bc bh bm) (hk : Kept No w w') : RfB w' J r x g ba bc bh bm :=
  ⟨⟨Kept.refl _ _, fun i g T cs hi => (h.fq.box i g T cs hi).kept hk (fun e => e), fun i g T cs hi => .inr ((h.fq.low i g T cs hi).elim (fun e => absurd (h.fq.box i g T cs hi).lt (by omega)) id), h.fq.inj⟩, h.gr.no hk, h.gj, h.la, h.lc, h.lh, h.lm, h.hn⟩
def mgL (l : List Mg) : List Value := (l.map Mg.cs).flatten
theorem mgL_app (a b : List Mg) : mgL (a ++ b) = mgL a ++ mgL b := by simp [mgL]
theorem mgL_1 (a : Mg) : mgL [a] = a.cs := by simp [mgL]
/-- Messages told: new memory. -/
structure OwM (w : World) (base : Nat) (s : Sl) (l : List Mg) : Prop where
  own : Own 47 30 w base s.a s.k s.l (mgL l)
  len : l.length = s.l
theorem OwM.kept {S : Nat → Prop} {w w' : World} {base : Nat} {s : Sl} {es : List Mg} (h : OwM w base s es) (hk : Kept S w w') (hS : ∀ k, At s.a k → ¬ S k) : OwM w' base s es := ⟨h.own.kept hk hS, h.len⟩
theorem OwM.no {w w' : World} {base : Nat} {s : Sl} {es : List Mg} (h : OwM w base s es) (hk : Kept No w w') : OwM w' base s es := h.kept hk (fun _ _ e => e)
theorem OwM.nil (w : World) (base : Nat) : OwM w base slZ [] := ⟨Own.nil _ _ _ _, rfl⟩
def sndK (x : Rs) : Nat → List Mg
  | 0 => []
  | i + 1 => sndK x i ++ (if x.qa[i]?.getD false then [] else [msgR x (x.zs[i]?.getD 0)])
def sendR (x : Rs) : List Mg := sndK x x.zs.length
theorem sndK_len (x : Rs) : ∀ i, (sndK x i).length ≤ i
  | 0 => Nat.le_refl _
  | i + 1 => by
    have := sndK_len x i
    unfold sndK
    rw [List.length_append]
    split <;> simp <;> omega
def SendOut (w : World) (l : List Mg) (e : Ending) (w' : World) : Prop := ∃ s : Sl, e = .returned s.v ∧ OwM w' w.heap.size s l ∧ Kept No w w'
set_option maxRecDepth 100000 in
set_option maxHeartbeats 4000000 in
theorem rSend_any (J : Nat → Prop) (r : Nat) (x : Rs) (g : Sl) (ba bc bh bm : Nat) (w : World) (hB : RfB w J r x g ba bc bh bm) : Calls Try.prog 61 #[.pointer (some ⟨r, 0, none⟩)] w (SendOut w (sendR x)) := by
  refine hideC fun C HC => ?_
  have HBr : Hid (Box w r 56 (rvOf x g ba bc bh bm).cells) := hB.fq.box 0 _ _ _ rfl
  have HBa : Hid (Box w ba 4 (boL x.qa).toArray) := hB.fq.box 1 _ _ _ rfl
  have HBc : Hid (Box w bc 4 (boL x.qc).toArray) := hB.fq.box 2 _ _ _ rfl
  have HBh : Hid (Box w bh 39 (spL x.qh).toArray) := hB.fq.box 3 _ _ _ rfl
  have HBm : Hid (Box w bm 28 (cmL x.qm).toArray) := hB.fq.box 4 _ _ _ rfl
  have HG : Hid (OwI w 0 g x.zs) := hB.gr
  have hzl := hB.gr.len
  have hla := hB.la
  have hlc := hB.lc
  have hlh := hB.lh
  have hlm := hB.lm
  have hnn := hB.hn
  have HF : Hid (Fq No w w []) := Fq.start _ _
  have HB : Hid (RfB w J r x g ba bc bh bm) := hB
  clear hB
  go_enter Try.func61, Try.ntmps61
  go_upto_region 0 with fail
  refine WL.start <| uK (.slice none 0 0) <| WL.nil <| ?_
  try simp only [pS]
  go_upto_region 1 with fail
  refine WL.start <| uK (.slice none 0 0) <| WL.nil <| ?_
  try simp only [pS]
  go_upto_region 2 with fail
  refine WL.start <| uK (.int .i64 0) <| WL.nil <| ?_
  try simp only [pS]
  go_wp2
  go_loopw [3, 4] (fun v3 v4 wr => ∃ (i : Nat) (sa : Option Addr) (sn sc : Nat), v3 = .slice sa sn sc ∧ v4 = .int .i64 ((i : Nat) : Int) ∧ i ≤ g.l ∧ sn ≤ i ∧ Hid (OwM wr w.heap.size ⟨sa, sn, sc⟩ (sndK x i)) ∧ Hid (Fq No w wr [])) (fun _ i _ => g.l - (intOf i).toNat)
  case atStart => exact ⟨0, none, 0, 0, rfl, by go_num, by omega, by omega, OwM.nil _ _, HF⟩
  case round =>
    clear HF
    obtain ⟨i, sa, sn, sc, rfl, rfl, hi, hsn, HO, HF⟩ := hrel
    by_cases hlt : i < g.l
    · skip
      obtain ⟨bb, hbb⟩ := at_b hla hlt
      obtain ⟨gb, hga, hgc⟩ := HG.out.at hlt
      have hsl : g.v = .slice (some ⟨gb, 0, none⟩) g.l g.k := by unfold Sl.v; rw [hga]
      obtain ⟨z, hz⟩ : ∃ z, z = x.zs[i]?.getD 0 := ⟨_, rfl⟩
      rw [← hz] at hgc
      have HGc : Hid (w.cell? ⟨gb, 0 + i * 1, none⟩ = some (.int .i64 z)) := hgc
      have HZ : Hid (z = x.zs[i]?.getD 0) := hz
      clear hgc hz
      cases bb
      ·skip
       have HNf : Hid (sndK x (i + 1) = sndK x i ++ [msgR x z]) := by show sndK x i ++ _ = _; rw [HZ.out, hbb]; rfl
       go_upto_region 3 with fail
       refine WL.start <| uK (.int .i64 ((i : Nat) : Int)) <| uK (pV r 0) <| uK (pV r 0) <| uK (pV r 6) <| uL 24 ⟨r, 6, none⟩ (g.v) (load_one ((HBr.out.kept HF.out.kept (fun e => e)).cell 6 |>.trans (by kernel_rfl)) U24 rfl) <| uK (.int .i64 ((g.l : Nat) : Int)) <| uB .lss 3 (.int .i64 ((i : Nat) : Int)) (.int .i64 ((g.l : Nat) : Int)) (.bool true) (by rw [b_lss, decide_eq_true (by omega)]) <| WL.nil <| ?_
       try simp only [pS]
       go_upto_region 5 with fail
       refine WL.start <| uK (pV r 0) <| uK (pV r 0) <| uK (pV r 29) <| uL 53 ⟨r, 29, none⟩ (.slice (some ⟨ba, 0, none⟩) g.l g.l) (load_one ((HBr.out.kept HF.out.kept (fun e => e)).cell 29 |>.trans (by kernel_rfl)) U53 rfl) <| uK (.int .i64 ((i : Nat) : Int)) <| uW (pV ba (0 + i * 1)) (exec_ixA 53 1 E53 F53 _ _ rfl ba 0 g.l g.l i (by kernel_rfl) (by kernel_rfl) (by omega)) <| uL 4 ⟨ba, 0 + i * 1, none⟩ (.bool false) (ld_bo (HBa.out.kept HF.out.kept (fun e => e)) (by rw [hbb])) <| ?_
       try simp only [pS]
       refine uK (.bool true) <| WL.nil <| ?_
       try simp only [pS]
       go_upto_region 6 with fail
       refine WL.start <| uK (.slice sa sn sc) <| uK (pV r 0) <| uK (pV r 0) <| uK (pV r 0) <| uK (pV r 6) <| uL 24 ⟨r, 6, none⟩ (g.v) (load_one ((HBr.out.kept HF.out.kept (fun e => e)).cell 6 |>.trans (by kernel_rfl)) U24 rfl) <| uK (.int .i64 ((i : Nat) : Int)) <| ?_
       try simp only [pS]
       refine uW (pV gb (0 + i * 1)) (exec_ixA 24 1 E24 F24 _ _ rfl gb 0 g.l g.k i (Eq.trans (b := g.v) (by kernel_rfl) hsl) (by kernel_rfl) (by omega)) <| uL 3 ⟨gb, 0 + i * 1, none⟩ (.int .i64 z) (load_one (HF.out.kept.cell HGc.out (fun e => e)) U3 rfl) <| ?_
       try simp only [pS]
       refine uC 85 #[pV r 0, .int .i64 z] (rMessage_any J r x g ba bc bh bm z _ (HB.out.no HF.out.kept)) ?_
       rintro e wk1 ⟨rfl, hk⟩
       have HO : Hid (OwM (wk1) w.heap.size ⟨sa, sn, sc⟩ (sndK x i)) := HO.out.no hk
       have HF : Hid (Fq No w (wk1) []) := HF.out.no hk
       clear hk
       refine ⟨.agg (Mg.cells (msgR x z)), rfl, ?_⟩
       try simp only [pS]
       refine uR (.slice (some ⟨wk1.heap.size, 0, none⟩) 1 1) (wk1.alloc (.cells (Mg.cells (msgR x z)) 47)) (exec_slice2 66 47 _ rfl (Mg.cells (msgR x z)) (.agg (Mg.cells (msgR x z))) (by kernel_rfl) (by kernel_rfl)) ?_
       try simp only [pS]
       have HO : Hid (OwM (wk1.alloc (.cells (Mg.cells (msgR x z)) 47)) w.heap.size ⟨sa, sn, sc⟩ (sndK x i)) := HO.out.no ((Kept.refl No _).alloc _)
       have HF : Hid (Fq No w (wk1.alloc (.cells (Mg.cells (msgR x z)) 47)) [(wk1.heap.size, 47, Mg.cells (msgR x z))]) := HF.out.alloc _ _
       generalize wk1.alloc (.cells (Mg.cells (msgR x z)) 47) = wk3 at HF HO ⊢
       generalize wk1.heap.size = gk2 at HF ⊢
       obtain ⟨sa2, cap2, w2, hrun, hown, hk2, hat2⟩ := run_appN (w := wk3) 66 66 47 30 312 (.agg mgZ.cells) U66 I47 rfl (by omega) w.heap.size sn sc sa (mgL (sndK x i)) HO.out.own (some ⟨gk2, 0, none⟩) 1 1 (Mg.cs (msgR x z)) rfl (fun e => by cases e) (fun j u hj => ⟨_, rfl, by rw [addr_add, Nat.zero_add, (HF.out.box 0 _ _ _ rfl).cell]; simpa [Mg.cells] using hj⟩) (Mg.oneL _) (by omega) (by omega) (by have := HF.out.kept.size; omega)
       refine uR (.slice sa2 (sn + 1) cap2) w2 (exec_appN _ _ 66 66 rfl _ _ (by kernel_rfl) (by kernel_rfl) hrun) ?_
       try simp only [pS]
       have HO2 : Hid (OwM w2 w.heap.size ⟨sa2, sn + 1, cap2⟩ (sndK x (i + 1))) := ⟨by rw [HNf.out, mgL_app, mgL_1]; exact hown, by rw [HNf.out]; simpa using HO.out.len⟩
       have HF0 : Hid (Fq No w w2 []) := (show Fq No w wk3 ([] ++ [(gk2, 47, Mg.cells (msgR x z))]) from HF.out).front.app HO.out.own hk2 (by simp)
       clear hown hk2 hat2 hrun
       refine uK (.slice sa2 (sn + 1) cap2) <| WL.nil <| ?_
       try simp only [pS]
       have HF := HF0
       go_upto_region 4 with fail
       refine WL.start <| uK (.int .i64 ((i : Nat) : Int)) <| uB .add 3 (.int .i64 ((i : Nat) : Int)) (.int .i64 1) (.int .i64 (((i + 1) : Nat) : Int)) (b_addw _ _ _ (by rw [IntKind.wrap_i64]; omega) _) <| uK (.int .i64 (((i + 1) : Nat) : Int)) <| WL.nil <| ?_
       try simp only [pS]
       go_wp2
       go_roundw
       case rel => exact ⟨i + 1, sa2, sn + 1, cap2, rfl, by go_num, by omega, by omega, HO2, HF0⟩
       case measure => simp [intOf]; omega
      ·skip
       have HO2 : Hid (OwM wr w.heap.size ⟨sa, sn, sc⟩ (sndK x (i + 1))) := by unfold sndK; rw [hbb]; simpa using HO
       go_upto_region 3 with fail
       refine WL.start <| uK (.int .i64 ((i : Nat) : Int)) <| uK (pV r 0) <| uK (pV r 0) <| uK (pV r 6) <| uL 24 ⟨r, 6, none⟩ (g.v) (load_one ((HBr.out.kept HF.out.kept (fun e => e)).cell 6 |>.trans (by kernel_rfl)) U24 rfl) <| uK (.int .i64 ((g.l : Nat) : Int)) <| uB .lss 3 (.int .i64 ((i : Nat) : Int)) (.int .i64 ((g.l : Nat) : Int)) (.bool true) (by rw [b_lss, decide_eq_true (by omega)]) <| WL.nil <| ?_
       try simp only [pS]
       go_upto_region 5 with fail
       refine WL.start <| uK (pV r 0) <| uK (pV r 0) <| uK (pV r 29) <| uL 53 ⟨r, 29, none⟩ (.slice (some ⟨ba, 0, none⟩) g.l g.l) (load_one ((HBr.out.kept HF.out.kept (fun e => e)).cell 29 |>.trans (by kernel_rfl)) U53 rfl) <| uK (.int .i64 ((i : Nat) : Int)) <| uW (pV ba (0 + i * 1)) (exec_ixA 53 1 E53 F53 _ _ rfl ba 0 g.l g.l i (by kernel_rfl) (by kernel_rfl) (by omega)) <| uL 4 ⟨ba, 0 + i * 1, none⟩ (.bool true) (ld_bo (HBa.out.kept HF.out.kept (fun e => e)) (by rw [hbb])) <| ?_
       try simp only [pS]
       refine uK (.bool false) <| WL.nil <| ?_
       try simp only [pS]
       go_upto_region 4 with fail
       refine WL.start <| uK (.int .i64 ((i : Nat) : Int)) <| uB .add 3 (.int .i64 ((i : Nat) : Int)) (.int .i64 1) (.int .i64 (((i + 1) : Nat) : Int)) (b_addw _ _ _ (by rw [IntKind.wrap_i64]; omega) _) <| uK (.int .i64 (((i + 1) : Nat) : Int)) <| WL.nil <| ?_
       try simp only [pS]
       go_wp2
       go_roundw
       case rel => exact ⟨i + 1, sa, sn, sc, rfl, by go_num, by omega, by omega, HO2, HF⟩
       case measure => simp [intOf]; omega
    · skip
      go_upto_region 3 with fail
      refine WL.start <| uK (.int .i64 ((i : Nat) : Int)) <| uK (pV r 0) <| uK (pV r 0) <| uK (pV r 6) <| uL 24 ⟨r, 6, none⟩ (g.v) (load_one ((HBr.out.kept HF.out.kept (fun e => e)).cell 6 |>.trans (by kernel_rfl)) U24 rfl) <| uK (.int .i64 ((g.l : Nat) : Int)) <| uB .lss 3 (.int .i64 ((i : Nat) : Int)) (.int .i64 ((g.l : Nat) : Int)) (.bool false) (by rw [b_lss, decide_eq_false (by omega)]) <| WL.nil <| ?_
      try simp only [pS]
      go_upto_region 7 with fail
      refine WL.start <| uK (.slice sa sn sc) <| uK (.slice sa sn sc) <| WL.nil <| ?_
      try simp only [pS]
      go_wp2
      rw [HC.out]
      exact ⟨⟨sa, sn, sc⟩, rfl, by unfold sendR; rw [hzl, show g.l = i by omega]; exact HO.out, HF.out.kept⟩
def plcR : List Int → Int → Nat → Int
  | [], _, _ => -1
  | z :: l, v, i => if z = v then (i : Int) else plcR l v (i + 1)
def ansR (x : Rs) (m : Mg) : Bool := (x.ph == 1 || x.ph == 2) && !m.fr.cl && m.too.cl && (m.too.id == x.cl) && (m.op == x.op) && (m.rd == x.rd) && eqK m.ky x.ky
def placeR (x : Rs) (m : Mg) : Int := if ansR x m then plcR x.zs m.fr.id 0 else -1
theorem plc_found : ∀ (l : List Int) (v : Int) (i k : Nat), (∀ j, j < i → l[j]?.getD 0 ≠ v) → i < l.length → l[i]?.getD 0 = v → plcR l v k = ((k + i : Nat) : Int)
  | [], v, i, k, _, h, _ => by simp at h
  | z :: l, v, 0, k, _, _, h => by
    have h : z = v := h
    unfold plcR
    rw [if_pos h]; rfl
  | z :: l, v, i + 1, k, hj, hi, h => by
    have h0 : z ≠ v := hj 0 (by omega)
    unfold plcR
    rw [if_neg h0, plc_found l v i (k + 1) (fun j hj' => hj (j + 1) (by omega)) (by simpa using hi) h]
    congr 1
    omega
theorem plc_none : ∀ (l : List Int) (v : Int) (k : Nat), (∀ j, j < l.length → l[j]?.getD 0 ≠ v) → plcR l v k = -1
  | [], v, k, _ => rfl
  | z :: l, v, k, hj => by
    have h0 : z ≠ v := hj 0 (by simp)
    unfold plcR
    rw [if_neg h0]
    exact plc_none l v (k + 1) (fun j hj' => hj (j + 1) (by simpa using hj'))
set_option maxRecDepth 100000 in
set_option maxHeartbeats 4000000 in
theorem rPlace_any (J : Nat → Prop) (r : Nat) (x : Rs) (g : Sl) (ba bc bh bm : Nat) (m : Mg) (w : World) (hB : RfB w J r x g ba bc bh bm) : Calls Try.prog 63 #[.pointer (some ⟨r, 0, none⟩), .agg (Mg.cells m)] w (fun e w' => e = .returned (.int .i64 (placeR x m)) ∧ Kept No w w') := by
  refine hideC fun C HC => ?_
  have HBr : Hid (Box w r 56 (rvOf x g ba bc bh bm).cells) := hB.fq.box 0 _ _ _ rfl
  have HBa : Hid (Box w ba 4 (boL x.qa).toArray) := hB.fq.box 1 _ _ _ rfl
  have HBc : Hid (Box w bc 4 (boL x.qc).toArray) := hB.fq.box 2 _ _ _ rfl
  have HBh : Hid (Box w bh 39 (spL x.qh).toArray) := hB.fq.box 3 _ _ _ rfl
  have HBm : Hid (Box w bm 28 (cmL x.qm).toArray) := hB.fq.box 4 _ _ _ rfl
  have HG : Hid (OwI w 0 g x.zs) := hB.gr
  have hzl := hB.gr.len
  have hla := hB.la
  have hlc := hB.lc
  have hlh := hB.lh
  have hlm := hB.lm
  have hnn := hB.hn
  have HF : Hid (Fq No w w []) := Fq.start _ _
  have HB : Hid (RfB w J r x g ba bc bh bm) := hB
  clear hB
  go_enter Try.func63, Try.ntmps63
  go_upto_region 0 with fail
  refine WL.start ?_
  refine uR (pV w.heap.size 0) (w.alloc (.cells (Mg.cells m) 47)) (exec_box 47 _ rfl (Mg.cells m) (by kernel_rfl)) ?_
  try simp only [pS]
  have HF : Hid (Fq No w (w.alloc (.cells (Mg.cells m) 47)) [(w.heap.size, 47, Mg.cells m)]) := HF.out.alloc _ _
  generalize w.alloc (.cells (Mg.cells m) 47) = wk2 at HF ⊢
  generalize w.heap.size = gk1 at HF ⊢
  refine uK (.int .i64 0) <| WL.nil <| ?_
  try simp only [pS]
  go_upto_region 1 with fail
  refine wp_region_held_drew (S := fun w' => Fq No w w' [(gk1, 47, Mg.cells m)]) rfl (HF.out.drew) (fun hH => ?_)
  have HF : Hid (Fq No w (wk2.drew) [(gk1, 47, Mg.cells m)]) := HF.out.drew
  generalize wk2.drew = wk3 at HF hH ⊢
  refine xV 0 6 (pV r 0) hH <| xV 1 7 (pV r 0) hH <| xV 2 8 (pV r 28) hH <| xL 3 9 3 ⟨r, 28, none⟩ (.int .i64 x.ph) (fun _ hw => load_one ((HBr.out.kept hw.kept (fun e => e)).cell 28 |>.trans (by kernel_rfl)) U3 rfl) hH <| ?_
  try simp only [pS]
  cases q1 : (x.ph == 1)
  ·skip
   refine xB 4 10 .neq 3 (.int .i64 x.ph) (.int .i64 1) (.bool true) (fun _ _ => by rw [b_neq, q1]; try rfl) hH <| xV 5 11 (.bool true) hH <| xV 6 12 (pV r 0) hH <| xV 7 13 (pV r 0) hH <| xV 8 14 (pV r 28) hH <| xL 9 15 3 ⟨r, 28, none⟩ (.int .i64 x.ph) (fun _ hw => load_one ((HBr.out.kept hw.kept (fun e => e)).cell 28 |>.trans (by kernel_rfl)) U3 rfl) hH <| ?_
   try simp only [pS]
   cases q2 : (x.ph == 2)
   ·skip
    refine xB 10 16 .neq 3 (.int .i64 x.ph) (.int .i64 2) (.bool true) (fun _ _ => by rw [b_neq, q2]; try rfl) hH <| xV 11 17 (.bool true) hH <| xV 12 18 (.bool true) hH <| xZ 13 19 hH <| xZ 14 20 hH <| xZ 15 21 hH <| ?_
    try simp only [pS]
    refine xV 16 22 (.bool true) hH <| xV 17 23 (.bool true) hH <| xZ 18 24 hH <| xZ 19 25 hH <| xZ 20 26 hH <| xZ 21 27 hH <| ?_
    try simp only [pS]
    refine xV 22 28 (.bool true) hH <| xV 23 29 (.bool true) hH <| xZ 24 30 hH <| xZ 25 31 hH <| xZ 26 32 hH <| xZ 27 33 hH <| ?_
    try simp only [pS]
    refine xZ 28 34 hH <| xZ 29 35 hH <| xZ 30 36 hH <| xZ 31 37 hH <| xV 32 38 (.bool true) hH <| xV 33 39 (.bool true) hH <| ?_
    try simp only [pS]
    refine xZ 34 40 hH <| xZ 35 41 hH <| xZ 36 42 hH <| xZ 37 43 hH <| xZ 38 44 hH <| xZ 39 45 hH <| ?_
    try simp only [pS]
    refine xZ 40 46 hH <| xV 41 47 (.bool true) hH <| xV 42 48 (.bool true) hH <| xZ 43 49 hH <| xZ 44 50 hH <| xZ 45 51 hH <| ?_
    try simp only [pS]
    refine xZ 46 52 hH <| xZ 47 53 hH <| xZ 48 54 hH <| xZ 49 55 hH <| xV 50 56 (.bool true) hH <| xV 51 57 (.bool true) hH <| ?_
    try simp only [pS]
    refine xZ 52 58 hH <| xZ 53 59 hH <| xZ 54 60 hH <| xZ 55 61 hH <| xZ 56 62 hH <| xZ 57 63 hH <| ?_
    try simp only [pS]
    refine xZ 58 64 hH <| xV 59 65 (.bool true) hH <| ?_
    try simp only [pS]
    refine wpAnyH_done (by kernel_rfl) ?_ _
    try simp only [pS]
    clear hH
    go_upto_region 2 with fail
    refine WL.start <| uK (.int .i64 (-1)) <| WL.nil <| ?_
    try simp only [pS]
    go_wp2
    rw [HC.out]
    exact ⟨ret_i' (by unfold placeR; rw [if_neg (by simp [ansR, q1, q2])]), HF.out.kept⟩
   ·skip
    refine xB 10 16 .neq 3 (.int .i64 x.ph) (.int .i64 2) (.bool false) (fun _ _ => by rw [b_neq, q2]; try rfl) hH <| xV 11 17 (.bool false) hH <| xV 12 18 (.bool false) hH <| xV 13 19 (pV gk1 1) hH <| xV 14 20 (pV gk1 1) hH <| xL 15 21 4 ⟨gk1, 1, none⟩ (.bool m.fr.cl) (fun _ hw => load_one ((hw.box 0 _ _ _ rfl).cell 1 |>.trans (by kernel_rfl)) U4 rfl) hH <| ?_
    try simp only [pS]
    refine xV 16 22 (.bool m.fr.cl) hH <| xV 17 23 (.bool m.fr.cl) hH <| ?_
    try simp only [pS]
    cases q3 : (m.fr.cl)
    ·skip
     try simp only [q3]
     refine xV 18 24 (pV gk1 3) hH <| xV 19 25 (pV gk1 3) hH <| xL 20 26 4 ⟨gk1, 3, none⟩ (.bool m.too.cl) (fun _ hw => load_one ((hw.box 0 _ _ _ rfl).cell 3 |>.trans (by kernel_rfl)) U4 rfl) hH <| ?_
     try simp only [pS]
     cases q4 : (m.too.cl)
     ·skip
      try simp only [q4]
      refine xV 21 27 (.bool true) hH <| xV 22 28 (.bool true) hH <| xV 23 29 (.bool true) hH <| xZ 24 30 hH <| xZ 25 31 hH <| xZ 26 32 hH <| ?_
      try simp only [pS]
      refine xZ 27 33 hH <| xZ 28 34 hH <| xZ 29 35 hH <| xZ 30 36 hH <| xZ 31 37 hH <| xV 32 38 (.bool true) hH <| ?_
      try simp only [pS]
      refine xV 33 39 (.bool true) hH <| xZ 34 40 hH <| xZ 35 41 hH <| xZ 36 42 hH <| xZ 37 43 hH <| xZ 38 44 hH <| ?_
      try simp only [pS]
      refine xZ 39 45 hH <| xZ 40 46 hH <| xV 41 47 (.bool true) hH <| xV 42 48 (.bool true) hH <| xZ 43 49 hH <| xZ 44 50 hH <| ?_
      try simp only [pS]
      refine xZ 45 51 hH <| xZ 46 52 hH <| xZ 47 53 hH <| xZ 48 54 hH <| xZ 49 55 hH <| xV 50 56 (.bool true) hH <| ?_
      try simp only [pS]
      refine xV 51 57 (.bool true) hH <| xZ 52 58 hH <| xZ 53 59 hH <| xZ 54 60 hH <| xZ 55 61 hH <| xZ 56 62 hH <| ?_
      try simp only [pS]
      refine xZ 57 63 hH <| xZ 58 64 hH <| xV 59 65 (.bool true) hH <| ?_
      try simp only [pS]
      refine wpAnyH_done (by kernel_rfl) ?_ _
      try simp only [pS]
      clear hH
      go_upto_region 2 with fail
      refine WL.start <| uK (.int .i64 (-1)) <| WL.nil <| ?_
      try simp only [pS]
      go_wp2
      rw [HC.out]
      exact ⟨ret_i' (by unfold placeR; rw [if_neg (by simp [ansR, q1, q2, q3, q4])]), HF.out.kept⟩
     ·skip
      try simp only [q4]
      refine xV 21 27 (.bool false) hH <| xV 22 28 (.bool false) hH <| xV 23 29 (.bool false) hH <| xV 24 30 (pV gk1 3) hH <| xV 25 31 (pV gk1 4) hH <| xL 26 32 3 ⟨gk1, 4, none⟩ (.int .i64 m.too.id) (fun _ hw => load_one ((hw.box 0 _ _ _ rfl).cell 4 |>.trans (by kernel_rfl)) U3 rfl) hH <| ?_
      try simp only [pS]
      refine xV 27 33 (pV r 0) hH <| xV 28 34 (pV r 0) hH <| xV 29 35 (pV r 0) hH <| xL 30 36 3 ⟨r, 0, none⟩ (.int .i64 x.cl) (fun _ hw => load_one ((HBr.out.kept hw.kept (fun e => e)).cell 0 |>.trans (by kernel_rfl)) U3 rfl) hH <| ?_
      try simp only [pS]
      cases q5 : (m.too.id == x.cl)
      ·skip
       refine xB 31 37 .neq 3 (.int .i64 m.too.id) (.int .i64 x.cl) (.bool true) (fun _ _ => by rw [b_neq, q5]; try rfl) hH <| xV 32 38 (.bool true) hH <| xV 33 39 (.bool true) hH <| xZ 34 40 hH <| xZ 35 41 hH <| xZ 36 42 hH <| ?_
       try simp only [pS]
       refine xZ 37 43 hH <| xZ 38 44 hH <| xZ 39 45 hH <| xZ 40 46 hH <| xV 41 47 (.bool true) hH <| xV 42 48 (.bool true) hH <| ?_
       try simp only [pS]
       refine xZ 43 49 hH <| xZ 44 50 hH <| xZ 45 51 hH <| xZ 46 52 hH <| xZ 47 53 hH <| xZ 48 54 hH <| ?_
       try simp only [pS]
       refine xZ 49 55 hH <| xV 50 56 (.bool true) hH <| xV 51 57 (.bool true) hH <| xZ 52 58 hH <| xZ 53 59 hH <| xZ 54 60 hH <| ?_
       try simp only [pS]
       refine xZ 55 61 hH <| xZ 56 62 hH <| xZ 57 63 hH <| xZ 58 64 hH <| xV 59 65 (.bool true) hH <| ?_
       try simp only [pS]
       refine wpAnyH_done (by kernel_rfl) ?_ _
       try simp only [pS]
       clear hH
       go_upto_region 2 with fail
       refine WL.start <| uK (.int .i64 (-1)) <| WL.nil <| ?_
       try simp only [pS]
       go_wp2
       rw [HC.out]
       exact ⟨ret_i' (by unfold placeR; rw [if_neg (by simp [ansR, q1, q2, q3, q4, q5])]), HF.out.kept⟩
      ·skip
       refine xB 31 37 .neq 3 (.int .i64 m.too.id) (.int .i64 x.cl) (.bool false) (fun _ _ => by rw [b_neq, q5]; try rfl) hH <| xV 32 38 (.bool false) hH <| xV 33 39 (.bool false) hH <| xV 34 40 (pV gk1 5) hH <| xL 35 41 3 ⟨gk1, 5, none⟩ (.int .i64 m.op) (fun _ hw => load_one ((hw.box 0 _ _ _ rfl).cell 5 |>.trans (by kernel_rfl)) U3 rfl) hH <| xV 36 42 (pV r 0) hH <| ?_
       try simp only [pS]
       refine xV 37 43 (pV r 0) hH <| xV 38 44 (pV r 1) hH <| xL 39 45 3 ⟨r, 1, none⟩ (.int .i64 x.op) (fun _ hw => load_one ((HBr.out.kept hw.kept (fun e => e)).cell 1 |>.trans (by kernel_rfl)) U3 rfl) hH <| ?_
       try simp only [pS]
       cases q6 : (m.op == x.op)
       ·skip
        refine xB 40 46 .neq 3 (.int .i64 m.op) (.int .i64 x.op) (.bool true) (fun _ _ => by rw [b_neq, q6]; try rfl) hH <| xV 41 47 (.bool true) hH <| xV 42 48 (.bool true) hH <| xZ 43 49 hH <| xZ 44 50 hH <| xZ 45 51 hH <| ?_
        try simp only [pS]
        refine xZ 46 52 hH <| xZ 47 53 hH <| xZ 48 54 hH <| xZ 49 55 hH <| xV 50 56 (.bool true) hH <| xV 51 57 (.bool true) hH <| ?_
        try simp only [pS]
        refine xZ 52 58 hH <| xZ 53 59 hH <| xZ 54 60 hH <| xZ 55 61 hH <| xZ 56 62 hH <| xZ 57 63 hH <| ?_
        try simp only [pS]
        refine xZ 58 64 hH <| xV 59 65 (.bool true) hH <| ?_
        try simp only [pS]
        refine wpAnyH_done (by kernel_rfl) ?_ _
        try simp only [pS]
        clear hH
        go_upto_region 2 with fail
        refine WL.start <| uK (.int .i64 (-1)) <| WL.nil <| ?_
        try simp only [pS]
        go_wp2
        rw [HC.out]
        exact ⟨ret_i' (by unfold placeR; rw [if_neg (by simp [ansR, q1, q2, q3, q4, q5, q6])]), HF.out.kept⟩
       ·skip
        refine xB 40 46 .neq 3 (.int .i64 m.op) (.int .i64 x.op) (.bool false) (fun _ _ => by rw [b_neq, q6]; try rfl) hH <| xV 41 47 (.bool false) hH <| xV 42 48 (.bool false) hH <| xV 43 49 (pV gk1 6) hH <| xL 44 50 3 ⟨gk1, 6, none⟩ (.int .i64 m.rd) (fun _ hw => load_one ((hw.box 0 _ _ _ rfl).cell 6 |>.trans (by kernel_rfl)) U3 rfl) hH <| xV 45 51 (pV r 0) hH <| ?_
        try simp only [pS]
        refine xV 46 52 (pV r 0) hH <| xV 47 53 (pV r 26) hH <| xL 48 54 3 ⟨r, 26, none⟩ (.int .i64 x.rd) (fun _ hw => load_one ((HBr.out.kept hw.kept (fun e => e)).cell 26 |>.trans (by kernel_rfl)) U3 rfl) hH <| ?_
        try simp only [pS]
        cases q7 : (m.rd == x.rd)
        ·skip
         refine xB 49 55 .neq 3 (.int .i64 m.rd) (.int .i64 x.rd) (.bool true) (fun _ _ => by rw [b_neq, q7]; try rfl) hH <| xV 50 56 (.bool true) hH <| xV 51 57 (.bool true) hH <| xZ 52 58 hH <| xZ 53 59 hH <| xZ 54 60 hH <| ?_
         try simp only [pS]
         refine xZ 55 61 hH <| xZ 56 62 hH <| xZ 57 63 hH <| xZ 58 64 hH <| xV 59 65 (.bool true) hH <| ?_
         try simp only [pS]
         refine wpAnyH_done (by kernel_rfl) ?_ _
         try simp only [pS]
         clear hH
         go_upto_region 2 with fail
         refine WL.start <| uK (.int .i64 (-1)) <| WL.nil <| ?_
         try simp only [pS]
         go_wp2
         rw [HC.out]
         exact ⟨ret_i' (by unfold placeR; rw [if_neg (by simp [ansR, q1, q2, q3, q4, q5, q6, q7])]), HF.out.kept⟩
        ·skip
         refine xB 49 55 .neq 3 (.int .i64 m.rd) (.int .i64 x.rd) (.bool false) (fun _ _ => by rw [b_neq, q7]; try rfl) hH <| xV 50 56 (.bool false) hH <| xV 51 57 (.bool false) hH <| xV 52 58 (pV gk1 7) hH <| xL 53 59 23 ⟨gk1, 7, none⟩ (.agg (Ky.cells m.ky)) (fun _ hw => run_load_part (cs := Mg.cs m) (sub := Ky.cs m.ky) (hw.box 0 _ _ _ rfl) (part_of (by kernel_rfl)) U23 rfl S23) hH <| xV 54 60 (pV r 0) hH <| ?_
         try simp only [pS]
         refine xV 55 61 (pV r 0) hH <| xV 56 62 (pV r 2) hH <| xL 57 63 23 ⟨r, 2, none⟩ (.agg (Ky.cells x.ky)) (fun _ hw => run_load_part (cs := Rv.cs (rvOf x g ba bc bh bm)) (sub := Ky.cs x.ky) (HBr.out.kept hw.kept (fun e => e)) (part_of (by kernel_rfl)) U23 rfl S23) hH <| ?_
         try simp only [pS]
         cases q8 : (eqK m.ky x.ky)
         ·skip
          refine xB 58 64 .neq 23 (.agg (Ky.cells m.ky)) (.agg (Ky.cells x.ky)) (.bool true) (fun _ _ => by rw [eqK_neq, q8]; try rfl) hH <| xV 59 65 (.bool true) hH <| ?_
          try simp only [pS]
          refine wpAnyH_done (by kernel_rfl) ?_ _
          try simp only [pS]
          clear hH
          go_upto_region 2 with fail
          refine WL.start <| uK (.int .i64 (-1)) <| WL.nil <| ?_
          try simp only [pS]
          go_wp2
          rw [HC.out]
          exact ⟨ret_i' (by unfold placeR; rw [if_neg (by simp [ansR, q1, q2, q3, q4, q5, q6, q7, q8])]), HF.out.kept⟩
         ·skip
          refine xB 58 64 .neq 23 (.agg (Ky.cells m.ky)) (.agg (Ky.cells x.ky)) (.bool false) (fun _ _ => by rw [eqK_neq, q8]; try rfl) hH <| xV 59 65 (.bool false) hH <| ?_
          try simp only [pS]
          refine wpAnyH_done (by kernel_rfl) ?_ _
          try simp only [pS]
          clear hH
          go_upto_region 3 with fail
          refine WL.start <| uK (.int .i64 0) <| WL.nil <| ?_
          try simp only [pS]
          have HA : Hid (ansR x m = true) := by show ansR x m = true; simp [ansR, q1, q2, q3, q4, q5, q6, q7, q8]
          clear q1 q2 q3 q4 q5 q6 q7 q8
          go_wp2
          go_loopw [5] (fun v5 wr => ∃ (i : Nat), v5 = .int .i64 ((i : Nat) : Int) ∧ i ≤ g.l ∧ Hid (∀ j, j < i → x.zs[j]?.getD 0 ≠ m.fr.id) ∧ Hid (Fq No w wr [(gk1, 47, Mg.cells m)])) (fun i _ => g.l - (intOf i).toNat)
          case atStart => exact ⟨0, by go_num, by omega, show ∀ j, j < 0 → x.zs[j]?.getD 0 ≠ m.fr.id from fun j hj => absurd hj (Nat.not_lt_zero _), HF⟩
          case round =>
            clear HF
            obtain ⟨i, rfl, hi, HP, HF⟩ := hrel
            by_cases hlt : i < g.l
            · skip
              obtain ⟨gb, hga, hgc⟩ := HG.out.at hlt
              have hsl : g.v = .slice (some ⟨gb, 0, none⟩) g.l g.k := by unfold Sl.v; rw [hga]
              obtain ⟨z, hz⟩ : ∃ z, z = x.zs[i]?.getD 0 := ⟨_, rfl⟩
              rw [← hz] at hgc
              have HGc : Hid (w.cell? ⟨gb, 0 + i * 1, none⟩ = some (.int .i64 z)) := hgc
              have HZ : Hid (z = x.zs[i]?.getD 0) := hz
              clear hgc hz
              go_upto_region 4 with fail
              refine WL.start <| uK (.int .i64 ((i : Nat) : Int)) <| uK (pV r 0) <| uK (pV r 0) <| uK (pV r 6) <| uL 24 ⟨r, 6, none⟩ (g.v) (load_one ((HBr.out.kept HF.out.kept (fun e => e)).cell 6 |>.trans (by kernel_rfl)) U24 rfl) <| uK (.int .i64 ((g.l : Nat) : Int)) <| uB .lss 3 (.int .i64 ((i : Nat) : Int)) (.int .i64 ((g.l : Nat) : Int)) (.bool true) (by rw [b_lss, decide_eq_true (by omega)]) <| WL.nil <| ?_
              try simp only [pS]
              go_upto_region 6 with fail
              refine wp_region_held_drew (S := fun w' => Fq No w w' [(gk1, 47, Mg.cells m)]) rfl (HF.out.drew) (fun hH => ?_)
              have HF : Hid (Fq No w (wr.drew) [(gk1, 47, Mg.cells m)]) := HF.out.drew
              generalize wr.drew = wk4 at HF hH ⊢
              refine xV 0 75 (pV r 0) hH <| xV 1 76 (pV r 0) hH <| xV 2 77 (pV r 6) hH <| xL 3 78 24 ⟨r, 6, none⟩ g.v (fun _ hw => load_one ((HBr.out.kept hw.kept (fun e => e)).cell 6 |>.trans (by kernel_rfl)) U24 rfl) hH <| xV 4 79 (.int .i64 ((i : Nat) : Int)) hH <| xU 5 80 (pV gb (0 + i * 1)) (fun w' hw => exec_ixA 24 1 E24 F24 _ _ rfl gb 0 g.l g.k i (Eq.trans (b := g.v) (by kernel_rfl) hsl) (by kernel_rfl) (by omega)) hH <| ?_
              try simp only [pS]
              refine xL 6 81 3 ⟨gb, 0 + i * 1, none⟩ (.int .i64 z) (fun _ hw => load_one (hw.kept.cell HGc.out (fun e => e)) U3 rfl) hH <| xV 7 82 (pV gk1 1) hH <| xV 8 83 (pV gk1 2) hH <| xL 9 84 3 ⟨gk1, 2, none⟩ (.int .i64 m.fr.id) (fun _ hw => load_one ((hw.box 0 _ _ _ rfl).cell 2 |>.trans (by kernel_rfl)) U3 rfl) hH <| ?_
              try simp only [pS]
              cases q9 : (z == m.fr.id)
              ·skip
               refine xB 10 85 .eql 3 (.int .i64 z) (.int .i64 m.fr.id) (.bool false) (fun _ _ => by rw [b_eql, q9]; try rfl) hH ?_
               try simp only [pS]
               refine wpAnyH_done (by kernel_rfl) ?_ _
               try simp only [pS]
               clear hH
               have HP2 : Hid (∀ j, j < i + 1 → x.zs[j]?.getD 0 ≠ m.fr.id) := show ∀ j, j < i + 1 → x.zs[j]?.getD 0 ≠ m.fr.id from fun j hj => by
                 by_cases e : j = i
                 · subst e; rw [← HZ.out]; simpa using q9
                 · exact HP.out j (by omega)
               go_upto_region 5 with fail
               refine WL.start <| uK (.int .i64 ((i : Nat) : Int)) <| uB .add 3 (.int .i64 ((i : Nat) : Int)) (.int .i64 1) (.int .i64 (((i + 1) : Nat) : Int)) (b_addw _ _ _ (by rw [IntKind.wrap_i64]; omega) _) <| uK (.int .i64 (((i + 1) : Nat) : Int)) <| WL.nil <| ?_
               try simp only [pS]
               go_wp2
               go_roundw
               case rel => exact ⟨i + 1, by go_num, by omega, HP2, HF⟩
               case measure => simp [intOf]; omega
              ·skip
               refine xB 10 85 .eql 3 (.int .i64 z) (.int .i64 m.fr.id) (.bool true) (fun _ _ => by rw [b_eql, q9]; try rfl) hH ?_
               try simp only [pS]
               refine wpAnyH_done (by kernel_rfl) ?_ _
               try simp only [pS]
               clear hH
               go_upto_region 7 with fail
               refine WL.start <| uK (.int .i64 ((i : Nat) : Int)) <| uK (.int .i64 ((i : Nat) : Int)) <| WL.nil <| ?_
               try simp only [pS]
               go_wp2
               rw [HC.out]
               exact ⟨ret_i' (by unfold placeR; rw [if_pos HA.out, plc_found x.zs m.fr.id i 0 HP.out (by rw [hzl]; exact hlt) (by rw [← HZ.out]; simpa using q9), Nat.zero_add]), HF.out.kept⟩
            · skip
              go_upto_region 4 with fail
              refine WL.start <| uK (.int .i64 ((i : Nat) : Int)) <| uK (pV r 0) <| uK (pV r 0) <| uK (pV r 6) <| uL 24 ⟨r, 6, none⟩ (g.v) (load_one ((HBr.out.kept HF.out.kept (fun e => e)).cell 6 |>.trans (by kernel_rfl)) U24 rfl) <| uK (.int .i64 ((g.l : Nat) : Int)) <| uB .lss 3 (.int .i64 ((i : Nat) : Int)) (.int .i64 ((g.l : Nat) : Int)) (.bool false) (by rw [b_lss, decide_eq_false (by omega)]) <| WL.nil <| ?_
              try simp only [pS]
              go_upto_region 8 with fail
              refine WL.start <| uK (.int .i64 (-1)) <| WL.nil <| ?_
              try simp only [pS]
              go_wp2
              rw [HC.out]
              exact ⟨ret_i' (by unfold placeR; rw [if_pos HA.out, plc_none x.zs m.fr.id 0 (fun j hj => HP.out j (by omega))]), HF.out.kept⟩
    ·skip
     try simp only [q3]
     refine xZ 18 24 hH <| xZ 19 25 hH <| xZ 20 26 hH <| xZ 21 27 hH <| xV 22 28 (.bool true) hH <| xV 23 29 (.bool true) hH <| ?_
     try simp only [pS]
     refine xZ 24 30 hH <| xZ 25 31 hH <| xZ 26 32 hH <| xZ 27 33 hH <| xZ 28 34 hH <| xZ 29 35 hH <| ?_
     try simp only [pS]
     refine xZ 30 36 hH <| xZ 31 37 hH <| xV 32 38 (.bool true) hH <| xV 33 39 (.bool true) hH <| xZ 34 40 hH <| xZ 35 41 hH <| ?_
     try simp only [pS]
     refine xZ 36 42 hH <| xZ 37 43 hH <| xZ 38 44 hH <| xZ 39 45 hH <| xZ 40 46 hH <| xV 41 47 (.bool true) hH <| ?_
     try simp only [pS]
     refine xV 42 48 (.bool true) hH <| xZ 43 49 hH <| xZ 44 50 hH <| xZ 45 51 hH <| xZ 46 52 hH <| xZ 47 53 hH <| ?_
     try simp only [pS]
     refine xZ 48 54 hH <| xZ 49 55 hH <| xV 50 56 (.bool true) hH <| xV 51 57 (.bool true) hH <| xZ 52 58 hH <| xZ 53 59 hH <| ?_
     try simp only [pS]
     refine xZ 54 60 hH <| xZ 55 61 hH <| xZ 56 62 hH <| xZ 57 63 hH <| xZ 58 64 hH <| xV 59 65 (.bool true) hH <| ?_
     try simp only [pS]
     refine wpAnyH_done (by kernel_rfl) ?_ _
     try simp only [pS]
     clear hH
     go_upto_region 2 with fail
     refine WL.start <| uK (.int .i64 (-1)) <| WL.nil <| ?_
     try simp only [pS]
     go_wp2
     rw [HC.out]
     exact ⟨ret_i' (by unfold placeR; rw [if_neg (by simp [ansR, q1, q2, q3])]), HF.out.kept⟩
  ·skip
   refine xB 4 10 .neq 3 (.int .i64 x.ph) (.int .i64 1) (.bool false) (fun _ _ => by rw [b_neq, q1]; try rfl) hH <| xV 5 11 (.bool false) hH <| xZ 6 12 hH <| xZ 7 13 hH <| xZ 8 14 hH <| xZ 9 15 hH <| ?_
   try simp only [pS]
   refine xZ 10 16 hH <| xV 11 17 (.bool false) hH <| xV 12 18 (.bool false) hH <| xV 13 19 (pV gk1 1) hH <| xV 14 20 (pV gk1 1) hH <| xL 15 21 4 ⟨gk1, 1, none⟩ (.bool m.fr.cl) (fun _ hw => load_one ((hw.box 0 _ _ _ rfl).cell 1 |>.trans (by kernel_rfl)) U4 rfl) hH <| ?_
   try simp only [pS]
   refine xV 16 22 (.bool m.fr.cl) hH <| xV 17 23 (.bool m.fr.cl) hH <| ?_
   try simp only [pS]
   cases q10 : (m.fr.cl)
   ·skip
    try simp only [q10]
    refine xV 18 24 (pV gk1 3) hH <| xV 19 25 (pV gk1 3) hH <| xL 20 26 4 ⟨gk1, 3, none⟩ (.bool m.too.cl) (fun _ hw => load_one ((hw.box 0 _ _ _ rfl).cell 3 |>.trans (by kernel_rfl)) U4 rfl) hH <| ?_
    try simp only [pS]
    cases q11 : (m.too.cl)
    ·skip
     try simp only [q11]
     refine xV 21 27 (.bool true) hH <| xV 22 28 (.bool true) hH <| xV 23 29 (.bool true) hH <| xZ 24 30 hH <| xZ 25 31 hH <| xZ 26 32 hH <| ?_
     try simp only [pS]
     refine xZ 27 33 hH <| xZ 28 34 hH <| xZ 29 35 hH <| xZ 30 36 hH <| xZ 31 37 hH <| xV 32 38 (.bool true) hH <| ?_
     try simp only [pS]
     refine xV 33 39 (.bool true) hH <| xZ 34 40 hH <| xZ 35 41 hH <| xZ 36 42 hH <| xZ 37 43 hH <| xZ 38 44 hH <| ?_
     try simp only [pS]
     refine xZ 39 45 hH <| xZ 40 46 hH <| xV 41 47 (.bool true) hH <| xV 42 48 (.bool true) hH <| xZ 43 49 hH <| xZ 44 50 hH <| ?_
     try simp only [pS]
     refine xZ 45 51 hH <| xZ 46 52 hH <| xZ 47 53 hH <| xZ 48 54 hH <| xZ 49 55 hH <| xV 50 56 (.bool true) hH <| ?_
     try simp only [pS]
     refine xV 51 57 (.bool true) hH <| xZ 52 58 hH <| xZ 53 59 hH <| xZ 54 60 hH <| xZ 55 61 hH <| xZ 56 62 hH <| ?_
     try simp only [pS]
     refine xZ 57 63 hH <| xZ 58 64 hH <| xV 59 65 (.bool true) hH <| ?_
     try simp only [pS]
     refine wpAnyH_done (by kernel_rfl) ?_ _
     try simp only [pS]
     clear hH
     go_upto_region 2 with fail
     refine WL.start <| uK (.int .i64 (-1)) <| WL.nil <| ?_
     try simp only [pS]
     go_wp2
     rw [HC.out]
     exact ⟨ret_i' (by unfold placeR; rw [if_neg (by simp [ansR, q1, q10, q11])]), HF.out.kept⟩
    ·skip
     try simp only [q11]
     refine xV 21 27 (.bool false) hH <| xV 22 28 (.bool false) hH <| xV 23 29 (.bool false) hH <| xV 24 30 (pV gk1 3) hH <| xV 25 31 (pV gk1 4) hH <| xL 26 32 3 ⟨gk1, 4, none⟩ (.int .i64 m.too.id) (fun _ hw => load_one ((hw.box 0 _ _ _ rfl).cell 4 |>.trans (by kernel_rfl)) U3 rfl) hH <| ?_
     try simp only [pS]
     refine xV 27 33 (pV r 0) hH <| xV 28 34 (pV r 0) hH <| xV 29 35 (pV r 0) hH <| xL 30 36 3 ⟨r, 0, none⟩ (.int .i64 x.cl) (fun _ hw => load_one ((HBr.out.kept hw.kept (fun e => e)).cell 0 |>.trans (by kernel_rfl)) U3 rfl) hH <| ?_
     try simp only [pS]
     cases q12 : (m.too.id == x.cl)
     ·skip
      refine xB 31 37 .neq 3 (.int .i64 m.too.id) (.int .i64 x.cl) (.bool true) (fun _ _ => by rw [b_neq, q12]; try rfl) hH <| xV 32 38 (.bool true) hH <| xV 33 39 (.bool true) hH <| xZ 34 40 hH <| xZ 35 41 hH <| xZ 36 42 hH <| ?_
      try simp only [pS]
      refine xZ 37 43 hH <| xZ 38 44 hH <| xZ 39 45 hH <| xZ 40 46 hH <| xV 41 47 (.bool true) hH <| xV 42 48 (.bool true) hH <| ?_
      try simp only [pS]
      refine xZ 43 49 hH <| xZ 44 50 hH <| xZ 45 51 hH <| xZ 46 52 hH <| xZ 47 53 hH <| xZ 48 54 hH <| ?_
      try simp only [pS]
      refine xZ 49 55 hH <| xV 50 56 (.bool true) hH <| xV 51 57 (.bool true) hH <| xZ 52 58 hH <| xZ 53 59 hH <| xZ 54 60 hH <| ?_
      try simp only [pS]
      refine xZ 55 61 hH <| xZ 56 62 hH <| xZ 57 63 hH <| xZ 58 64 hH <| xV 59 65 (.bool true) hH <| ?_
      try simp only [pS]
      refine wpAnyH_done (by kernel_rfl) ?_ _
      try simp only [pS]
      clear hH
      go_upto_region 2 with fail
      refine WL.start <| uK (.int .i64 (-1)) <| WL.nil <| ?_
      try simp only [pS]
      go_wp2
      rw [HC.out]
      exact ⟨ret_i' (by unfold placeR; rw [if_neg (by simp [ansR, q1, q10, q11, q12])]), HF.out.kept⟩
     ·skip
      refine xB 31 37 .neq 3 (.int .i64 m.too.id) (.int .i64 x.cl) (.bool false) (fun _ _ => by rw [b_neq, q12]; try rfl) hH <| xV 32 38 (.bool false) hH <| xV 33 39 (.bool false) hH <| xV 34 40 (pV gk1 5) hH <| xL 35 41 3 ⟨gk1, 5, none⟩ (.int .i64 m.op) (fun _ hw => load_one ((hw.box 0 _ _ _ rfl).cell 5 |>.trans (by kernel_rfl)) U3 rfl) hH <| xV 36 42 (pV r 0) hH <| ?_
      try simp only [pS]
      refine xV 37 43 (pV r 0) hH <| xV 38 44 (pV r 1) hH <| xL 39 45 3 ⟨r, 1, none⟩ (.int .i64 x.op) (fun _ hw => load_one ((HBr.out.kept hw.kept (fun e => e)).cell 1 |>.trans (by kernel_rfl)) U3 rfl) hH <| ?_
      try simp only [pS]
      cases q13 : (m.op == x.op)
      ·skip
       refine xB 40 46 .neq 3 (.int .i64 m.op) (.int .i64 x.op) (.bool true) (fun _ _ => by rw [b_neq, q13]; try rfl) hH <| xV 41 47 (.bool true) hH <| xV 42 48 (.bool true) hH <| xZ 43 49 hH <| xZ 44 50 hH <| xZ 45 51 hH <| ?_
       try simp only [pS]
       refine xZ 46 52 hH <| xZ 47 53 hH <| xZ 48 54 hH <| xZ 49 55 hH <| xV 50 56 (.bool true) hH <| xV 51 57 (.bool true) hH <| ?_
       try simp only [pS]
       refine xZ 52 58 hH <| xZ 53 59 hH <| xZ 54 60 hH <| xZ 55 61 hH <| xZ 56 62 hH <| xZ 57 63 hH <| ?_
       try simp only [pS]
       refine xZ 58 64 hH <| xV 59 65 (.bool true) hH <| ?_
       try simp only [pS]
       refine wpAnyH_done (by kernel_rfl) ?_ _
       try simp only [pS]
       clear hH
       go_upto_region 2 with fail
       refine WL.start <| uK (.int .i64 (-1)) <| WL.nil <| ?_
       try simp only [pS]
       go_wp2
       rw [HC.out]
       exact ⟨ret_i' (by unfold placeR; rw [if_neg (by simp [ansR, q1, q10, q11, q12, q13])]), HF.out.kept⟩
      ·skip
       refine xB 40 46 .neq 3 (.int .i64 m.op) (.int .i64 x.op) (.bool false) (fun _ _ => by rw [b_neq, q13]; try rfl) hH <| xV 41 47 (.bool false) hH <| xV 42 48 (.bool false) hH <| xV 43 49 (pV gk1 6) hH <| xL 44 50 3 ⟨gk1, 6, none⟩ (.int .i64 m.rd) (fun _ hw => load_one ((hw.box 0 _ _ _ rfl).cell 6 |>.trans (by kernel_rfl)) U3 rfl) hH <| xV 45 51 (pV r 0) hH <| ?_
       try simp only [pS]
       refine xV 46 52 (pV r 0) hH <| xV 47 53 (pV r 26) hH <| xL 48 54 3 ⟨r, 26, none⟩ (.int .i64 x.rd) (fun _ hw => load_one ((HBr.out.kept hw.kept (fun e => e)).cell 26 |>.trans (by kernel_rfl)) U3 rfl) hH <| ?_
       try simp only [pS]
       cases q14 : (m.rd == x.rd)
       ·skip
        refine xB 49 55 .neq 3 (.int .i64 m.rd) (.int .i64 x.rd) (.bool true) (fun _ _ => by rw [b_neq, q14]; try rfl) hH <| xV 50 56 (.bool true) hH <| xV 51 57 (.bool true) hH <| xZ 52 58 hH <| xZ 53 59 hH <| xZ 54 60 hH <| ?_
        try simp only [pS]
        refine xZ 55 61 hH <| xZ 56 62 hH <| xZ 57 63 hH <| xZ 58 64 hH <| xV 59 65 (.bool true) hH <| ?_
        try simp only [pS]
        refine wpAnyH_done (by kernel_rfl) ?_ _
        try simp only [pS]
        clear hH
        go_upto_region 2 with fail
        refine WL.start <| uK (.int .i64 (-1)) <| WL.nil <| ?_
        try simp only [pS]
        go_wp2
        rw [HC.out]
        exact ⟨ret_i' (by unfold placeR; rw [if_neg (by simp [ansR, q1, q10, q11, q12, q13, q14])]), HF.out.kept⟩
       ·skip
        refine xB 49 55 .neq 3 (.int .i64 m.rd) (.int .i64 x.rd) (.bool false) (fun _ _ => by rw [b_neq, q14]; try rfl) hH <| xV 50 56 (.bool false) hH <| xV 51 57 (.bool false) hH <| xV 52 58 (pV gk1 7) hH <| xL 53 59 23 ⟨gk1, 7, none⟩ (.agg (Ky.cells m.ky)) (fun _ hw => run_load_part (cs := Mg.cs m) (sub := Ky.cs m.ky) (hw.box 0 _ _ _ rfl) (part_of (by kernel_rfl)) U23 rfl S23) hH <| xV 54 60 (pV r 0) hH <| ?_
        try simp only [pS]
        refine xV 55 61 (pV r 0) hH <| xV 56 62 (pV r 2) hH <| xL 57 63 23 ⟨r, 2, none⟩ (.agg (Ky.cells x.ky)) (fun _ hw => run_load_part (cs := Rv.cs (rvOf x g ba bc bh bm)) (sub := Ky.cs x.ky) (HBr.out.kept hw.kept (fun e => e)) (part_of (by kernel_rfl)) U23 rfl S23) hH <| ?_
        try simp only [pS]
        cases q15 : (eqK m.ky x.ky)
        ·skip
         refine xB 58 64 .neq 23 (.agg (Ky.cells m.ky)) (.agg (Ky.cells x.ky)) (.bool true) (fun _ _ => by rw [eqK_neq, q15]; try rfl) hH <| xV 59 65 (.bool true) hH <| ?_
         try simp only [pS]
         refine wpAnyH_done (by kernel_rfl) ?_ _
         try simp only [pS]
         clear hH
         go_upto_region 2 with fail
         refine WL.start <| uK (.int .i64 (-1)) <| WL.nil <| ?_
         try simp only [pS]
         go_wp2
         rw [HC.out]
         exact ⟨ret_i' (by unfold placeR; rw [if_neg (by simp [ansR, q1, q10, q11, q12, q13, q14, q15])]), HF.out.kept⟩
        ·skip
         refine xB 58 64 .neq 23 (.agg (Ky.cells m.ky)) (.agg (Ky.cells x.ky)) (.bool false) (fun _ _ => by rw [eqK_neq, q15]; try rfl) hH <| xV 59 65 (.bool false) hH <| ?_
         try simp only [pS]
         refine wpAnyH_done (by kernel_rfl) ?_ _
         try simp only [pS]
         clear hH
         go_upto_region 3 with fail
         refine WL.start <| uK (.int .i64 0) <| WL.nil <| ?_
         try simp only [pS]
         have HA : Hid (ansR x m = true) := by show ansR x m = true; simp [ansR, q1, q10, q11, q12, q13, q14, q15]
         clear q1 q10 q11 q12 q13 q14 q15
         go_wp2
         go_loopw [5] (fun v5 wr => ∃ (i : Nat), v5 = .int .i64 ((i : Nat) : Int) ∧ i ≤ g.l ∧ Hid (∀ j, j < i → x.zs[j]?.getD 0 ≠ m.fr.id) ∧ Hid (Fq No w wr [(gk1, 47, Mg.cells m)])) (fun i _ => g.l - (intOf i).toNat)
         case atStart => exact ⟨0, by go_num, by omega, show ∀ j, j < 0 → x.zs[j]?.getD 0 ≠ m.fr.id from fun j hj => absurd hj (Nat.not_lt_zero _), HF⟩
         case round =>
           clear HF
           obtain ⟨i, rfl, hi, HP, HF⟩ := hrel
           by_cases hlt : i < g.l
           · skip
             obtain ⟨gb, hga, hgc⟩ := HG.out.at hlt
             have hsl : g.v = .slice (some ⟨gb, 0, none⟩) g.l g.k := by unfold Sl.v; rw [hga]
             obtain ⟨z, hz⟩ : ∃ z, z = x.zs[i]?.getD 0 := ⟨_, rfl⟩
             rw [← hz] at hgc
             have HGc : Hid (w.cell? ⟨gb, 0 + i * 1, none⟩ = some (.int .i64 z)) := hgc
             have HZ : Hid (z = x.zs[i]?.getD 0) := hz
             clear hgc hz
             go_upto_region 4 with fail
             refine WL.start <| uK (.int .i64 ((i : Nat) : Int)) <| uK (pV r 0) <| uK (pV r 0) <| uK (pV r 6) <| uL 24 ⟨r, 6, none⟩ (g.v) (load_one ((HBr.out.kept HF.out.kept (fun e => e)).cell 6 |>.trans (by kernel_rfl)) U24 rfl) <| uK (.int .i64 ((g.l : Nat) : Int)) <| uB .lss 3 (.int .i64 ((i : Nat) : Int)) (.int .i64 ((g.l : Nat) : Int)) (.bool true) (by rw [b_lss, decide_eq_true (by omega)]) <| WL.nil <| ?_
             try simp only [pS]
             go_upto_region 6 with fail
             refine wp_region_held_drew (S := fun w' => Fq No w w' [(gk1, 47, Mg.cells m)]) rfl (HF.out.drew) (fun hH => ?_)
             have HF : Hid (Fq No w (wr.drew) [(gk1, 47, Mg.cells m)]) := HF.out.drew
             generalize wr.drew = wk5 at HF hH ⊢
             refine xV 0 75 (pV r 0) hH <| xV 1 76 (pV r 0) hH <| xV 2 77 (pV r 6) hH <| xL 3 78 24 ⟨r, 6, none⟩ g.v (fun _ hw => load_one ((HBr.out.kept hw.kept (fun e => e)).cell 6 |>.trans (by kernel_rfl)) U24 rfl) hH <| xV 4 79 (.int .i64 ((i : Nat) : Int)) hH <| xU 5 80 (pV gb (0 + i * 1)) (fun w' hw => exec_ixA 24 1 E24 F24 _ _ rfl gb 0 g.l g.k i (Eq.trans (b := g.v) (by kernel_rfl) hsl) (by kernel_rfl) (by omega)) hH <| ?_
             try simp only [pS]
             refine xL 6 81 3 ⟨gb, 0 + i * 1, none⟩ (.int .i64 z) (fun _ hw => load_one (hw.kept.cell HGc.out (fun e => e)) U3 rfl) hH <| xV 7 82 (pV gk1 1) hH <| xV 8 83 (pV gk1 2) hH <| xL 9 84 3 ⟨gk1, 2, none⟩ (.int .i64 m.fr.id) (fun _ hw => load_one ((hw.box 0 _ _ _ rfl).cell 2 |>.trans (by kernel_rfl)) U3 rfl) hH <| ?_
             try simp only [pS]
             cases q16 : (z == m.fr.id)
             ·skip
              refine xB 10 85 .eql 3 (.int .i64 z) (.int .i64 m.fr.id) (.bool false) (fun _ _ => by rw [b_eql, q16]; try rfl) hH ?_
              try simp only [pS]
              refine wpAnyH_done (by kernel_rfl) ?_ _
              try simp only [pS]
              clear hH
              have HP2 : Hid (∀ j, j < i + 1 → x.zs[j]?.getD 0 ≠ m.fr.id) := show ∀ j, j < i + 1 → x.zs[j]?.getD 0 ≠ m.fr.id from fun j hj => by
                by_cases e : j = i
                · subst e; rw [← HZ.out]; simpa using q16
                · exact HP.out j (by omega)
              go_upto_region 5 with fail
              refine WL.start <| uK (.int .i64 ((i : Nat) : Int)) <| uB .add 3 (.int .i64 ((i : Nat) : Int)) (.int .i64 1) (.int .i64 (((i + 1) : Nat) : Int)) (b_addw _ _ _ (by rw [IntKind.wrap_i64]; omega) _) <| uK (.int .i64 (((i + 1) : Nat) : Int)) <| WL.nil <| ?_
              try simp only [pS]
              go_wp2
              go_roundw
              case rel => exact ⟨i + 1, by go_num, by omega, HP2, HF⟩
              case measure => simp [intOf]; omega
             ·skip
              refine xB 10 85 .eql 3 (.int .i64 z) (.int .i64 m.fr.id) (.bool true) (fun _ _ => by rw [b_eql, q16]; try rfl) hH ?_
              try simp only [pS]
              refine wpAnyH_done (by kernel_rfl) ?_ _
              try simp only [pS]
              clear hH
              go_upto_region 7 with fail
              refine WL.start <| uK (.int .i64 ((i : Nat) : Int)) <| uK (.int .i64 ((i : Nat) : Int)) <| WL.nil <| ?_
              try simp only [pS]
              go_wp2
              rw [HC.out]
              exact ⟨ret_i' (by unfold placeR; rw [if_pos HA.out, plc_found x.zs m.fr.id i 0 HP.out (by rw [hzl]; exact hlt) (by rw [← HZ.out]; simpa using q16), Nat.zero_add]), HF.out.kept⟩
           · skip
             go_upto_region 4 with fail
             refine WL.start <| uK (.int .i64 ((i : Nat) : Int)) <| uK (pV r 0) <| uK (pV r 0) <| uK (pV r 6) <| uL 24 ⟨r, 6, none⟩ (g.v) (load_one ((HBr.out.kept HF.out.kept (fun e => e)).cell 6 |>.trans (by kernel_rfl)) U24 rfl) <| uK (.int .i64 ((g.l : Nat) : Int)) <| uB .lss 3 (.int .i64 ((i : Nat) : Int)) (.int .i64 ((g.l : Nat) : Int)) (.bool false) (by rw [b_lss, decide_eq_false (by omega)]) <| WL.nil <| ?_
             try simp only [pS]
             go_upto_region 8 with fail
             refine WL.start <| uK (.int .i64 (-1)) <| WL.nil <| ?_
             try simp only [pS]
             go_wp2
             rw [HC.out]
             exact ⟨ret_i' (by unfold placeR; rw [if_pos HA.out, plc_none x.zs m.fr.id 0 (fun j hj => HP.out j (by omega))]), HF.out.kept⟩
   ·skip
    try simp only [q10]
    refine xZ 18 24 hH <| xZ 19 25 hH <| xZ 20 26 hH <| xZ 21 27 hH <| xV 22 28 (.bool true) hH <| xV 23 29 (.bool true) hH <| ?_
    try simp only [pS]
    refine xZ 24 30 hH <| xZ 25 31 hH <| xZ 26 32 hH <| xZ 27 33 hH <| xZ 28 34 hH <| xZ 29 35 hH <| ?_
    try simp only [pS]
    refine xZ 30 36 hH <| xZ 31 37 hH <| xV 32 38 (.bool true) hH <| xV 33 39 (.bool true) hH <| xZ 34 40 hH <| xZ 35 41 hH <| ?_
    try simp only [pS]
    refine xZ 36 42 hH <| xZ 37 43 hH <| xZ 38 44 hH <| xZ 39 45 hH <| xZ 40 46 hH <| xV 41 47 (.bool true) hH <| ?_
    try simp only [pS]
    refine xV 42 48 (.bool true) hH <| xZ 43 49 hH <| xZ 44 50 hH <| xZ 45 51 hH <| xZ 46 52 hH <| xZ 47 53 hH <| ?_
    try simp only [pS]
    refine xZ 48 54 hH <| xZ 49 55 hH <| xV 50 56 (.bool true) hH <| xV 51 57 (.bool true) hH <| xZ 52 58 hH <| xZ 53 59 hH <| ?_
    try simp only [pS]
    refine xZ 54 60 hH <| xZ 55 61 hH <| xZ 56 62 hH <| xZ 57 63 hH <| xZ 58 64 hH <| xV 59 65 (.bool true) hH <| ?_
    try simp only [pS]
    refine wpAnyH_done (by kernel_rfl) ?_ _
    try simp only [pS]
    clear hH
    go_upto_region 2 with fail
    refine WL.start <| uK (.int .i64 (-1)) <| WL.nil <| ?_
    try simp only [pS]
    go_wp2
    rw [HC.out]
    exact ⟨ret_i' (by unfold placeR; rw [if_neg (by simp [ansR, q1, q10])]), HF.out.kept⟩

end Go.Proofs.Ytpabpeppgpeaoaa.Md
