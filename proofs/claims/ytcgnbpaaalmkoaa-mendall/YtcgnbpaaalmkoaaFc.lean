import Derived.Test.YtcgnbpaaalmkoaaFb
namespace Go.Proofs.Ytcgnbpaaalmkoaa
open Go.RowKit
set_option linter.unusedVariables false
set_option linter.unusedSimpArgs false
@[reducible] def oqFc0 : Oper := { dst := some 11, op := Op.fieldAddr 35 (Operand.tmp 1) 2, type := 0, pos := "outright.go:92", after := #[], guard := none }
@[reducible] def oqFc1 : Oper := { dst := some 12, op := Op.load 33 (Operand.tmp 11), type := 33, pos := "outright.go:92", after := #[{ on := 0, ground := Ground.data }], guard := none }
@[reducible] def oqFc2 : Oper := { dst := some 13, op := Op.move (Operand.tmp 3), type := 3, pos := "outright.go:92", after := #[], guard := none }
@[reducible] def oqFc3 : Oper := { dst := some 14, op := Op.indexAddr 33 (Operand.tmp 12) (Operand.tmp 13), type := 0, pos := "outright.go:92", after := #[{ on := 1, ground := Ground.data }, { on := 2, ground := Ground.data }], guard := none }
@[reducible] def oqFc4 : Oper := { dst := some 15, op := Op.fieldAddr 89 (Operand.tmp 14) 1, type := 0, pos := "outright.go:92", after := #[{ on := 3, ground := Ground.data }], guard := none }
@[reducible] def oqFc5 : Oper := { dst := some 16, op := Op.fieldAddr 70 (Operand.tmp 15) 3, type := 0, pos := "outright.go:92", after := #[{ on := 4, ground := Ground.data }], guard := none }
@[reducible] def oqFc6 : Oper := { dst := some 17, op := Op.load 4 (Operand.tmp 16), type := 4, pos := "outright.go:92", after := #[{ on := 5, ground := Ground.data }], guard := none }
@[reducible] def oqFc7 : Oper := { dst := some 18, op := Op.move (Operand.tmp 17), type := 4, pos := "outright.go:92", after := #[{ on := 6, ground := Ground.data }], guard := none }
@[reducible] def oqFc8 : Oper := { dst := some 19, op := Op.fieldAddr 35 (Operand.tmp 1) 2, type := 0, pos := "outright.go:92", after := #[{ on := 7, ground := Ground.guard }], guard := some (7, true) }
@[reducible] def oqFc9 : Oper := { dst := some 20, op := Op.load 33 (Operand.tmp 19), type := 33, pos := "outright.go:92", after := #[{ on := 8, ground := Ground.data }, { on := 7, ground := Ground.guard }], guard := some (7, true) }
@[reducible] def oqFc10 : Oper := { dst := some 21, op := Op.move (Operand.tmp 3), type := 3, pos := "outright.go:92", after := #[{ on := 7, ground := Ground.guard }], guard := some (7, true) }
@[reducible] def oqFc11 : Oper := { dst := some 22, op := Op.indexAddr 33 (Operand.tmp 20) (Operand.tmp 21), type := 0, pos := "outright.go:92", after := #[{ on := 9, ground := Ground.data }, { on := 10, ground := Ground.data }, { on := 7, ground := Ground.guard }], guard := some (7, true) }
@[reducible] def oqFc12 : Oper := { dst := some 23, op := Op.fieldAddr 89 (Operand.tmp 22) 1, type := 0, pos := "outright.go:92", after := #[{ on := 11, ground := Ground.data }, { on := 7, ground := Ground.guard }], guard := some (7, true) }
@[reducible] def oqFc13 : Oper := { dst := some 24, op := Op.fieldAddr 70 (Operand.tmp 23) 2, type := 0, pos := "outright.go:92", after := #[{ on := 12, ground := Ground.data }, { on := 7, ground := Ground.guard }], guard := some (7, true) }
@[reducible] def oqFc14 : Oper := { dst := some 25, op := Op.fieldAddr 47 (Operand.tmp 24) 2, type := 0, pos := "outright.go:92", after := #[{ on := 13, ground := Ground.data }, { on := 7, ground := Ground.guard }], guard := some (7, true) }
@[reducible] def oqFc15 : Oper := { dst := some 26, op := Op.load 3 (Operand.tmp 25), type := 3, pos := "outright.go:92", after := #[{ on := 14, ground := Ground.data }, { on := 7, ground := Ground.guard }], guard := some (7, true) }
@[reducible] def oqFc16 : Oper := { dst := some 27, op := Op.fieldAddr 35 (Operand.tmp 1) 2, type := 0, pos := "outright.go:92", after := #[{ on := 7, ground := Ground.guard }], guard := some (7, true) }
@[reducible] def oqFc17 : Oper := { dst := some 28, op := Op.load 33 (Operand.tmp 27), type := 33, pos := "outright.go:92", after := #[{ on := 16, ground := Ground.data }, { on := 7, ground := Ground.guard }], guard := some (7, true) }
@[reducible] def oqFc18 : Oper := { dst := some 29, op := Op.move (Operand.tmp 3), type := 3, pos := "outright.go:92", after := #[{ on := 7, ground := Ground.guard }], guard := some (7, true) }
@[reducible] def oqFc19 : Oper := { dst := some 30, op := Op.indexAddr 33 (Operand.tmp 28) (Operand.tmp 29), type := 0, pos := "outright.go:92", after := #[{ on := 17, ground := Ground.data }, { on := 18, ground := Ground.data }, { on := 7, ground := Ground.guard }], guard := some (7, true) }
@[reducible] def oqFc20 : Oper := { dst := some 31, op := Op.fieldAddr 89 (Operand.tmp 30) 0, type := 0, pos := "outright.go:92", after := #[{ on := 19, ground := Ground.data }, { on := 7, ground := Ground.guard }], guard := some (7, true) }
@[reducible] def oqFc21 : Oper := { dst := some 32, op := Op.load 3 (Operand.tmp 31), type := 3, pos := "outright.go:92", after := #[{ on := 20, ground := Ground.data }, { on := 7, ground := Ground.guard }], guard := some (7, true) }
@[reducible] def oqFc22 : Oper := { dst := some 33, op := Op.binOp BinOp.neq 3 (Operand.tmp 26) (Operand.tmp 32) 3, type := 4, pos := "outright.go:92", after := #[{ on := 15, ground := Ground.data }, { on := 21, ground := Ground.data }, { on := 7, ground := Ground.guard }], guard := some (7, true) }
@[reducible] def oqFc23 : Oper := { dst := some 34, op := Op.pick (Operand.tmp 18) (Operand.tmp 33) (Operand.const (Value.bool false)), type := 4, pos := "outright.go:92", after := #[{ on := 7, ground := Ground.data }, { on := 22, ground := Ground.data }], guard := none }
@[reducible] def oqFc24 : Oper := { dst := some 35, op := Op.move (Operand.tmp 34), type := 4, pos := "outright.go:92", after := #[{ on := 23, ground := Ground.data }, { on := 7, ground := Ground.chain }], guard := none }
@[reducible] def oqFc25 : Oper := { dst := some 36, op := Op.fieldAddr 35 (Operand.tmp 1) 2, type := 0, pos := "outright.go:92", after := #[{ on := 24, ground := Ground.guard }], guard := some (24, false) }
@[reducible] def oqFc26 : Oper := { dst := some 37, op := Op.load 33 (Operand.tmp 36), type := 33, pos := "outright.go:92", after := #[{ on := 25, ground := Ground.data }, { on := 24, ground := Ground.guard }], guard := some (24, false) }
@[reducible] def oqFc27 : Oper := { dst := some 38, op := Op.move (Operand.tmp 3), type := 3, pos := "outright.go:92", after := #[{ on := 24, ground := Ground.guard }], guard := some (24, false) }
@[reducible] def oqFc28 : Oper := { dst := some 39, op := Op.indexAddr 33 (Operand.tmp 37) (Operand.tmp 38), type := 0, pos := "outright.go:92", after := #[{ on := 26, ground := Ground.data }, { on := 27, ground := Ground.data }, { on := 24, ground := Ground.guard }], guard := some (24, false) }
@[reducible] def oqFc29 : Oper := { dst := some 40, op := Op.fieldAddr 89 (Operand.tmp 39) 0, type := 0, pos := "outright.go:92", after := #[{ on := 28, ground := Ground.data }, { on := 24, ground := Ground.guard }], guard := some (24, false) }
@[reducible] def oqFc30 : Oper := { dst := some 41, op := Op.load 3 (Operand.tmp 40), type := 3, pos := "outright.go:92", after := #[{ on := 29, ground := Ground.data }, { on := 24, ground := Ground.guard }], guard := some (24, false) }
@[reducible] def oqFc31 : Oper := { dst := some 42, op := Op.fieldAddr 35 (Operand.tmp 1) 1, type := 0, pos := "outright.go:92", after := #[{ on := 24, ground := Ground.guard }], guard := some (24, false) }
@[reducible] def oqFc32 : Oper := { dst := some 43, op := Op.fieldAddr 32 (Operand.tmp 42) 0, type := 0, pos := "outright.go:92", after := #[{ on := 31, ground := Ground.data }, { on := 24, ground := Ground.guard }], guard := some (24, false) }
@[reducible] def oqFc33 : Oper := { dst := some 44, op := Op.load 3 (Operand.tmp 43), type := 3, pos := "outright.go:92", after := #[{ on := 32, ground := Ground.data }, { on := 24, ground := Ground.guard }], guard := some (24, false) }
@[reducible] def oqFc34 : Oper := { dst := some 45, op := Op.binOp BinOp.leq 3 (Operand.tmp 41) (Operand.tmp 44) 3, type := 4, pos := "outright.go:92", after := #[{ on := 30, ground := Ground.data }, { on := 33, ground := Ground.data }, { on := 24, ground := Ground.guard }], guard := some (24, false) }
@[reducible] def oqFc35 : Oper := { dst := some 46, op := Op.pick (Operand.tmp 35) (Operand.const (Value.bool true)) (Operand.tmp 45), type := 4, pos := "outright.go:92", after := #[{ on := 24, ground := Ground.data }, { on := 34, ground := Ground.data }], guard := none }

/-- What is decided is what was decided, and the bucket what was trimmed. -/
def OpsOk (u : Int) (ps : List Pl) : Prop := ∀ x ∈ ps, (x.i.d = true → x.i.c.op = x.n) ∧ u < x.n
def BkOk (u : Int) (es : List En) (ls : List La) : Prop := (u < 1 → es = []) ∧ (1 ≤ u → es = [trE u]) ∧ ls = []
theorem RdE.one {w : World} {g : Nat} {p : En} (hb : Box w g 110 p.cells) : RdE w ⟨some ⟨g, 0, none⟩, 1, 1⟩ [p] := by
 refine ⟨fun i it hi => ⟨g, 0, rfl, fun j v hv => ?_⟩, rfl, fun e => by cases e⟩
 have hi0 : i = 0 := by have := (List.getElem?_eq_some_iff.1 hi).1; simp at this; exact this
 subst hi0
 simp at hi
 subst hi
 rw [Nat.zero_mul, Nat.zero_add, hb.cell]
 unfold En.cells
 rw [List.getElem?_toArray]
 exact hv
def TrOut (w : World) (u : Int) (es : List En) (ls : List La) (e : Ending) (w' : World) : Prop := ∃ (u' : Int) (se : Sl), e = .returned (.agg (Bv.cells ⟨u', se, slZ⟩)) ∧ (u' = u ∨ u < 1) ∧ (1 ≤ u → u' = u) ∧ (u < 1 → u' = 0) ∧ RdE w' se es ∧ Kept No w w'
theorem same_tr (k : Bv) (se : Sl) (es : List En) (w : World) (h1 : RdE w k.e es) (h2 : RdE w se es) (h3 : RdL w k.l []) (hn : k.e.l ≤ 4000000000000) : Calls Try.prog 40 #[.agg (Bv.cells k), .agg (Bv.cells ⟨k.up, se, slZ⟩)] w (fun e w' => e = .returned (.bool true) ∧ Kept No w w') := by
 have e1 : se.l = k.e.l := by rw [← h2.len, ← h1.len]
 have e2 : k.l.l = 0 := h3.len.symm
 obtain ⟨sa, sl, sk⟩ := se
 have e1 : sl = k.e.l := e1
 subst e1
 have := sameK_any k.up k.e.a sa k.l.a none k.e.l 0 k.e.k sk k.l.k 0 es [] w h1 h2 (by rw [← e2]; exact h3) (RdL.nil w) hn (by omega)
 have e3 : (⟨k.up, ⟨k.e.a, k.e.l, k.e.k⟩, ⟨k.l.a, 0, k.l.k⟩⟩ : Bv) = k := by
  obtain ⟨up, e, ⟨la, ll, lk⟩⟩ := k
  have e2 : ll = 0 := e2
  subst e2
  rfl
 rw [e3] at this
 exact this
theorem trim_any (u : Int) (es : List En) (ls : List La) (w : World) (h : BkOk u es ls) : Calls Try.prog 52 #[.int .i64 u] w (TrOut w u es ls) := by
 cases hu : decide (u < 1) with
 | true =>
  have hu2 := of_decide_eq_true hu
  refine (trim_no u w hu).mono fun e w' ⟨he, hk⟩ => ⟨0, slZ, he, .inr hu2, fun e => by omega, fun _ => rfl, ?_, hk⟩
  rw [h.1 hu2]; exact RdE.nil _
 | false =>
  have hu2 := of_decide_eq_false hu
  refine (trim_yes u w hu).mono fun e w' ⟨g, he, hb, hg, hk⟩ => ⟨u, _, he, .inl rfl, fun _ => rfl, fun e => by omega, ?_, hk⟩
  rw [h.2.1 (by omega)]
  exact RdE.one hb
set_option maxRecDepth 100000 in
set_option maxHeartbeats 4000000 in
theorem right_any (h : Hd) (ps : List Pl) (es : List En) (w : World) (hr : RdP w h.r ps) (he : RdE w h.k.e es) (hl : RdL w h.k.l []) (hm : ps.length ≤ 10000000000000) (ho : OpsOk h.k.up ps) (hb : BkOk h.k.up es []) (hu : 0 ≤ h.k.up) : Calls Try.prog 31 #[.agg (Hd.cells h)] w (fun e w' => e = .returned (.bool true) ∧ Kept No w w') := by
 obtain ⟨C, hC⟩ : ∃ C : Ending → World → Prop, C = (fun e w' => e = .returned (.bool true) ∧ Kept No w w') := ⟨_, rfl⟩
 have HC : Hid (C = (fun e w' => e = .returned (.bool true) ∧ Kept No w w')) := hC
 rw [← hC]
 clear hC
 have HR : Hid (RdP w h.r ps) := hr
 have HE : Hid (RdE w h.k.e es) := he
 have HLl : Hid (RdL w h.k.l []) := hl
 have HL : Hid (ps.length = h.r.l) := hr.len
 have HB : Hid (BkOk h.k.up es []) := hb
 have hn : h.r.l ≤ 10000000000000 := by rw [← hr.len]; exact hm
 have hel : h.k.e.l ≤ 4000000000000 := by
  rw [← he.len]
  by_cases e : h.k.up < 1
  · rw [hb.1 e]; simp
  · rw [hb.2.1 (by omega)]; simp
 have hll : h.k.l.l = 0 := by rw [← hl.len]; rfl
 clear hr he hl hb
 have HF : Hid (Fr No w w []) := Fr.start _ _
 go_enter Try.func31, Try.ntmps31
 go_upto_region 0 with fail
 refine WL.start ?_
 refine wp_runW (.pointer (some ⟨w.heap.size, 0, none⟩)) (w.alloc (.cells (Hd.cells h) 35)) (exec_box 35 _ rfl (Hd.cells h) (by kernel_rfl)) (by kernel_rfl) ?_
 try simp only [pS]
 have HF : Hid (Fr No w _ [(w.heap.size, 35, Hd.cells h)]) := HF.out.alloc _ _
 generalize w.alloc (.cells (Hd.cells h) 35) = wk2 at HF ⊢
 generalize w.heap.size = gk1 at HF ⊢
 refine tK (.bool false) ?_
 try simp only [pS]
 refine WL.nil ?_
 try simp only [pS]
 go_upto_region 1 with fail
 refine WL.start ?_
 refine tK (.int .i64 0) ?_
 try simp only [pS]
 refine WL.nil ?_
 try simp only [pS]
 go_wp2
 go_loopw [3] (fun v3 wr => ∃ i : Nat, v3 = .int .i64 ((i : Nat) : Int) ∧ i ≤ h.r.l ∧ Hid (Fr No w wr [(gk1, 35, Hd.cells h)])) (fun i _ => h.r.l - (intOf i).toNat)
 case atStart => exact ⟨0, by go_num, by omega, HF⟩
 case round =>
  clear HF
  obtain ⟨i, rfl, hi, HF⟩ := hrel
  by_cases hlt : i < h.r.l
  · skip
    obtain ⟨pb, po, hcx⟩ := HR.out.at (i := i) hlt
    have hca := hcx.1
    have hsl : Hid (h.r.v = .slice (some ⟨pb, po, none⟩) h.r.l h.r.k) := by show h.r.v = _; unfold Sl.v; rw [hca]
    have hcc := hcx.2
    have hmem : pAt ps i ∈ ps := List.mem_of_getElem? (pAt_some (by rw [HL.out]; exact hlt))
    have hop := ho _ hmem
    obtain ⟨x, hx⟩ : ∃ x, x = pAt ps i := ⟨_, rfl⟩
    rw [← hx] at hcc hop
    have hgt := hop.2
    have c0 : Hid (w.cell? ⟨pb, po + i * 15, none⟩ = some (.int .i64 x.n)) := hcc 0 _ rfl
    have c14 : Hid (w.cell? ⟨pb, po + i * 15 + 1 + 13, none⟩ = some (.bool x.i.d)) := hcc 14 _ rfl
    have cop1 : w.cell? ⟨pb, po + i * 15 + 1 + 4 + 2, none⟩ = some (.int .i64 x.i.c.op) := hcc 7 _ rfl
    clear hcx hca hcc hx hmem
    cases hdd : x.i.d
    ·skip
     rw [hdd] at c14
     clear cop1 hop hdd
     go_upto_region 2 with fail
     refine WL.start ?_
     refine tK (.int .i64 ((i : Nat) : Int)) ?_
     refine tK (.pointer (some ⟨gk1, 6, none⟩)) ?_
     refine tW (h.r.v) (eL 33 _ rfl ⟨gk1, 6, none⟩ (load_one ((HF.out.box 0 _ _ _ rfl).cell 6 |>.trans (by kernel_rfl)) Try.und33 rfl)) ?_
     refine tK (.int .i64 ((h.r.l : Nat) : Int)) ?_
     refine tW (.bool true) (eB .lss 3 _ _ _ rfl (.int .i64 ((i : Nat) : Int)) (.int .i64 ((h.r.l : Nat) : Int)) _ (by rw [b_lss, decide_eq_true (by omega)])) ?_
     try simp only [pS]
     refine WL.nil ?_
     try simp only [pS]
     go_upto_region 4 with fail
     refine wp_region_held_drew (S := fun w' => Fr No w w' [(gk1, 35, Hd.cells h)]) rfl (HF.out.drew) (fun hH => ?_)
     have HF : Hid (Fr No w (wr.drew) [(gk1, 35, Hd.cells h)]) := HF.out.drew
     generalize wr.drew = wk3 at HF hH ⊢
     refine aT (i := 0) (oi := oqFc0) (v := .pointer (some ⟨gk1, 6, none⟩)) (fun _ _ => by kernel_rfl) hH ?_
     try simp only [pS]
     refine aT (i := 1) (oi := oqFc1) (v := h.r.v) (fun w' hw => eL 33 _ rfl ⟨gk1, 6, none⟩ (load_one ((hw.box 0 _ _ _ rfl).cell 6 |>.trans (by kernel_rfl)) Try.und33 rfl)) hH ?_
     try simp only [pS]
     refine aT (i := 2) (oi := oqFc2) (v := .int .i64 ((i : Nat) : Int)) (fun _ _ => by kernel_rfl) hH ?_
     try simp only [pS]
     refine aT (i := 3) (oi := oqFc3) (v := .pointer (some ⟨pb, po + i * 15, none⟩)) (fun w' hw => exec_ixA 33 15 Try.und33e Try.size33e _ _ rfl pb po h.r.l h.r.k i (Eq.trans (b := h.r.v) (by kernel_rfl) hsl.out) (by kernel_rfl) hlt) hH ?_
     try simp only [pS]
     refine aT (i := 4) (oi := oqFc4) (v := .pointer (some ⟨pb, po + i * 15 + 1, none⟩)) (fun _ _ => by kernel_rfl) hH ?_
     try simp only [pS]
     refine aT (i := 5) (oi := oqFc5) (v := .pointer (some ⟨pb, po + i * 15 + 1 + 13, none⟩)) (fun _ _ => by kernel_rfl) hH ?_
     try simp only [pS]
     refine aT (i := 6) (oi := oqFc6) (v := .bool false) (fun w' hw => eL 4 _ rfl ⟨pb, po + i * 15 + 1 + 13, none⟩ (load_one (hw.kept.cell (c14.out) (fun e => e)) Try.und4 rfl)) hH ?_
     try simp only [pS]
     refine aT (i := 7) (oi := oqFc7) (v := .bool false) (fun _ _ => by kernel_rfl) hH ?_
     try simp only [pS]
     refine aS (i := 8) (oi := oqFc8) hH ?_
     try simp only [pS]
     refine aS (i := 9) (oi := oqFc9) hH ?_
     try simp only [pS]
     refine aS (i := 10) (oi := oqFc10) hH ?_
     try simp only [pS]
     refine aS (i := 11) (oi := oqFc11) hH ?_
     try simp only [pS]
     refine aS (i := 12) (oi := oqFc12) hH ?_
     try simp only [pS]
     refine aS (i := 13) (oi := oqFc13) hH ?_
     try simp only [pS]
     refine aS (i := 14) (oi := oqFc14) hH ?_
     try simp only [pS]
     refine aS (i := 15) (oi := oqFc15) hH ?_
     try simp only [pS]
     refine aS (i := 16) (oi := oqFc16) hH ?_
     try simp only [pS]
     refine aS (i := 17) (oi := oqFc17) hH ?_
     try simp only [pS]
     refine aS (i := 18) (oi := oqFc18) hH ?_
     try simp only [pS]
     refine aS (i := 19) (oi := oqFc19) hH ?_
     try simp only [pS]
     refine aS (i := 20) (oi := oqFc20) hH ?_
     try simp only [pS]
     refine aS (i := 21) (oi := oqFc21) hH ?_
     try simp only [pS]
     refine aS (i := 22) (oi := oqFc22) hH ?_
     try simp only [pS]
     refine aT (i := 23) (oi := oqFc23) (v := .bool false) (fun _ _ => by kernel_rfl) hH ?_
     try simp only [pS]
     refine aT (i := 24) (oi := oqFc24) (v := .bool false) (fun _ _ => by kernel_rfl) hH ?_
     try simp only [pS]
     refine aT (i := 25) (oi := oqFc25) (v := .pointer (some ⟨gk1, 6, none⟩)) (fun _ _ => by kernel_rfl) hH ?_
     try simp only [pS]
     refine aT (i := 26) (oi := oqFc26) (v := h.r.v) (fun w' hw => eL 33 _ rfl ⟨gk1, 6, none⟩ (load_one ((hw.box 0 _ _ _ rfl).cell 6 |>.trans (by kernel_rfl)) Try.und33 rfl)) hH ?_
     try simp only [pS]
     refine aT (i := 27) (oi := oqFc27) (v := .int .i64 ((i : Nat) : Int)) (fun _ _ => by kernel_rfl) hH ?_
     try simp only [pS]
     refine aT (i := 28) (oi := oqFc28) (v := .pointer (some ⟨pb, po + i * 15, none⟩)) (fun w' hw => exec_ixA 33 15 Try.und33e Try.size33e _ _ rfl pb po h.r.l h.r.k i (Eq.trans (b := h.r.v) (by kernel_rfl) hsl.out) (by kernel_rfl) hlt) hH ?_
     try simp only [pS]
     refine aT (i := 29) (oi := oqFc29) (v := .pointer (some ⟨pb, po + i * 15, none⟩)) (fun _ _ => by kernel_rfl) hH ?_
     try simp only [pS]
     refine aT (i := 30) (oi := oqFc30) (v := .int .i64 x.n) (fun w' hw => eL 3 _ rfl ⟨pb, po + i * 15, none⟩ (load_one (hw.kept.cell (c0.out) (fun e => e)) Try.und3 rfl)) hH ?_
     try simp only [pS]
     refine aT (i := 31) (oi := oqFc31) (v := .pointer (some ⟨gk1, 3, none⟩)) (fun _ _ => by kernel_rfl) hH ?_
     try simp only [pS]
     refine aT (i := 32) (oi := oqFc32) (v := .pointer (some ⟨gk1, 3, none⟩)) (fun _ _ => by kernel_rfl) hH ?_
     try simp only [pS]
     refine aT (i := 33) (oi := oqFc33) (v := .int .i64 h.k.up) (fun w' hw => eL 3 _ rfl ⟨gk1, 3, none⟩ (load_one ((hw.box 0 _ _ _ rfl).cell 3 |>.trans (by kernel_rfl)) Try.und3 rfl)) hH ?_
     try simp only [pS]
     refine aT (i := 34) (oi := oqFc34) (v := .bool false) (fun w' hw => eB .leq 3 _ _ _ rfl (.int .i64 x.n) (.int .i64 h.k.up) _ (by rw [b_leq, decide_eq_false (by omega)])) hH ?_
     try simp only [pS]
     refine aT (i := 35) (oi := oqFc35) (v := .bool false) (fun _ _ => by kernel_rfl) hH ?_
     try simp only [pS]
     refine wpAnyH_done (by kernel_rfl) ?_ _
     try simp only [pS]
     clear hH
     go_upto_region 3 with fail
     refine WL.start ?_
     refine tK (.int .i64 ((i : Nat) : Int)) ?_
     refine tW (.int .i64 (((i + 1) : Nat) : Int)) (eB .add 3 _ _ _ rfl (.int .i64 ((i : Nat) : Int)) (.int .i64 1) _ (b_addw _ _ _ (by rw [IntKind.wrap_i64]; omega) _)) ?_
     refine tK (.int .i64 (((i + 1) : Nat) : Int)) ?_
     try simp only [pS]
     refine WL.nil ?_
     try simp only [pS]
     go_wp2
     go_roundw
     case rel => exact ⟨i + 1, by go_num, by omega, HF⟩
     case measure => simp [intOf]; omega
    ·skip
     rw [hdd] at c14
     have cop : Hid (w.cell? ⟨pb, po + i * 15 + 1 + 4 + 2, none⟩ = some (.int .i64 x.n)) := by show _ = _; rw [cop1, hop.1 hdd]
     clear cop1 hop hdd
     go_upto_region 2 with fail
     refine WL.start ?_
     refine tK (.int .i64 ((i : Nat) : Int)) ?_
     refine tK (.pointer (some ⟨gk1, 6, none⟩)) ?_
     refine tW (h.r.v) (eL 33 _ rfl ⟨gk1, 6, none⟩ (load_one ((HF.out.box 0 _ _ _ rfl).cell 6 |>.trans (by kernel_rfl)) Try.und33 rfl)) ?_
     refine tK (.int .i64 ((h.r.l : Nat) : Int)) ?_
     refine tW (.bool true) (eB .lss 3 _ _ _ rfl (.int .i64 ((i : Nat) : Int)) (.int .i64 ((h.r.l : Nat) : Int)) _ (by rw [b_lss, decide_eq_true (by omega)])) ?_
     try simp only [pS]
     refine WL.nil ?_
     try simp only [pS]
     go_upto_region 4 with fail
     refine wp_region_held_drew (S := fun w' => Fr No w w' [(gk1, 35, Hd.cells h)]) rfl (HF.out.drew) (fun hH => ?_)
     have HF : Hid (Fr No w (wr.drew) [(gk1, 35, Hd.cells h)]) := HF.out.drew
     generalize wr.drew = wk4 at HF hH ⊢
     refine aT (i := 0) (oi := oqFc0) (v := .pointer (some ⟨gk1, 6, none⟩)) (fun _ _ => by kernel_rfl) hH ?_
     try simp only [pS]
     refine aT (i := 1) (oi := oqFc1) (v := h.r.v) (fun w' hw => eL 33 _ rfl ⟨gk1, 6, none⟩ (load_one ((hw.box 0 _ _ _ rfl).cell 6 |>.trans (by kernel_rfl)) Try.und33 rfl)) hH ?_
     try simp only [pS]
     refine aT (i := 2) (oi := oqFc2) (v := .int .i64 ((i : Nat) : Int)) (fun _ _ => by kernel_rfl) hH ?_
     try simp only [pS]
     refine aT (i := 3) (oi := oqFc3) (v := .pointer (some ⟨pb, po + i * 15, none⟩)) (fun w' hw => exec_ixA 33 15 Try.und33e Try.size33e _ _ rfl pb po h.r.l h.r.k i (Eq.trans (b := h.r.v) (by kernel_rfl) hsl.out) (by kernel_rfl) hlt) hH ?_
     try simp only [pS]
     refine aT (i := 4) (oi := oqFc4) (v := .pointer (some ⟨pb, po + i * 15 + 1, none⟩)) (fun _ _ => by kernel_rfl) hH ?_
     try simp only [pS]
     refine aT (i := 5) (oi := oqFc5) (v := .pointer (some ⟨pb, po + i * 15 + 1 + 13, none⟩)) (fun _ _ => by kernel_rfl) hH ?_
     try simp only [pS]
     refine aT (i := 6) (oi := oqFc6) (v := .bool true) (fun w' hw => eL 4 _ rfl ⟨pb, po + i * 15 + 1 + 13, none⟩ (load_one (hw.kept.cell (c14.out) (fun e => e)) Try.und4 rfl)) hH ?_
     try simp only [pS]
     refine aT (i := 7) (oi := oqFc7) (v := .bool true) (fun _ _ => by kernel_rfl) hH ?_
     try simp only [pS]
     refine aT (i := 8) (oi := oqFc8) (v := .pointer (some ⟨gk1, 6, none⟩)) (fun _ _ => by kernel_rfl) hH ?_
     try simp only [pS]
     refine aT (i := 9) (oi := oqFc9) (v := h.r.v) (fun w' hw => eL 33 _ rfl ⟨gk1, 6, none⟩ (load_one ((hw.box 0 _ _ _ rfl).cell 6 |>.trans (by kernel_rfl)) Try.und33 rfl)) hH ?_
     try simp only [pS]
     refine aT (i := 10) (oi := oqFc10) (v := .int .i64 ((i : Nat) : Int)) (fun _ _ => by kernel_rfl) hH ?_
     try simp only [pS]
     refine aT (i := 11) (oi := oqFc11) (v := .pointer (some ⟨pb, po + i * 15, none⟩)) (fun w' hw => exec_ixA 33 15 Try.und33e Try.size33e _ _ rfl pb po h.r.l h.r.k i (Eq.trans (b := h.r.v) (by kernel_rfl) hsl.out) (by kernel_rfl) hlt) hH ?_
     try simp only [pS]
     refine aT (i := 12) (oi := oqFc12) (v := .pointer (some ⟨pb, po + i * 15 + 1, none⟩)) (fun _ _ => by kernel_rfl) hH ?_
     try simp only [pS]
     refine aT (i := 13) (oi := oqFc13) (v := .pointer (some ⟨pb, po + i * 15 + 1 + 4, none⟩)) (fun _ _ => by kernel_rfl) hH ?_
     try simp only [pS]
     refine aT (i := 14) (oi := oqFc14) (v := .pointer (some ⟨pb, po + i * 15 + 1 + 4 + 2, none⟩)) (fun _ _ => by kernel_rfl) hH ?_
     try simp only [pS]
     refine aT (i := 15) (oi := oqFc15) (v := .int .i64 x.n) (fun w' hw => eL 3 _ rfl ⟨pb, po + i * 15 + 1 + 4 + 2, none⟩ (load_one (hw.kept.cell (cop.out) (fun e => e)) Try.und3 rfl)) hH ?_
     try simp only [pS]
     refine aT (i := 16) (oi := oqFc16) (v := .pointer (some ⟨gk1, 6, none⟩)) (fun _ _ => by kernel_rfl) hH ?_
     try simp only [pS]
     refine aT (i := 17) (oi := oqFc17) (v := h.r.v) (fun w' hw => eL 33 _ rfl ⟨gk1, 6, none⟩ (load_one ((hw.box 0 _ _ _ rfl).cell 6 |>.trans (by kernel_rfl)) Try.und33 rfl)) hH ?_
     try simp only [pS]
     refine aT (i := 18) (oi := oqFc18) (v := .int .i64 ((i : Nat) : Int)) (fun _ _ => by kernel_rfl) hH ?_
     try simp only [pS]
     refine aT (i := 19) (oi := oqFc19) (v := .pointer (some ⟨pb, po + i * 15, none⟩)) (fun w' hw => exec_ixA 33 15 Try.und33e Try.size33e _ _ rfl pb po h.r.l h.r.k i (Eq.trans (b := h.r.v) (by kernel_rfl) hsl.out) (by kernel_rfl) hlt) hH ?_
     try simp only [pS]
     refine aT (i := 20) (oi := oqFc20) (v := .pointer (some ⟨pb, po + i * 15, none⟩)) (fun _ _ => by kernel_rfl) hH ?_
     try simp only [pS]
     refine aT (i := 21) (oi := oqFc21) (v := .int .i64 x.n) (fun w' hw => eL 3 _ rfl ⟨pb, po + i * 15, none⟩ (load_one (hw.kept.cell (c0.out) (fun e => e)) Try.und3 rfl)) hH ?_
     try simp only [pS]
     refine aT (i := 22) (oi := oqFc22) (v := .bool false) (fun w' hw => eB .neq 3 _ _ _ rfl (.int .i64 x.n) (.int .i64 x.n) _ (by rw [b_neq, beq_self_eq_true]; rfl)) hH ?_
     try simp only [pS]
     refine aT (i := 23) (oi := oqFc23) (v := .bool false) (fun _ _ => by kernel_rfl) hH ?_
     try simp only [pS]
     refine aT (i := 24) (oi := oqFc24) (v := .bool false) (fun _ _ => by kernel_rfl) hH ?_
     try simp only [pS]
     refine aT (i := 25) (oi := oqFc25) (v := .pointer (some ⟨gk1, 6, none⟩)) (fun _ _ => by kernel_rfl) hH ?_
     try simp only [pS]
     refine aT (i := 26) (oi := oqFc26) (v := h.r.v) (fun w' hw => eL 33 _ rfl ⟨gk1, 6, none⟩ (load_one ((hw.box 0 _ _ _ rfl).cell 6 |>.trans (by kernel_rfl)) Try.und33 rfl)) hH ?_
     try simp only [pS]
     refine aT (i := 27) (oi := oqFc27) (v := .int .i64 ((i : Nat) : Int)) (fun _ _ => by kernel_rfl) hH ?_
     try simp only [pS]
     refine aT (i := 28) (oi := oqFc28) (v := .pointer (some ⟨pb, po + i * 15, none⟩)) (fun w' hw => exec_ixA 33 15 Try.und33e Try.size33e _ _ rfl pb po h.r.l h.r.k i (Eq.trans (b := h.r.v) (by kernel_rfl) hsl.out) (by kernel_rfl) hlt) hH ?_
     try simp only [pS]
     refine aT (i := 29) (oi := oqFc29) (v := .pointer (some ⟨pb, po + i * 15, none⟩)) (fun _ _ => by kernel_rfl) hH ?_
     try simp only [pS]
     refine aT (i := 30) (oi := oqFc30) (v := .int .i64 x.n) (fun w' hw => eL 3 _ rfl ⟨pb, po + i * 15, none⟩ (load_one (hw.kept.cell (c0.out) (fun e => e)) Try.und3 rfl)) hH ?_
     try simp only [pS]
     refine aT (i := 31) (oi := oqFc31) (v := .pointer (some ⟨gk1, 3, none⟩)) (fun _ _ => by kernel_rfl) hH ?_
     try simp only [pS]
     refine aT (i := 32) (oi := oqFc32) (v := .pointer (some ⟨gk1, 3, none⟩)) (fun _ _ => by kernel_rfl) hH ?_
     try simp only [pS]
     refine aT (i := 33) (oi := oqFc33) (v := .int .i64 h.k.up) (fun w' hw => eL 3 _ rfl ⟨gk1, 3, none⟩ (load_one ((hw.box 0 _ _ _ rfl).cell 3 |>.trans (by kernel_rfl)) Try.und3 rfl)) hH ?_
     try simp only [pS]
     refine aT (i := 34) (oi := oqFc34) (v := .bool false) (fun w' hw => eB .leq 3 _ _ _ rfl (.int .i64 x.n) (.int .i64 h.k.up) _ (by rw [b_leq, decide_eq_false (by omega)])) hH ?_
     try simp only [pS]
     refine aT (i := 35) (oi := oqFc35) (v := .bool false) (fun _ _ => by kernel_rfl) hH ?_
     try simp only [pS]
     refine wpAnyH_done (by kernel_rfl) ?_ _
     try simp only [pS]
     clear hH
     go_upto_region 3 with fail
     refine WL.start ?_
     refine tK (.int .i64 ((i : Nat) : Int)) ?_
     refine tW (.int .i64 (((i + 1) : Nat) : Int)) (eB .add 3 _ _ _ rfl (.int .i64 ((i : Nat) : Int)) (.int .i64 1) _ (b_addw _ _ _ (by rw [IntKind.wrap_i64]; omega) _)) ?_
     refine tK (.int .i64 (((i + 1) : Nat) : Int)) ?_
     try simp only [pS]
     refine WL.nil ?_
     try simp only [pS]
     go_wp2
     go_roundw
     case rel => exact ⟨i + 1, by go_num, by omega, HF⟩
     case measure => simp [intOf]; omega
  · skip
    go_upto_region 2 with fail
    refine WL.start ?_
    refine tK (.int .i64 ((i : Nat) : Int)) ?_
    refine tK (.pointer (some ⟨gk1, 6, none⟩)) ?_
    refine tW (h.r.v) (eL 33 _ rfl ⟨gk1, 6, none⟩ (load_one ((HF.out.box 0 _ _ _ rfl).cell 6 |>.trans (by kernel_rfl)) Try.und33 rfl)) ?_
    refine tK (.int .i64 ((h.r.l : Nat) : Int)) ?_
    refine tW (.bool false) (eB .lss 3 _ _ _ rfl (.int .i64 ((i : Nat) : Int)) (.int .i64 ((h.r.l : Nat) : Int)) _ (by rw [b_lss, decide_eq_false (by omega)])) ?_
    try simp only [pS]
    refine WL.nil ?_
    try simp only [pS]
    go_upto_region 6 with fail
    refine wp_region_held_drew (S := fun w' => Fr No w w' [(gk1, 35, Hd.cells h)]) rfl (HF.out.drew) (fun hH => ?_)
    have HF : Hid (Fr No w (wr.drew) [(gk1, 35, Hd.cells h)]) := HF.out.drew
    generalize wr.drew = wk5 at HF hH ⊢
    refine aT (i := 0) (oi := { dst := some 47, op := Op.fieldAddr 35 (Operand.tmp 1) 1, type := 0, pos := "outright.go:96", after := #[], guard := none }) (v := .pointer (some ⟨gk1, 3, none⟩)) (fun _ _ => by kernel_rfl) hH ?_
    try simp only [pS]
    refine aT (i := 1) (oi := { dst := some 48, op := Op.load 32 (Operand.tmp 47), type := 32, pos := "outright.go:96", after := #[{ on := 0, ground := Ground.data }], guard := none }) (v := .agg (Bv.cells h.k)) (fun w' hw => eL 32 _ rfl ⟨gk1, 3, none⟩ (run_load_part (cs := Hd.cs h) (sub := Bv.cs h.k) (hw.box 0 _ _ _ rfl) (part_of (by kernel_rfl)) Try.und32 rfl Try.size32)) hH ?_
    try simp only [pS]
    refine aT (i := 2) (oi := { dst := some 49, op := Op.fieldAddr 35 (Operand.tmp 1) 1, type := 0, pos := "outright.go:96", after := #[], guard := none }) (v := .pointer (some ⟨gk1, 3, none⟩)) (fun _ _ => by kernel_rfl) hH ?_
    try simp only [pS]
    refine aT (i := 3) (oi := { dst := some 50, op := Op.fieldAddr 32 (Operand.tmp 49) 0, type := 0, pos := "outright.go:96", after := #[{ on := 2, ground := Ground.data }], guard := none }) (v := .pointer (some ⟨gk1, 3, none⟩)) (fun _ _ => by kernel_rfl) hH ?_
    try simp only [pS]
    refine aT (i := 4) (oi := { dst := some 51, op := Op.load 3 (Operand.tmp 50), type := 3, pos := "outright.go:96", after := #[{ on := 3, ground := Ground.data }], guard := none }) (v := .int .i64 h.k.up) (fun w' hw => eL 3 _ rfl ⟨gk1, 3, none⟩ (load_one ((hw.box 0 _ _ _ rfl).cell 3 |>.trans (by kernel_rfl)) Try.und3 rfl)) hH ?_
    try simp only [pS]
    refine any_call (i := 5) (o := { dst := some 52, op := Op.call { callee := Callee.value (Operand.func 52), args := #[Operand.tmp 51], argTypes := #[3] }, type := 32, pos := "outright.go:96", after := #[{ on := 4, ground := Ground.data }], guard := none }) rfl (by kernel_rfl) (by kernel_rfl) 52 #[.int .i64 h.k.up] (by kernel_rfl) _ (trim_any h.k.up es [] _ HB.out) ?_
    rintro e wk6 ⟨u', se, rfl, hu1, hu2, hu3, hse, hk⟩
    obtain rfl : u' = h.k.up := by
     by_cases e : 1 ≤ h.k.up
     · exact hu2 e
     · rw [hu3 (by omega)]; omega
    have hH2 : Fr No w wk6 [(gk1, 35, Hd.cells h)] := hH.no hk
    have HF : Hid (Fr No w (wk6) [(gk1, 35, Hd.cells h)]) := HF.out.no hk
    have HSe : Hid (RdE wk6 se es) := hse
    clear hu1 hu2 hu3 hse hk
    refine ⟨.agg (Bv.cells ⟨h.k.up, se, slZ⟩), rfl, hH2, fun hH => ?_⟩
    clear hH2
    try simp only [pS]
    refine any_call (i := 6) (o := { dst := some 53, op := Op.call { callee := Callee.value (Operand.func 40), args := #[Operand.tmp 48, Operand.tmp 52], argTypes := #[32, 32] }, type := 4, pos := "outright.go:96", after := #[{ on := 1, ground := Ground.data }, { on := 5, ground := Ground.data }, { on := 5, ground := Ground.chain }], guard := none }) rfl (by kernel_rfl) (by kernel_rfl) 40 #[.agg (Bv.cells h.k), .agg (Bv.cells ⟨h.k.up, se, slZ⟩)] (by kernel_rfl) _ (same_tr h.k se es _ (HE.out.no HF.out.kept) HSe.out (HLl.out.no HF.out.kept) hel) ?_
    rintro e wk7 ⟨rfl, hk⟩
    have hH2 : Fr No w wk7 [(gk1, 35, Hd.cells h)] := hH.no hk
    have HSe : Hid (RdE (wk7) se es) := HSe.out.no hk
    have HF : Hid (Fr No w (wk7) [(gk1, 35, Hd.cells h)]) := HF.out.no hk
    clear hk
    refine ⟨.bool true, rfl, hH2, fun hH => ?_⟩
    clear hH2
    try simp only [pS]
    refine aT (i := 7) (oi := { dst := some 2, op := Op.assign (Operand.tmp 53), type := 4, pos := "outright.go:96", after := #[{ on := 6, ground := Ground.data }, { on := 6, ground := Ground.chain }, { on := 0, ground := Ground.phase }, { on := 1, ground := Ground.phase }, { on := 2, ground := Ground.phase }, { on := 3, ground := Ground.phase }, { on := 4, ground := Ground.phase }, { on := 5, ground := Ground.phase }, { on := 6, ground := Ground.phase }], guard := none }) (v := .bool true) (fun _ _ => by kernel_rfl) hH ?_
    try simp only [pS]
    refine wpAnyH_done (by kernel_rfl) ?_ _
    try simp only [pS]
    clear hH
    go_wp2
    rw [HC.out]
    exact ⟨rfl, HF.out.kept⟩

end Go.Proofs.Ytcgnbpaaalmkoaa
