import Derived.Test.YtgnfeegnhdbnkaaJ
namespace Go.Proofs.Ytgnfeegnhdbnkaa
open Go.RowKit Go.Lib
set_option linter.unusedVariables false
set_option linter.unusedSimpArgs false

/-- The reference's reader in memory. -/
structure Rdr (n0 : Nat) (w : World) (g : Nat) (t : St) (wa : Option Addr) (wc : Nat) (ba : Option Addr) (bc : Nat) : Prop where
  box : Box w g 46 #[.int .i64 (t.inn : Int), .slice ba t.word.length bc, .slice wa t.ws.length wc, .int .i64 t.dg, .bool t.bad]
  hw : Own 9 1 w n0 wa wc t.ws.length (t.ws.map strV)
  hb : Own 5 1 w n0 ba bc t.word.length (t.word.map u8V)
  hn : n0 ≤ w.heap.size
def RdA (n0 : Nat) (w : World) (g : Nat) (t : St) : Prop := ∃ wa wc ba bc, Rdr n0 w g t wa wc ba bc
theorem RdA.of {n0 : Nat} {w : World} {g : Nat} {wa ba : Option Addr} {wc bc n m : Nat} {vs us : List Value} {pl fr : Int} {b : Bool} (t : St) (hB : Box w g 46 #[.int .i64 pl, .slice ba m bc, .slice wa n wc, .int .i64 fr, .bool b]) (hw : Own 9 1 w n0 wa wc n vs) (hb : Own 5 1 w n0 ba bc m us) (hn : n0 ≤ w.heap.size)
    (h1 : n = t.ws.length) (h2 : vs = t.ws.map strV) (h3 : pl = (t.inn : Int)) (h4 : fr = t.dg) (h5 : m = t.word.length) (h6 : us = t.word.map u8V) (h7 : b = t.bad) : RdA n0 w g t := by
  subst h1 h2 h3 h4 h5 h6 h7
  exact ⟨wa, wc, ba, bc, hB, hw, hb, hn⟩
def PostR (n0 g : Nat) (t : St) (w : World) (e : Ending) (w' : World) : Prop := e = .returned (.tuple #[]) ∧ RdA n0 w' g t ∧ Kept (Sg n0 g) w w'
theorem b_mul (x y z : Int) (h : IntKind.i64.wrap (x * y) = z) (w : World) : (binOp .mul 3 (.int .i64 x) (.int .i64 y)).run Try.prog w = .ok (.int .i64 z) w := by rw [← h]; kernel_rfl
theorem c_u8 (x : Int) (h0 : 0 ≤ x) (h1 : x ≤ 255) (w : World) : (convert 3 5 (.int .i64 x)).run Try.prog w = .ok (.int .u8 x) w := by
  have e : Try.prog.intKind 5 = .u8 := by kernel_rfl
  rw [run_convert_int (P := Try.prog) (w := w) 3 5 .i64 x (by kernel_rfl) (by kernel_rfl), e, wrap_u8 x h0 h1]
set_option maxRecDepth 100000 in
set_option maxHeartbeats 4000000 in
theorem ends_any (n0 g : Nat) (t : St) (k : Nat) (w : World) (hcut : RdA n0 w g t) (hws : t.ws.length ≤ 1000000000000) (hbt : t.word.length ≤ 1000000000000) : Calls Try.prog 21 #[.pointer (some ⟨g, 0, none⟩), .int .i64 (k : Int)] w (PostR n0 g (endS t k) w) := by
  obtain ⟨C, hC⟩ : ∃ C : Ending → World → Prop, C = (PostR n0 g (endS t k) w) := ⟨_, rfl⟩
  have HC : Hid (C = (PostR n0 g (endS t k) w)) := hC
  rw [← hC]
  clear hC
  obtain ⟨wa, wc, ba, bc, hC0⟩ := hcut
  have HB : Hid (Box w g 46 #[.int .i64 (t.inn : Int), .slice ba t.word.length bc, .slice wa t.ws.length wc, .int .i64 t.dg, .bool t.bad]) := hC0.box
  have HW : Hid (Own 9 1 w n0 wa wc t.ws.length (t.ws.map strV)) := hC0.hw
  have HY : Hid (Own 5 1 w n0 ba bc t.word.length (t.word.map u8V)) := hC0.hb
  have HL : Hid (n0 ≤ w.heap.size) := hC0.hn
  have HWd : Hid (t.ws.length ≤ 1000000000000) := hws
  have HBd : Hid (t.word.length ≤ 1000000000000) := hbt
  have HK : Hid (Kept (Sg n0 g) w w) := Kept.refl _ _
  clear hC0 hws hbt
  go_enter Try.func21, Try.ntmps21
  have HS : Hid (endS t k = { t with ws := t.ws ++ [t.word], word := [], inn := k }) := rfl
  go_upto_region 0 with fail
  have HW : Hid (Own 9 1 w.drew n0 wa wc t.ws.length (t.ws.map strV)) := HW.out.no (Kept.refl No _).drew
  have HY : Hid (Own 5 1 w.drew n0 ba bc t.word.length (t.word.map u8V)) := HY.out.no (Kept.refl No _).drew
  have HK : Hid (Kept (Sg n0 g) w w.drew) := HK.out.drew
  have HB : Hid (Box w.drew g 46 #[.int .i64 (t.inn : Int), .slice ba t.word.length bc, .slice wa t.ws.length wc, .int .i64 t.dg, .bool t.bad]) := HB.out.kept (Kept.refl No _).drew (fun e => e)
  refine wp_region_held_drew (S := fun w' => w'.cell? ⟨g, 1, none⟩ = some (.slice ba t.word.length bc) ∧ Own 5 1 w' n0 ba bc t.word.length (t.word.map u8V)) rfl ⟨(HB.out.cell 1), HY.out⟩ (fun hH => ?_)
  generalize w.drew = wk1 at HW HY HK HB hH ⊢
  refine aT (i := 0) (oi := { dst := some 4, op := Op.move (Operand.tmp 0), type := 44, pos := "words.go:48", after := #[], guard := none }) (v := .pointer (some ⟨g, 0, none⟩)) (fun _ _ => by kernel_rfl) hH ?_
  try simp only [pA, pB, p1, p2, p3]
  refine aT (i := 1) (oi := { dst := some 5, op := Op.move (Operand.tmp 0), type := 44, pos := "words.go:48", after := #[], guard := none }) (v := .pointer (some ⟨g, 0, none⟩)) (fun _ _ => by kernel_rfl) hH ?_
  try simp only [pA, pB, p1, p2, p3]
  refine aT (i := 2) (oi := { dst := some 6, op := Op.nilCheck (Operand.tmp 5), type := 0, pos := "words.go:48", after := #[{ on := 1, ground := Ground.data }], guard := none }) (v := .pointer (some ⟨g, 0, none⟩)) (fun _ _ => by kernel_rfl) hH ?_
  try simp only [pA, pB, p1, p2, p3]
  refine aT (i := 3) (oi := { dst := some 7, op := Op.fieldAddr 46 (Operand.tmp 6) 2, type := 0, pos := "words.go:48", after := #[{ on := 2, ground := Ground.data }], guard := none }) (v := .pointer (some ⟨g, 2, none⟩)) (fun _ _ => by kernel_rfl) hH ?_
  try simp only [pA, pB, p1, p2, p3]
  refine aT (i := 5) (oi := { dst := some 9, op := Op.move (Operand.tmp 0), type := 44, pos := "words.go:48", after := #[], guard := none }) (v := .pointer (some ⟨g, 0, none⟩)) (fun _ _ => by kernel_rfl) hH ?_
  try simp only [pA, pB, p1, p2, p3]
  refine aT (i := 6) (oi := { dst := some 10, op := Op.nilCheck (Operand.tmp 9), type := 0, pos := "words.go:48", after := #[{ on := 5, ground := Ground.data }], guard := none }) (v := .pointer (some ⟨g, 0, none⟩)) (fun _ _ => by kernel_rfl) hH ?_
  try simp only [pA, pB, p1, p2, p3]
  refine aT (i := 7) (oi := { dst := some 11, op := Op.fieldAddr 46 (Operand.tmp 10) 1, type := 0, pos := "words.go:48", after := #[{ on := 6, ground := Ground.data }], guard := none }) (v := .pointer (some ⟨g, 1, none⟩)) (fun _ _ => by kernel_rfl) hH ?_
  try simp only [pA, pB, p1, p2, p3]
  refine aT (i := 8) (oi := { dst := some 12, op := Op.load 30 (Operand.tmp 11), type := 30, pos := "words.go:48", after := #[{ on := 7, ground := Ground.data }], guard := none }) (v := .slice ba t.word.length bc) (fun w' hw => exec_load 30 _ rfl ⟨g, 1, none⟩ (by kernel_rfl) (.slice ba t.word.length bc) (load_one hw.1 U30 rfl)) hH ?_
  try simp only [pA, pB, p1, p2, p3]
  refine aT (i := 9) (oi := { dst := some 13, op := Op.convert 30 9 (Operand.tmp 12), type := 9, pos := "words.go:48", after := #[{ on := 8, ground := Ground.data }], guard := none }) (v := .string (bs t.word)) (fun w' hw => exec_conv _ 30 9 rfl _ _ (by kernel_rfl) (run_conv (l := t.word) hw.2 (by simp))) hH ?_
  try simp only [pA, pB, p1, p2, p3]
  refine any_pick (rs := [4, 10]) (by kernel_rfl) (by simp) ?_
  intro i hi
  rcases pick2 hi with rfl | rfl
  ·skip
   clear hi
   refine step_run (i := 4) (o := { dst := some 8, op := Op.load 22 (Operand.tmp 7), type := 22, pos := "words.go:48", after := #[{ on := 3, ground := Ground.data }], guard := none }) (v := .slice wa t.ws.length wc) (w' := wk1) rfl (by kernel_rfl) (exec_load 22 _ rfl ⟨g, 2, none⟩ (by kernel_rfl) (.slice wa t.ws.length wc) (load_one (HB.out.cell 2) U22 rfl)) ⟨(HB.out.cell 1), HY.out⟩ (fun hH => ?_)
   try simp only [pA, pB, p1, p2, p3]
   have HW : Hid (Own 9 1 (wk1.alloc (.cells [.string (bs t.word)].toArray 9)) n0 wa wc t.ws.length (t.ws.map strV)) := HW.out.no ((Kept.refl No _).alloc _)
   have HY : Hid (Own 5 1 (wk1.alloc (.cells [.string (bs t.word)].toArray 9)) n0 ba bc t.word.length (t.word.map u8V)) := HY.out.no ((Kept.refl No _).alloc _)
   have HK : Hid (Kept (Sg n0 g) w (wk1.alloc (.cells [.string (bs t.word)].toArray 9))) := HK.out.alloc _
   have HB : Hid (Box (wk1.alloc (.cells [.string (bs t.word)].toArray 9)) g 46 #[.int .i64 (t.inn : Int), .slice ba t.word.length bc, .slice wa t.ws.length wc, .int .i64 t.dg, .bool t.bad]) := HB.out.alloc _
   have HX : Hid (Box (wk1.alloc (.cells [.string (bs t.word)].toArray 9)) wk1.heap.size 9 [.string (bs t.word)].toArray) := Box.new _ _ _
   refine any_step (i := 10) (o := { dst := some 14, op := Op.buildSlice 22 1 #[(0, Operand.tmp 13)], type := 22, pos := "words.go:48", after := #[{ on := 9, ground := Ground.data }], guard := none }) (v := .slice (some ⟨wk1.heap.size, 0, none⟩) 1 1) (w' := wk1.alloc (.cells [.string (bs t.word)].toArray 9)) rfl (by kernel_rfl) (by kernel_rfl) (exec_built (by kernel_rfl)) ⟨(HB.out.cell 1), HY.out⟩ (fun hH => ?_)
   try simp only [pA, pB, p1, p2, p3]
   generalize wk1.alloc (.cells [.string (bs t.word)].toArray 9) = wk2 at HW HY HK HX HB hH ⊢
   generalize wk1.heap.size = gk3 at HX ⊢
   obtain ⟨a_3, c_3, w_3, hrun, ho, hc⟩ := run_app 22 9 16 _ U22 I9 rfl HW.out 22 ⟨gk3, 0, none⟩ 1 1 [.string (bs t.word)] rfl (box_news HX.out) (by simp [Value.oneCell', strV, u8V]) (by have h2 := HBd.out; have h3 := HWd.out; omega) (by have h2 := HBd.out; have h3 := HWd.out; omega) (Nat.le_trans HL.out HK.out.size)
   clear HX
   have HY : Hid (Own 5 1 w_3 n0 ba bc t.word.length (t.word.map u8V)) := HY.out.kept hc (own_apart HY.out HW.out (by decide))
   have HK : Hid (Kept (Sg n0 g) w w_3) := HK.out.trans hc (fun _ e => e) (fun _ _ e => Or.inr (HW.out.base e))
   have HB : Hid (Box w_3 g 46 #[.int .i64 (t.inn : Int), .slice ba t.word.length bc, .slice wa t.ws.length wc, .int .i64 t.dg, .bool t.bad]) := HB.out.kept hc (HW.out.offBox HB.out (by decide))
   have HW : Hid (Own 9 1 w_3 n0 a_3 c_3 (t.ws.length + 1) (t.ws.map strV ++ [.string (bs t.word)])) := ho
   refine any_step (i := 11) (o := { dst := some 15, op := Op.call { callee := Callee.builtin Builtin.append, args := #[Operand.tmp 8, Operand.tmp 14], argTypes := #[22, 22] }, type := 22, pos := "words.go:48", after := #[{ on := 4, ground := Ground.data }, { on := 10, ground := Ground.data }], guard := none }) (v := .slice a_3 (t.ws.length + 1) c_3) (w' := w_3) rfl (by kernel_rfl) (by kernel_rfl) (exec_app _ _ 22 22 rfl _ _ _ (by kernel_rfl) (by kernel_rfl) hrun) ⟨(HB.out.cell 1), HY.out⟩ (fun hH => ?_)
   try simp only [pA, pB, p1, p2, p3]
   clear hrun ho hc
   refine aT (i := 12) (oi := { dst := some 16, op := Op.nilCheck (Operand.tmp 4), type := 0, pos := "words.go:48", after := #[{ on := 0, ground := Ground.data }, { on := 0, ground := Ground.phase }, { on := 1, ground := Ground.phase }, { on := 2, ground := Ground.phase }, { on := 3, ground := Ground.phase }, { on := 4, ground := Ground.phase }, { on := 5, ground := Ground.phase }, { on := 6, ground := Ground.phase }, { on := 7, ground := Ground.phase }, { on := 8, ground := Ground.phase }, { on := 9, ground := Ground.phase }, { on := 10, ground := Ground.phase }, { on := 11, ground := Ground.phase }], guard := none }) (v := .pointer (some ⟨g, 0, none⟩)) (fun _ _ => by kernel_rfl) hH ?_
   try simp only [pA, pB, p1, p2, p3]
   refine aT (i := 13) (oi := { dst := some 17, op := Op.fieldAddr 46 (Operand.tmp 16) 2, type := 0, pos := "words.go:48", after := #[{ on := 12, ground := Ground.data }, { on := 0, ground := Ground.phase }, { on := 1, ground := Ground.phase }, { on := 2, ground := Ground.phase }, { on := 3, ground := Ground.phase }, { on := 4, ground := Ground.phase }, { on := 5, ground := Ground.phase }, { on := 6, ground := Ground.phase }, { on := 7, ground := Ground.phase }, { on := 8, ground := Ground.phase }, { on := 9, ground := Ground.phase }, { on := 10, ground := Ground.phase }, { on := 11, ground := Ground.phase }], guard := none }) (v := .pointer (some ⟨g, 2, none⟩)) (fun _ _ => by kernel_rfl) hH ?_
   try simp only [pA, pB, p1, p2, p3]
   have hst : (storeVar 22 ⟨g, 2, none⟩ (.slice a_3 (t.ws.length + 1) c_3)).run Try.prog w_3 = .ok () (w_3.setRow g #[.int .i64 (t.inn : Int), .slice ba t.word.length bc, .slice a_3 (t.ws.length + 1) c_3, .int .i64 t.dg, .bool t.bad]) := run_store_to (cur := [.int .i64 (t.inn : Int), .slice ba t.word.length bc, .slice wa t.ws.length wc, .int .i64 t.dg, .bool t.bad]) (vs := [.slice a_3 (t.ws.length + 1) c_3]) (new := [.int .i64 (t.inn : Int), .slice ba t.word.length bc, .slice a_3 (t.ws.length + 1) c_3, .int .i64 t.dg, .bool t.bad]) HB.out (by kernel_rfl) S22 (Nat.le_of_ble_eq_true (by kernel_rfl)) (by simp [Value.oneCell', strV, u8V]) (by kernel_rfl)
   have HW : Hid (Own 9 1 (w_3.setRow g #[.int .i64 (t.inn : Int), .slice ba t.word.length bc, .slice a_3 (t.ws.length + 1) c_3, .int .i64 t.dg, .bool t.bad]) n0 a_3 c_3 (t.ws.length + 1) (t.ws.map strV ++ [.string (bs t.word)])) := HW.out.kept (Kept.setRow _ _ _) (HW.out.notBox HB.out (by decide))
   have HY : Hid (Own 5 1 (w_3.setRow g #[.int .i64 (t.inn : Int), .slice ba t.word.length bc, .slice a_3 (t.ws.length + 1) c_3, .int .i64 t.dg, .bool t.bad]) n0 ba bc t.word.length (t.word.map u8V)) := HY.out.kept (Kept.setRow _ _ _) (HY.out.notBox HB.out (by decide))
   have HK : Hid (Kept (Sg n0 g) w (w_3.setRow g #[.int .i64 (t.inn : Int), .slice ba t.word.length bc, .slice a_3 (t.ws.length + 1) c_3, .int .i64 t.dg, .bool t.bad])) := HK.out.inRow (S := Sg n0 g) (Or.inl rfl) _
   have HB : Hid (Box (w_3.setRow g #[.int .i64 (t.inn : Int), .slice ba t.word.length bc, .slice a_3 (t.ws.length + 1) c_3, .int .i64 t.dg, .bool t.bad]) g 46 #[.int .i64 (t.inn : Int), .slice ba t.word.length bc, .slice a_3 (t.ws.length + 1) c_3, .int .i64 t.dg, .bool t.bad]) := HB.out.setRow _
   refine any_store (i := 14) (o := { dst := none, op := Op.store 22 (Operand.tmp 17) (Operand.tmp 15), type := 0, pos := "words.go:48", after := #[{ on := 13, ground := Ground.data }, { on := 11, ground := Ground.data }, { on := 11, ground := Ground.chain }, { on := 0, ground := Ground.phase }, { on := 1, ground := Ground.phase }, { on := 2, ground := Ground.phase }, { on := 3, ground := Ground.phase }, { on := 4, ground := Ground.phase }, { on := 5, ground := Ground.phase }, { on := 6, ground := Ground.phase }, { on := 7, ground := Ground.phase }, { on := 8, ground := Ground.phase }, { on := 9, ground := Ground.phase }, { on := 10, ground := Ground.phase }, { on := 11, ground := Ground.phase }], guard := none }) (w' := w_3.setRow g #[.int .i64 (t.inn : Int), .slice ba t.word.length bc, .slice a_3 (t.ws.length + 1) c_3, .int .i64 t.dg, .bool t.bad]) rfl (by kernel_rfl) (by kernel_rfl) 22 _ _ rfl ⟨g, 2, none⟩ (.slice a_3 (t.ws.length + 1) c_3) (by kernel_rfl) (by kernel_rfl) hst ⟨(HB.out.cell 1), HY.out⟩ (fun hH => ?_)
   try simp only [pA, pB, p1, p2, p3]
   clear hst
   generalize w_3.setRow g #[.int .i64 (t.inn : Int), .slice ba t.word.length bc, .slice a_3 (t.ws.length + 1) c_3, .int .i64 t.dg, .bool t.bad] = wk5 at HW HY HK HB hH ⊢
   refine wpAnyH_done (by kernel_rfl) ?_ _
   try simp only [pA, pB, p1, p2, p3]
   clear hH
   go_upto_region 1 with fail
   refine WL.start ?_
   refine tK (.pointer (some ⟨g, 0, none⟩)) ?_
   try simp only [pA, pB, p1, p2, p3]
   refine tK (.pointer (some ⟨g, 0, none⟩)) ?_
   try simp only [pA, pB, p1, p2, p3]
   refine tK (.pointer (some ⟨g, 1, none⟩)) ?_
   try simp only [pA, pB, p1, p2, p3]
   have hst : (storeVar 30 ⟨g, 1, none⟩ (.slice none 0 0)).run Try.prog wk5 = .ok () (wk5.setRow g #[.int .i64 (t.inn : Int), .slice none 0 0, .slice a_3 (t.ws.length + 1) c_3, .int .i64 t.dg, .bool t.bad]) := run_store_to (cur := [.int .i64 (t.inn : Int), .slice ba t.word.length bc, .slice a_3 (t.ws.length + 1) c_3, .int .i64 t.dg, .bool t.bad]) (vs := [.slice none 0 0]) (new := [.int .i64 (t.inn : Int), .slice none 0 0, .slice a_3 (t.ws.length + 1) c_3, .int .i64 t.dg, .bool t.bad]) HB.out (by kernel_rfl) S30 (Nat.le_of_ble_eq_true (by kernel_rfl)) (by simp [Value.oneCell', strV, u8V]) (by kernel_rfl)
   have HW : Hid (Own 9 1 (wk5.setRow g #[.int .i64 (t.inn : Int), .slice none 0 0, .slice a_3 (t.ws.length + 1) c_3, .int .i64 t.dg, .bool t.bad]) n0 a_3 c_3 (t.ws.length + 1) (t.ws.map strV ++ [.string (bs t.word)])) := HW.out.kept (Kept.setRow _ _ _) (HW.out.notBox HB.out (by decide))
   have HY : Hid (Own 5 1 (wk5.setRow g #[.int .i64 (t.inn : Int), .slice none 0 0, .slice a_3 (t.ws.length + 1) c_3, .int .i64 t.dg, .bool t.bad]) n0 ba bc t.word.length (t.word.map u8V)) := HY.out.kept (Kept.setRow _ _ _) (HY.out.notBox HB.out (by decide))
   have HK : Hid (Kept (Sg n0 g) w (wk5.setRow g #[.int .i64 (t.inn : Int), .slice none 0 0, .slice a_3 (t.ws.length + 1) c_3, .int .i64 t.dg, .bool t.bad])) := HK.out.inRow (S := Sg n0 g) (Or.inl rfl) _
   have HB : Hid (Box (wk5.setRow g #[.int .i64 (t.inn : Int), .slice none 0 0, .slice a_3 (t.ws.length + 1) c_3, .int .i64 t.dg, .bool t.bad]) g 46 #[.int .i64 (t.inn : Int), .slice none 0 0, .slice a_3 (t.ws.length + 1) c_3, .int .i64 t.dg, .bool t.bad]) := HB.out.setRow _
   refine wp_storeW 30 _ _ rfl ⟨g, 1, none⟩ (.slice none 0 0) (by kernel_rfl) (by kernel_rfl) (wk5.setRow g #[.int .i64 (t.inn : Int), .slice none 0 0, .slice a_3 (t.ws.length + 1) c_3, .int .i64 t.dg, .bool t.bad]) hst (by kernel_rfl) ?_
   try simp only [pA, pB, p1, p2, p3]
   clear hst
   generalize wk5.setRow g #[.int .i64 (t.inn : Int), .slice none 0 0, .slice a_3 (t.ws.length + 1) c_3, .int .i64 t.dg, .bool t.bad] = wk6 at HW HY HK HB ⊢
   refine WL.nil ?_
   try simp only [pA, pB, p1, p2, p3]
   go_upto_region 2 with fail
   refine WL.start ?_
   refine tK (.pointer (some ⟨g, 0, none⟩)) ?_
   try simp only [pA, pB, p1, p2, p3]
   refine tK (.int .i64 (k : Int)) ?_
   try simp only [pA, pB, p1, p2, p3]
   refine tK (.pointer (some ⟨g, 0, none⟩)) ?_
   try simp only [pA, pB, p1, p2, p3]
   refine tK (.pointer (some ⟨g, 0, none⟩)) ?_
   try simp only [pA, pB, p1, p2, p3]
   have hst : (storeVar 3 ⟨g, 0, none⟩ (.int .i64 (k : Int))).run Try.prog wk6 = .ok () (wk6.setRow g #[.int .i64 (k : Int), .slice none 0 0, .slice a_3 (t.ws.length + 1) c_3, .int .i64 t.dg, .bool t.bad]) := run_store_to (cur := [.int .i64 (t.inn : Int), .slice none 0 0, .slice a_3 (t.ws.length + 1) c_3, .int .i64 t.dg, .bool t.bad]) (vs := [.int .i64 (k : Int)]) (new := [.int .i64 (k : Int), .slice none 0 0, .slice a_3 (t.ws.length + 1) c_3, .int .i64 t.dg, .bool t.bad]) HB.out (by kernel_rfl) S3 (Nat.le_of_ble_eq_true (by kernel_rfl)) (by simp [Value.oneCell', strV, u8V]) (by kernel_rfl)
   have HW : Hid (Own 9 1 (wk6.setRow g #[.int .i64 (k : Int), .slice none 0 0, .slice a_3 (t.ws.length + 1) c_3, .int .i64 t.dg, .bool t.bad]) n0 a_3 c_3 (t.ws.length + 1) (t.ws.map strV ++ [.string (bs t.word)])) := HW.out.kept (Kept.setRow _ _ _) (HW.out.notBox HB.out (by decide))
   have HY : Hid (Own 5 1 (wk6.setRow g #[.int .i64 (k : Int), .slice none 0 0, .slice a_3 (t.ws.length + 1) c_3, .int .i64 t.dg, .bool t.bad]) n0 ba bc t.word.length (t.word.map u8V)) := HY.out.kept (Kept.setRow _ _ _) (HY.out.notBox HB.out (by decide))
   have HK : Hid (Kept (Sg n0 g) w (wk6.setRow g #[.int .i64 (k : Int), .slice none 0 0, .slice a_3 (t.ws.length + 1) c_3, .int .i64 t.dg, .bool t.bad])) := HK.out.inRow (S := Sg n0 g) (Or.inl rfl) _
   have HB : Hid (Box (wk6.setRow g #[.int .i64 (k : Int), .slice none 0 0, .slice a_3 (t.ws.length + 1) c_3, .int .i64 t.dg, .bool t.bad]) g 46 #[.int .i64 (k : Int), .slice none 0 0, .slice a_3 (t.ws.length + 1) c_3, .int .i64 t.dg, .bool t.bad]) := HB.out.setRow _
   refine wp_storeW 3 _ _ rfl ⟨g, 0, none⟩ (.int .i64 (k : Int)) (by kernel_rfl) (by kernel_rfl) (wk6.setRow g #[.int .i64 (k : Int), .slice none 0 0, .slice a_3 (t.ws.length + 1) c_3, .int .i64 t.dg, .bool t.bad]) hst (by kernel_rfl) ?_
   try simp only [pA, pB, p1, p2, p3]
   clear hst
   generalize wk6.setRow g #[.int .i64 (k : Int), .slice none 0 0, .slice a_3 (t.ws.length + 1) c_3, .int .i64 t.dg, .bool t.bad] = wk7 at HW HY HK HB ⊢
   refine WL.nil ?_
   try simp only [pA, pB, p1, p2, p3]
   go_wp2
   go_end0
   rw [HC.out]
   exact ⟨rfl, by rw [HS.out]; exact RdA.of _ HB.out HW.out (Own.nil _ _ _ _) (Nat.le_trans HL.out HK.out.size) (by simp) (by simp [strV]) (by simp) (by simp) (by simp) (by simp [u8V, bi]) (by simp), HK.out⟩
  ·skip
   clear hi
   have HW : Hid (Own 9 1 (wk1.alloc (.cells [.string (bs t.word)].toArray 9)) n0 wa wc t.ws.length (t.ws.map strV)) := HW.out.no ((Kept.refl No _).alloc _)
   have HY : Hid (Own 5 1 (wk1.alloc (.cells [.string (bs t.word)].toArray 9)) n0 ba bc t.word.length (t.word.map u8V)) := HY.out.no ((Kept.refl No _).alloc _)
   have HK : Hid (Kept (Sg n0 g) w (wk1.alloc (.cells [.string (bs t.word)].toArray 9))) := HK.out.alloc _
   have HB : Hid (Box (wk1.alloc (.cells [.string (bs t.word)].toArray 9)) g 46 #[.int .i64 (t.inn : Int), .slice ba t.word.length bc, .slice wa t.ws.length wc, .int .i64 t.dg, .bool t.bad]) := HB.out.alloc _
   have HX : Hid (Box (wk1.alloc (.cells [.string (bs t.word)].toArray 9)) wk1.heap.size 9 [.string (bs t.word)].toArray) := Box.new _ _ _
   refine step_run (i := 10) (o := { dst := some 14, op := Op.buildSlice 22 1 #[(0, Operand.tmp 13)], type := 22, pos := "words.go:48", after := #[{ on := 9, ground := Ground.data }], guard := none }) (v := .slice (some ⟨wk1.heap.size, 0, none⟩) 1 1) (w' := wk1.alloc (.cells [.string (bs t.word)].toArray 9)) rfl (by kernel_rfl) (exec_built (by kernel_rfl)) ⟨(HB.out.cell 1), HY.out⟩ (fun hH => ?_)
   try simp only [pA, pB, p1, p2, p3]
   generalize wk1.alloc (.cells [.string (bs t.word)].toArray 9) = wk8 at HW HY HK HX HB hH ⊢
   generalize wk1.heap.size = gk9 at HX ⊢
   refine any_step (i := 4) (o := { dst := some 8, op := Op.load 22 (Operand.tmp 7), type := 22, pos := "words.go:48", after := #[{ on := 3, ground := Ground.data }], guard := none }) (v := .slice wa t.ws.length wc) (w' := wk8) rfl (by kernel_rfl) (by kernel_rfl) (exec_load 22 _ rfl ⟨g, 2, none⟩ (by kernel_rfl) (.slice wa t.ws.length wc) (load_one (HB.out.cell 2) U22 rfl)) ⟨(HB.out.cell 1), HY.out⟩ (fun hH => ?_)
   try simp only [pA, pB, p1, p2, p3]
   obtain ⟨a_9, c_9, w_9, hrun, ho, hc⟩ := run_app 22 9 16 _ U22 I9 rfl HW.out 22 ⟨gk9, 0, none⟩ 1 1 [.string (bs t.word)] rfl (box_news HX.out) (by simp [Value.oneCell', strV, u8V]) (by have h2 := HBd.out; have h3 := HWd.out; omega) (by have h2 := HBd.out; have h3 := HWd.out; omega) (Nat.le_trans HL.out HK.out.size)
   clear HX
   have HY : Hid (Own 5 1 w_9 n0 ba bc t.word.length (t.word.map u8V)) := HY.out.kept hc (own_apart HY.out HW.out (by decide))
   have HK : Hid (Kept (Sg n0 g) w w_9) := HK.out.trans hc (fun _ e => e) (fun _ _ e => Or.inr (HW.out.base e))
   have HB : Hid (Box w_9 g 46 #[.int .i64 (t.inn : Int), .slice ba t.word.length bc, .slice wa t.ws.length wc, .int .i64 t.dg, .bool t.bad]) := HB.out.kept hc (HW.out.offBox HB.out (by decide))
   have HW : Hid (Own 9 1 w_9 n0 a_9 c_9 (t.ws.length + 1) (t.ws.map strV ++ [.string (bs t.word)])) := ho
   refine any_step (i := 11) (o := { dst := some 15, op := Op.call { callee := Callee.builtin Builtin.append, args := #[Operand.tmp 8, Operand.tmp 14], argTypes := #[22, 22] }, type := 22, pos := "words.go:48", after := #[{ on := 4, ground := Ground.data }, { on := 10, ground := Ground.data }], guard := none }) (v := .slice a_9 (t.ws.length + 1) c_9) (w' := w_9) rfl (by kernel_rfl) (by kernel_rfl) (exec_app _ _ 22 22 rfl _ _ _ (by kernel_rfl) (by kernel_rfl) hrun) ⟨(HB.out.cell 1), HY.out⟩ (fun hH => ?_)
   try simp only [pA, pB, p1, p2, p3]
   clear hrun ho hc
   refine aT (i := 12) (oi := { dst := some 16, op := Op.nilCheck (Operand.tmp 4), type := 0, pos := "words.go:48", after := #[{ on := 0, ground := Ground.data }, { on := 0, ground := Ground.phase }, { on := 1, ground := Ground.phase }, { on := 2, ground := Ground.phase }, { on := 3, ground := Ground.phase }, { on := 4, ground := Ground.phase }, { on := 5, ground := Ground.phase }, { on := 6, ground := Ground.phase }, { on := 7, ground := Ground.phase }, { on := 8, ground := Ground.phase }, { on := 9, ground := Ground.phase }, { on := 10, ground := Ground.phase }, { on := 11, ground := Ground.phase }], guard := none }) (v := .pointer (some ⟨g, 0, none⟩)) (fun _ _ => by kernel_rfl) hH ?_
   try simp only [pA, pB, p1, p2, p3]
   refine aT (i := 13) (oi := { dst := some 17, op := Op.fieldAddr 46 (Operand.tmp 16) 2, type := 0, pos := "words.go:48", after := #[{ on := 12, ground := Ground.data }, { on := 0, ground := Ground.phase }, { on := 1, ground := Ground.phase }, { on := 2, ground := Ground.phase }, { on := 3, ground := Ground.phase }, { on := 4, ground := Ground.phase }, { on := 5, ground := Ground.phase }, { on := 6, ground := Ground.phase }, { on := 7, ground := Ground.phase }, { on := 8, ground := Ground.phase }, { on := 9, ground := Ground.phase }, { on := 10, ground := Ground.phase }, { on := 11, ground := Ground.phase }], guard := none }) (v := .pointer (some ⟨g, 2, none⟩)) (fun _ _ => by kernel_rfl) hH ?_
   try simp only [pA, pB, p1, p2, p3]
   have hst : (storeVar 22 ⟨g, 2, none⟩ (.slice a_9 (t.ws.length + 1) c_9)).run Try.prog w_9 = .ok () (w_9.setRow g #[.int .i64 (t.inn : Int), .slice ba t.word.length bc, .slice a_9 (t.ws.length + 1) c_9, .int .i64 t.dg, .bool t.bad]) := run_store_to (cur := [.int .i64 (t.inn : Int), .slice ba t.word.length bc, .slice wa t.ws.length wc, .int .i64 t.dg, .bool t.bad]) (vs := [.slice a_9 (t.ws.length + 1) c_9]) (new := [.int .i64 (t.inn : Int), .slice ba t.word.length bc, .slice a_9 (t.ws.length + 1) c_9, .int .i64 t.dg, .bool t.bad]) HB.out (by kernel_rfl) S22 (Nat.le_of_ble_eq_true (by kernel_rfl)) (by simp [Value.oneCell', strV, u8V]) (by kernel_rfl)
   have HW : Hid (Own 9 1 (w_9.setRow g #[.int .i64 (t.inn : Int), .slice ba t.word.length bc, .slice a_9 (t.ws.length + 1) c_9, .int .i64 t.dg, .bool t.bad]) n0 a_9 c_9 (t.ws.length + 1) (t.ws.map strV ++ [.string (bs t.word)])) := HW.out.kept (Kept.setRow _ _ _) (HW.out.notBox HB.out (by decide))
   have HY : Hid (Own 5 1 (w_9.setRow g #[.int .i64 (t.inn : Int), .slice ba t.word.length bc, .slice a_9 (t.ws.length + 1) c_9, .int .i64 t.dg, .bool t.bad]) n0 ba bc t.word.length (t.word.map u8V)) := HY.out.kept (Kept.setRow _ _ _) (HY.out.notBox HB.out (by decide))
   have HK : Hid (Kept (Sg n0 g) w (w_9.setRow g #[.int .i64 (t.inn : Int), .slice ba t.word.length bc, .slice a_9 (t.ws.length + 1) c_9, .int .i64 t.dg, .bool t.bad])) := HK.out.inRow (S := Sg n0 g) (Or.inl rfl) _
   have HB : Hid (Box (w_9.setRow g #[.int .i64 (t.inn : Int), .slice ba t.word.length bc, .slice a_9 (t.ws.length + 1) c_9, .int .i64 t.dg, .bool t.bad]) g 46 #[.int .i64 (t.inn : Int), .slice ba t.word.length bc, .slice a_9 (t.ws.length + 1) c_9, .int .i64 t.dg, .bool t.bad]) := HB.out.setRow _
   refine any_store (i := 14) (o := { dst := none, op := Op.store 22 (Operand.tmp 17) (Operand.tmp 15), type := 0, pos := "words.go:48", after := #[{ on := 13, ground := Ground.data }, { on := 11, ground := Ground.data }, { on := 11, ground := Ground.chain }, { on := 0, ground := Ground.phase }, { on := 1, ground := Ground.phase }, { on := 2, ground := Ground.phase }, { on := 3, ground := Ground.phase }, { on := 4, ground := Ground.phase }, { on := 5, ground := Ground.phase }, { on := 6, ground := Ground.phase }, { on := 7, ground := Ground.phase }, { on := 8, ground := Ground.phase }, { on := 9, ground := Ground.phase }, { on := 10, ground := Ground.phase }, { on := 11, ground := Ground.phase }], guard := none }) (w' := w_9.setRow g #[.int .i64 (t.inn : Int), .slice ba t.word.length bc, .slice a_9 (t.ws.length + 1) c_9, .int .i64 t.dg, .bool t.bad]) rfl (by kernel_rfl) (by kernel_rfl) 22 _ _ rfl ⟨g, 2, none⟩ (.slice a_9 (t.ws.length + 1) c_9) (by kernel_rfl) (by kernel_rfl) hst ⟨(HB.out.cell 1), HY.out⟩ (fun hH => ?_)
   try simp only [pA, pB, p1, p2, p3]
   clear hst
   generalize w_9.setRow g #[.int .i64 (t.inn : Int), .slice ba t.word.length bc, .slice a_9 (t.ws.length + 1) c_9, .int .i64 t.dg, .bool t.bad] = wk11 at HW HY HK HB hH ⊢
   refine wpAnyH_done (by kernel_rfl) ?_ _
   try simp only [pA, pB, p1, p2, p3]
   clear hH
   go_upto_region 1 with fail
   refine WL.start ?_
   refine tK (.pointer (some ⟨g, 0, none⟩)) ?_
   try simp only [pA, pB, p1, p2, p3]
   refine tK (.pointer (some ⟨g, 0, none⟩)) ?_
   try simp only [pA, pB, p1, p2, p3]
   refine tK (.pointer (some ⟨g, 1, none⟩)) ?_
   try simp only [pA, pB, p1, p2, p3]
   have hst : (storeVar 30 ⟨g, 1, none⟩ (.slice none 0 0)).run Try.prog wk11 = .ok () (wk11.setRow g #[.int .i64 (t.inn : Int), .slice none 0 0, .slice a_9 (t.ws.length + 1) c_9, .int .i64 t.dg, .bool t.bad]) := run_store_to (cur := [.int .i64 (t.inn : Int), .slice ba t.word.length bc, .slice a_9 (t.ws.length + 1) c_9, .int .i64 t.dg, .bool t.bad]) (vs := [.slice none 0 0]) (new := [.int .i64 (t.inn : Int), .slice none 0 0, .slice a_9 (t.ws.length + 1) c_9, .int .i64 t.dg, .bool t.bad]) HB.out (by kernel_rfl) S30 (Nat.le_of_ble_eq_true (by kernel_rfl)) (by simp [Value.oneCell', strV, u8V]) (by kernel_rfl)
   have HW : Hid (Own 9 1 (wk11.setRow g #[.int .i64 (t.inn : Int), .slice none 0 0, .slice a_9 (t.ws.length + 1) c_9, .int .i64 t.dg, .bool t.bad]) n0 a_9 c_9 (t.ws.length + 1) (t.ws.map strV ++ [.string (bs t.word)])) := HW.out.kept (Kept.setRow _ _ _) (HW.out.notBox HB.out (by decide))
   have HY : Hid (Own 5 1 (wk11.setRow g #[.int .i64 (t.inn : Int), .slice none 0 0, .slice a_9 (t.ws.length + 1) c_9, .int .i64 t.dg, .bool t.bad]) n0 ba bc t.word.length (t.word.map u8V)) := HY.out.kept (Kept.setRow _ _ _) (HY.out.notBox HB.out (by decide))
   have HK : Hid (Kept (Sg n0 g) w (wk11.setRow g #[.int .i64 (t.inn : Int), .slice none 0 0, .slice a_9 (t.ws.length + 1) c_9, .int .i64 t.dg, .bool t.bad])) := HK.out.inRow (S := Sg n0 g) (Or.inl rfl) _
   have HB : Hid (Box (wk11.setRow g #[.int .i64 (t.inn : Int), .slice none 0 0, .slice a_9 (t.ws.length + 1) c_9, .int .i64 t.dg, .bool t.bad]) g 46 #[.int .i64 (t.inn : Int), .slice none 0 0, .slice a_9 (t.ws.length + 1) c_9, .int .i64 t.dg, .bool t.bad]) := HB.out.setRow _
   refine wp_storeW 30 _ _ rfl ⟨g, 1, none⟩ (.slice none 0 0) (by kernel_rfl) (by kernel_rfl) (wk11.setRow g #[.int .i64 (t.inn : Int), .slice none 0 0, .slice a_9 (t.ws.length + 1) c_9, .int .i64 t.dg, .bool t.bad]) hst (by kernel_rfl) ?_
   try simp only [pA, pB, p1, p2, p3]
   clear hst
   generalize wk11.setRow g #[.int .i64 (t.inn : Int), .slice none 0 0, .slice a_9 (t.ws.length + 1) c_9, .int .i64 t.dg, .bool t.bad] = wk12 at HW HY HK HB ⊢
   refine WL.nil ?_
   try simp only [pA, pB, p1, p2, p3]
   go_upto_region 2 with fail
   refine WL.start ?_
   refine tK (.pointer (some ⟨g, 0, none⟩)) ?_
   try simp only [pA, pB, p1, p2, p3]
   refine tK (.int .i64 (k : Int)) ?_
   try simp only [pA, pB, p1, p2, p3]
   refine tK (.pointer (some ⟨g, 0, none⟩)) ?_
   try simp only [pA, pB, p1, p2, p3]
   refine tK (.pointer (some ⟨g, 0, none⟩)) ?_
   try simp only [pA, pB, p1, p2, p3]
   have hst : (storeVar 3 ⟨g, 0, none⟩ (.int .i64 (k : Int))).run Try.prog wk12 = .ok () (wk12.setRow g #[.int .i64 (k : Int), .slice none 0 0, .slice a_9 (t.ws.length + 1) c_9, .int .i64 t.dg, .bool t.bad]) := run_store_to (cur := [.int .i64 (t.inn : Int), .slice none 0 0, .slice a_9 (t.ws.length + 1) c_9, .int .i64 t.dg, .bool t.bad]) (vs := [.int .i64 (k : Int)]) (new := [.int .i64 (k : Int), .slice none 0 0, .slice a_9 (t.ws.length + 1) c_9, .int .i64 t.dg, .bool t.bad]) HB.out (by kernel_rfl) S3 (Nat.le_of_ble_eq_true (by kernel_rfl)) (by simp [Value.oneCell', strV, u8V]) (by kernel_rfl)
   have HW : Hid (Own 9 1 (wk12.setRow g #[.int .i64 (k : Int), .slice none 0 0, .slice a_9 (t.ws.length + 1) c_9, .int .i64 t.dg, .bool t.bad]) n0 a_9 c_9 (t.ws.length + 1) (t.ws.map strV ++ [.string (bs t.word)])) := HW.out.kept (Kept.setRow _ _ _) (HW.out.notBox HB.out (by decide))
   have HY : Hid (Own 5 1 (wk12.setRow g #[.int .i64 (k : Int), .slice none 0 0, .slice a_9 (t.ws.length + 1) c_9, .int .i64 t.dg, .bool t.bad]) n0 ba bc t.word.length (t.word.map u8V)) := HY.out.kept (Kept.setRow _ _ _) (HY.out.notBox HB.out (by decide))
   have HK : Hid (Kept (Sg n0 g) w (wk12.setRow g #[.int .i64 (k : Int), .slice none 0 0, .slice a_9 (t.ws.length + 1) c_9, .int .i64 t.dg, .bool t.bad])) := HK.out.inRow (S := Sg n0 g) (Or.inl rfl) _
   have HB : Hid (Box (wk12.setRow g #[.int .i64 (k : Int), .slice none 0 0, .slice a_9 (t.ws.length + 1) c_9, .int .i64 t.dg, .bool t.bad]) g 46 #[.int .i64 (k : Int), .slice none 0 0, .slice a_9 (t.ws.length + 1) c_9, .int .i64 t.dg, .bool t.bad]) := HB.out.setRow _
   refine wp_storeW 3 _ _ rfl ⟨g, 0, none⟩ (.int .i64 (k : Int)) (by kernel_rfl) (by kernel_rfl) (wk12.setRow g #[.int .i64 (k : Int), .slice none 0 0, .slice a_9 (t.ws.length + 1) c_9, .int .i64 t.dg, .bool t.bad]) hst (by kernel_rfl) ?_
   try simp only [pA, pB, p1, p2, p3]
   clear hst
   generalize wk12.setRow g #[.int .i64 (k : Int), .slice none 0 0, .slice a_9 (t.ws.length + 1) c_9, .int .i64 t.dg, .bool t.bad] = wk13 at HW HY HK HB ⊢
   refine WL.nil ?_
   try simp only [pA, pB, p1, p2, p3]
   go_wp2
   go_end0
   rw [HC.out]
   exact ⟨rfl, by rw [HS.out]; exact RdA.of _ HB.out HW.out (Own.nil _ _ _ _) (Nat.le_trans HL.out HK.out.size) (by simp) (by simp [strV]) (by simp) (by simp) (by simp) (by simp [u8V, bi]) (by simp), HK.out⟩
set_option maxRecDepth 100000 in
set_option maxHeartbeats 4000000 in
theorem esc_s (n0 g : Nat) (t : St) (c : UInt8) (w : World) (hcut : RdA n0 w g t) (hws : t.ws.length ≤ 1000000000000) (hbt : t.word.length ≤ 1000000000000) (h92 : bi c = 92)  : Calls Try.prog 24 #[.pointer (some ⟨g, 0, none⟩), .int .u8 (bi c)] w (PostR n0 g (escS t c) w) := by
  obtain ⟨C, hC⟩ : ∃ C : Ending → World → Prop, C = (PostR n0 g (escS t c) w) := ⟨_, rfl⟩
  have HC : Hid (C = (PostR n0 g (escS t c) w)) := hC
  rw [← hC]
  clear hC
  have HS : Hid (escS t c = { t with inn := 2, word := t.word ++ [c] }) := by show _ = _; unfold escS; simp [h92]
  have e92 : (bi c == 92) = true := by simp [h92]
  clear h92
  obtain ⟨wa, wc, ba, bc, hC0⟩ := hcut
  have HB : Hid (Box w g 46 #[.int .i64 (t.inn : Int), .slice ba t.word.length bc, .slice wa t.ws.length wc, .int .i64 t.dg, .bool t.bad]) := hC0.box
  have HW : Hid (Own 9 1 w n0 wa wc t.ws.length (t.ws.map strV)) := hC0.hw
  have HY : Hid (Own 5 1 w n0 ba bc t.word.length (t.word.map u8V)) := hC0.hb
  have HL : Hid (n0 ≤ w.heap.size) := hC0.hn
  have HWd : Hid (t.ws.length ≤ 1000000000000) := hws
  have HBd : Hid (t.word.length ≤ 1000000000000) := hbt
  have HK : Hid (Kept (Sg n0 g) w w) := Kept.refl _ _
  clear hC0 hws hbt
  go_enter Try.func24, Try.ntmps24
  go_upto_region 0 with fail
  refine WL.start ?_
  refine tK (.pointer (some ⟨g, 0, none⟩)) ?_
  try simp only [pA, pB, p1, p2, p3]
  refine tK (.pointer (some ⟨g, 0, none⟩)) ?_
  try simp only [pA, pB, p1, p2, p3]
  refine tK (.pointer (some ⟨g, 0, none⟩)) ?_
  try simp only [pA, pB, p1, p2, p3]
  have hst : (storeVar 3 ⟨g, 0, none⟩ (.int .i64 2)).run Try.prog w = .ok () (w.setRow g #[.int .i64 2, .slice ba t.word.length bc, .slice wa t.ws.length wc, .int .i64 t.dg, .bool t.bad]) := run_store_to (cur := [.int .i64 (t.inn : Int), .slice ba t.word.length bc, .slice wa t.ws.length wc, .int .i64 t.dg, .bool t.bad]) (vs := [.int .i64 2]) (new := [.int .i64 2, .slice ba t.word.length bc, .slice wa t.ws.length wc, .int .i64 t.dg, .bool t.bad]) HB.out (by kernel_rfl) S3 (Nat.le_of_ble_eq_true (by kernel_rfl)) (by simp [Value.oneCell', strV, u8V]) (by kernel_rfl)
  have HW : Hid (Own 9 1 (w.setRow g #[.int .i64 2, .slice ba t.word.length bc, .slice wa t.ws.length wc, .int .i64 t.dg, .bool t.bad]) n0 wa wc t.ws.length (t.ws.map strV)) := HW.out.kept (Kept.setRow _ _ _) (HW.out.notBox HB.out (by decide))
  have HY : Hid (Own 5 1 (w.setRow g #[.int .i64 2, .slice ba t.word.length bc, .slice wa t.ws.length wc, .int .i64 t.dg, .bool t.bad]) n0 ba bc t.word.length (t.word.map u8V)) := HY.out.kept (Kept.setRow _ _ _) (HY.out.notBox HB.out (by decide))
  have HK : Hid (Kept (Sg n0 g) w (w.setRow g #[.int .i64 2, .slice ba t.word.length bc, .slice wa t.ws.length wc, .int .i64 t.dg, .bool t.bad])) := HK.out.inRow (S := Sg n0 g) (Or.inl rfl) _
  have HB : Hid (Box (w.setRow g #[.int .i64 2, .slice ba t.word.length bc, .slice wa t.ws.length wc, .int .i64 t.dg, .bool t.bad]) g 46 #[.int .i64 2, .slice ba t.word.length bc, .slice wa t.ws.length wc, .int .i64 t.dg, .bool t.bad]) := HB.out.setRow _
  refine wp_storeW 3 _ _ rfl ⟨g, 0, none⟩ (.int .i64 2) (by kernel_rfl) (by kernel_rfl) (w.setRow g #[.int .i64 2, .slice ba t.word.length bc, .slice wa t.ws.length wc, .int .i64 t.dg, .bool t.bad]) hst (by kernel_rfl) ?_
  try simp only [pA, pB, p1, p2, p3]
  clear hst
  generalize w.setRow g #[.int .i64 2, .slice ba t.word.length bc, .slice wa t.ws.length wc, .int .i64 t.dg, .bool t.bad] = wk1 at HW HY HK HB ⊢
  refine WL.nil ?_
  try simp only [pA, pB, p1, p2, p3]
  go_upto_region 1 with fail
  refine WL.start ?_
  refine tK (.int .u8 (bi c)) ?_
  try simp only [pA, pB, p1, p2, p3]
  refine WL.nil ?_
  try simp only [pA, pB, p1, p2, p3]
  go_upto_region 3 with fail
  refine WL.start ?_
  refine tW (.bool true) (exec_bin .eql 5 _ _ _ rfl (.int .u8 (bi c)) (.int .u8 92) (.bool true) (by kernel_rfl) (by kernel_rfl) (by kernel_rfl) (by rw [b_eq5, e92])) ?_
  try simp only [pA, pB, p1, p2, p3]
  refine tK (.bool true) ?_
  try simp only [pA, pB, p1, p2, p3]
  refine WL.nil ?_
  try simp only [pA, pB, p1, p2, p3]
  go_upto_region 5 with fail
  refine WL.start ?_
  refine tK (.pointer (some ⟨g, 0, none⟩)) ?_
  try simp only [pA, pB, p1, p2, p3]
  refine tK (.pointer (some ⟨g, 0, none⟩)) ?_
  try simp only [pA, pB, p1, p2, p3]
  refine tK (.pointer (some ⟨g, 0, none⟩)) ?_
  try simp only [pA, pB, p1, p2, p3]
  refine tK (.pointer (some ⟨g, 1, none⟩)) ?_
  try simp only [pA, pB, p1, p2, p3]
  refine tW (.slice ba t.word.length bc) (exec_load 30 _ rfl ⟨g, 1, none⟩ (by kernel_rfl) (.slice ba t.word.length bc) (load_one (HB.out.cell 1) U30 rfl)) ?_
  try simp only [pA, pB, p1, p2, p3]
  refine tK (.int .u8 (bi c)) ?_
  try simp only [pA, pB, p1, p2, p3]
  have HW : Hid (Own 9 1 (wk1.alloc (.cells [.int .u8 (bi c)].toArray 5)) n0 wa wc t.ws.length (t.ws.map strV)) := HW.out.no ((Kept.refl No _).alloc _)
  have HY : Hid (Own 5 1 (wk1.alloc (.cells [.int .u8 (bi c)].toArray 5)) n0 ba bc t.word.length (t.word.map u8V)) := HY.out.no ((Kept.refl No _).alloc _)
  have HK : Hid (Kept (Sg n0 g) w (wk1.alloc (.cells [.int .u8 (bi c)].toArray 5))) := HK.out.alloc _
  have HB : Hid (Box (wk1.alloc (.cells [.int .u8 (bi c)].toArray 5)) g 46 #[.int .i64 2, .slice ba t.word.length bc, .slice wa t.ws.length wc, .int .i64 t.dg, .bool t.bad]) := HB.out.alloc _
  have HX : Hid (Box (wk1.alloc (.cells [.int .u8 (bi c)].toArray 5)) wk1.heap.size 5 [.int .u8 (bi c)].toArray) := Box.new _ _ _
  refine wp_runW (.slice (some ⟨wk1.heap.size, 0, none⟩) 1 1) (wk1.alloc (.cells [.int .u8 (bi c)].toArray 5)) (exec_built (by kernel_rfl)) (by kernel_rfl) ?_
  try simp only [pA, pB, p1, p2, p3]
  generalize wk1.alloc (.cells [.int .u8 (bi c)].toArray 5) = wk2 at HW HY HK HX HB ⊢
  generalize wk1.heap.size = gk3 at HX ⊢
  obtain ⟨a_3, c_3, w_3, hrun, ho, hc⟩ := run_app 30 5 1 _ U30 I5 rfl HY.out 30 ⟨gk3, 0, none⟩ 1 1 [.int .u8 (bi c)] rfl (box_news HX.out) (by simp [Value.oneCell', strV, u8V]) (by have h2 := HBd.out; have h3 := HWd.out; omega) (by have h2 := HBd.out; have h3 := HWd.out; omega) (Nat.le_trans HL.out HK.out.size)
  clear HX
  have HW : Hid (Own 9 1 w_3 n0 wa wc t.ws.length (t.ws.map strV)) := HW.out.kept hc (own_apart HW.out HY.out (by decide))
  have HK : Hid (Kept (Sg n0 g) w w_3) := HK.out.trans hc (fun _ e => e) (fun _ _ e => Or.inr (HY.out.base e))
  have HB : Hid (Box w_3 g 46 #[.int .i64 2, .slice ba t.word.length bc, .slice wa t.ws.length wc, .int .i64 t.dg, .bool t.bad]) := HB.out.kept hc (HY.out.offBox HB.out (by decide))
  have HY : Hid (Own 5 1 w_3 n0 a_3 c_3 (t.word.length + 1) (t.word.map u8V ++ [.int .u8 (bi c)])) := ho
  refine wp_runW (.slice a_3 (t.word.length + 1) c_3) (w_3) (exec_app _ _ 30 30 rfl _ _ _ (by kernel_rfl) (by kernel_rfl) hrun) (by kernel_rfl) ?_
  try simp only [pA, pB, p1, p2, p3]
  clear hrun ho hc
  refine tK (.pointer (some ⟨g, 0, none⟩)) ?_
  try simp only [pA, pB, p1, p2, p3]
  refine tK (.pointer (some ⟨g, 1, none⟩)) ?_
  try simp only [pA, pB, p1, p2, p3]
  have hst : (storeVar 30 ⟨g, 1, none⟩ (.slice a_3 (t.word.length + 1) c_3)).run Try.prog w_3 = .ok () (w_3.setRow g #[.int .i64 2, .slice a_3 (t.word.length + 1) c_3, .slice wa t.ws.length wc, .int .i64 t.dg, .bool t.bad]) := run_store_to (cur := [.int .i64 2, .slice ba t.word.length bc, .slice wa t.ws.length wc, .int .i64 t.dg, .bool t.bad]) (vs := [.slice a_3 (t.word.length + 1) c_3]) (new := [.int .i64 2, .slice a_3 (t.word.length + 1) c_3, .slice wa t.ws.length wc, .int .i64 t.dg, .bool t.bad]) HB.out (by kernel_rfl) S30 (Nat.le_of_ble_eq_true (by kernel_rfl)) (by simp [Value.oneCell', strV, u8V]) (by kernel_rfl)
  have HW : Hid (Own 9 1 (w_3.setRow g #[.int .i64 2, .slice a_3 (t.word.length + 1) c_3, .slice wa t.ws.length wc, .int .i64 t.dg, .bool t.bad]) n0 wa wc t.ws.length (t.ws.map strV)) := HW.out.kept (Kept.setRow _ _ _) (HW.out.notBox HB.out (by decide))
  have HY : Hid (Own 5 1 (w_3.setRow g #[.int .i64 2, .slice a_3 (t.word.length + 1) c_3, .slice wa t.ws.length wc, .int .i64 t.dg, .bool t.bad]) n0 a_3 c_3 (t.word.length + 1) (t.word.map u8V ++ [.int .u8 (bi c)])) := HY.out.kept (Kept.setRow _ _ _) (HY.out.notBox HB.out (by decide))
  have HK : Hid (Kept (Sg n0 g) w (w_3.setRow g #[.int .i64 2, .slice a_3 (t.word.length + 1) c_3, .slice wa t.ws.length wc, .int .i64 t.dg, .bool t.bad])) := HK.out.inRow (S := Sg n0 g) (Or.inl rfl) _
  have HB : Hid (Box (w_3.setRow g #[.int .i64 2, .slice a_3 (t.word.length + 1) c_3, .slice wa t.ws.length wc, .int .i64 t.dg, .bool t.bad]) g 46 #[.int .i64 2, .slice a_3 (t.word.length + 1) c_3, .slice wa t.ws.length wc, .int .i64 t.dg, .bool t.bad]) := HB.out.setRow _
  refine wp_storeW 30 _ _ rfl ⟨g, 1, none⟩ (.slice a_3 (t.word.length + 1) c_3) (by kernel_rfl) (by kernel_rfl) (w_3.setRow g #[.int .i64 2, .slice a_3 (t.word.length + 1) c_3, .slice wa t.ws.length wc, .int .i64 t.dg, .bool t.bad]) hst (by kernel_rfl) ?_
  try simp only [pA, pB, p1, p2, p3]
  clear hst
  generalize w_3.setRow g #[.int .i64 2, .slice a_3 (t.word.length + 1) c_3, .slice wa t.ws.length wc, .int .i64 t.dg, .bool t.bad] = wk5 at HW HY HK HB ⊢
  refine WL.nil ?_
  try simp only [pA, pB, p1, p2, p3]
  go_wp2
  go_end0
  rw [HC.out]
  exact ⟨rfl, by rw [HS.out]; exact RdA.of _ HB.out HW.out HY.out (Nat.le_trans HL.out HK.out.size) (by simp) (by simp [strV]) (by simp) (by simp) (by simp) (by simp [u8V, bi]) (by simp), HK.out⟩
set_option maxRecDepth 100000 in
set_option maxHeartbeats 4000000 in
theorem esc_q (n0 g : Nat) (t : St) (c : UInt8) (w : World) (hcut : RdA n0 w g t) (hws : t.ws.length ≤ 1000000000000) (hbt : t.word.length ≤ 1000000000000) (h34 : bi c = 34)  : Calls Try.prog 24 #[.pointer (some ⟨g, 0, none⟩), .int .u8 (bi c)] w (PostR n0 g (escS t c) w) := by
  obtain ⟨C, hC⟩ : ∃ C : Ending → World → Prop, C = (PostR n0 g (escS t c) w) := ⟨_, rfl⟩
  have HC : Hid (C = (PostR n0 g (escS t c) w)) := hC
  rw [← hC]
  clear hC
  have HS : Hid (escS t c = { t with inn := 2, word := t.word ++ [c] }) := by show _ = _; unfold escS; simp [h34]
  have e34 : (bi c == 34) = true := by simp [h34]
  have e92 : (bi c == 92) = false := by rw [beq_iff_eq.1 e34]; rfl
  clear h34
  obtain ⟨wa, wc, ba, bc, hC0⟩ := hcut
  have HB : Hid (Box w g 46 #[.int .i64 (t.inn : Int), .slice ba t.word.length bc, .slice wa t.ws.length wc, .int .i64 t.dg, .bool t.bad]) := hC0.box
  have HW : Hid (Own 9 1 w n0 wa wc t.ws.length (t.ws.map strV)) := hC0.hw
  have HY : Hid (Own 5 1 w n0 ba bc t.word.length (t.word.map u8V)) := hC0.hb
  have HL : Hid (n0 ≤ w.heap.size) := hC0.hn
  have HWd : Hid (t.ws.length ≤ 1000000000000) := hws
  have HBd : Hid (t.word.length ≤ 1000000000000) := hbt
  have HK : Hid (Kept (Sg n0 g) w w) := Kept.refl _ _
  clear hC0 hws hbt
  go_enter Try.func24, Try.ntmps24
  go_upto_region 0 with fail
  refine WL.start ?_
  refine tK (.pointer (some ⟨g, 0, none⟩)) ?_
  try simp only [pA, pB, p1, p2, p3]
  refine tK (.pointer (some ⟨g, 0, none⟩)) ?_
  try simp only [pA, pB, p1, p2, p3]
  refine tK (.pointer (some ⟨g, 0, none⟩)) ?_
  try simp only [pA, pB, p1, p2, p3]
  have hst : (storeVar 3 ⟨g, 0, none⟩ (.int .i64 2)).run Try.prog w = .ok () (w.setRow g #[.int .i64 2, .slice ba t.word.length bc, .slice wa t.ws.length wc, .int .i64 t.dg, .bool t.bad]) := run_store_to (cur := [.int .i64 (t.inn : Int), .slice ba t.word.length bc, .slice wa t.ws.length wc, .int .i64 t.dg, .bool t.bad]) (vs := [.int .i64 2]) (new := [.int .i64 2, .slice ba t.word.length bc, .slice wa t.ws.length wc, .int .i64 t.dg, .bool t.bad]) HB.out (by kernel_rfl) S3 (Nat.le_of_ble_eq_true (by kernel_rfl)) (by simp [Value.oneCell', strV, u8V]) (by kernel_rfl)
  have HW : Hid (Own 9 1 (w.setRow g #[.int .i64 2, .slice ba t.word.length bc, .slice wa t.ws.length wc, .int .i64 t.dg, .bool t.bad]) n0 wa wc t.ws.length (t.ws.map strV)) := HW.out.kept (Kept.setRow _ _ _) (HW.out.notBox HB.out (by decide))
  have HY : Hid (Own 5 1 (w.setRow g #[.int .i64 2, .slice ba t.word.length bc, .slice wa t.ws.length wc, .int .i64 t.dg, .bool t.bad]) n0 ba bc t.word.length (t.word.map u8V)) := HY.out.kept (Kept.setRow _ _ _) (HY.out.notBox HB.out (by decide))
  have HK : Hid (Kept (Sg n0 g) w (w.setRow g #[.int .i64 2, .slice ba t.word.length bc, .slice wa t.ws.length wc, .int .i64 t.dg, .bool t.bad])) := HK.out.inRow (S := Sg n0 g) (Or.inl rfl) _
  have HB : Hid (Box (w.setRow g #[.int .i64 2, .slice ba t.word.length bc, .slice wa t.ws.length wc, .int .i64 t.dg, .bool t.bad]) g 46 #[.int .i64 2, .slice ba t.word.length bc, .slice wa t.ws.length wc, .int .i64 t.dg, .bool t.bad]) := HB.out.setRow _
  refine wp_storeW 3 _ _ rfl ⟨g, 0, none⟩ (.int .i64 2) (by kernel_rfl) (by kernel_rfl) (w.setRow g #[.int .i64 2, .slice ba t.word.length bc, .slice wa t.ws.length wc, .int .i64 t.dg, .bool t.bad]) hst (by kernel_rfl) ?_
  try simp only [pA, pB, p1, p2, p3]
  clear hst
  generalize w.setRow g #[.int .i64 2, .slice ba t.word.length bc, .slice wa t.ws.length wc, .int .i64 t.dg, .bool t.bad] = wk1 at HW HY HK HB ⊢
  refine WL.nil ?_
  try simp only [pA, pB, p1, p2, p3]
  go_upto_region 1 with fail
  refine WL.start ?_
  refine tK (.int .u8 (bi c)) ?_
  try simp only [pA, pB, p1, p2, p3]
  refine WL.nil ?_
  try simp only [pA, pB, p1, p2, p3]
  go_upto_region 3 with fail
  refine WL.start ?_
  refine tW (.bool false) (exec_bin .eql 5 _ _ _ rfl (.int .u8 (bi c)) (.int .u8 92) (.bool false) (by kernel_rfl) (by kernel_rfl) (by kernel_rfl) (by rw [b_eq5, e92])) ?_
  try simp only [pA, pB, p1, p2, p3]
  refine tK (.bool false) ?_
  try simp only [pA, pB, p1, p2, p3]
  refine WL.nil ?_
  try simp only [pA, pB, p1, p2, p3]
  go_upto_region 4 with fail
  refine WL.start ?_
  refine tW (.bool true) (exec_bin .eql 5 _ _ _ rfl (.int .u8 (bi c)) (.int .u8 34) (.bool true) (by kernel_rfl) (by kernel_rfl) (by kernel_rfl) (by rw [b_eq5, e34])) ?_
  try simp only [pA, pB, p1, p2, p3]
  refine tK (.bool true) ?_
  try simp only [pA, pB, p1, p2, p3]
  refine WL.nil ?_
  try simp only [pA, pB, p1, p2, p3]
  go_upto_region 5 with fail
  refine WL.start ?_
  refine tK (.pointer (some ⟨g, 0, none⟩)) ?_
  try simp only [pA, pB, p1, p2, p3]
  refine tK (.pointer (some ⟨g, 0, none⟩)) ?_
  try simp only [pA, pB, p1, p2, p3]
  refine tK (.pointer (some ⟨g, 0, none⟩)) ?_
  try simp only [pA, pB, p1, p2, p3]
  refine tK (.pointer (some ⟨g, 1, none⟩)) ?_
  try simp only [pA, pB, p1, p2, p3]
  refine tW (.slice ba t.word.length bc) (exec_load 30 _ rfl ⟨g, 1, none⟩ (by kernel_rfl) (.slice ba t.word.length bc) (load_one (HB.out.cell 1) U30 rfl)) ?_
  try simp only [pA, pB, p1, p2, p3]
  refine tK (.int .u8 (bi c)) ?_
  try simp only [pA, pB, p1, p2, p3]
  have HW : Hid (Own 9 1 (wk1.alloc (.cells [.int .u8 (bi c)].toArray 5)) n0 wa wc t.ws.length (t.ws.map strV)) := HW.out.no ((Kept.refl No _).alloc _)
  have HY : Hid (Own 5 1 (wk1.alloc (.cells [.int .u8 (bi c)].toArray 5)) n0 ba bc t.word.length (t.word.map u8V)) := HY.out.no ((Kept.refl No _).alloc _)
  have HK : Hid (Kept (Sg n0 g) w (wk1.alloc (.cells [.int .u8 (bi c)].toArray 5))) := HK.out.alloc _
  have HB : Hid (Box (wk1.alloc (.cells [.int .u8 (bi c)].toArray 5)) g 46 #[.int .i64 2, .slice ba t.word.length bc, .slice wa t.ws.length wc, .int .i64 t.dg, .bool t.bad]) := HB.out.alloc _
  have HX : Hid (Box (wk1.alloc (.cells [.int .u8 (bi c)].toArray 5)) wk1.heap.size 5 [.int .u8 (bi c)].toArray) := Box.new _ _ _
  refine wp_runW (.slice (some ⟨wk1.heap.size, 0, none⟩) 1 1) (wk1.alloc (.cells [.int .u8 (bi c)].toArray 5)) (exec_built (by kernel_rfl)) (by kernel_rfl) ?_
  try simp only [pA, pB, p1, p2, p3]
  generalize wk1.alloc (.cells [.int .u8 (bi c)].toArray 5) = wk2 at HW HY HK HX HB ⊢
  generalize wk1.heap.size = gk3 at HX ⊢
  obtain ⟨a_3, c_3, w_3, hrun, ho, hc⟩ := run_app 30 5 1 _ U30 I5 rfl HY.out 30 ⟨gk3, 0, none⟩ 1 1 [.int .u8 (bi c)] rfl (box_news HX.out) (by simp [Value.oneCell', strV, u8V]) (by have h2 := HBd.out; have h3 := HWd.out; omega) (by have h2 := HBd.out; have h3 := HWd.out; omega) (Nat.le_trans HL.out HK.out.size)
  clear HX
  have HW : Hid (Own 9 1 w_3 n0 wa wc t.ws.length (t.ws.map strV)) := HW.out.kept hc (own_apart HW.out HY.out (by decide))
  have HK : Hid (Kept (Sg n0 g) w w_3) := HK.out.trans hc (fun _ e => e) (fun _ _ e => Or.inr (HY.out.base e))
  have HB : Hid (Box w_3 g 46 #[.int .i64 2, .slice ba t.word.length bc, .slice wa t.ws.length wc, .int .i64 t.dg, .bool t.bad]) := HB.out.kept hc (HY.out.offBox HB.out (by decide))
  have HY : Hid (Own 5 1 w_3 n0 a_3 c_3 (t.word.length + 1) (t.word.map u8V ++ [.int .u8 (bi c)])) := ho
  refine wp_runW (.slice a_3 (t.word.length + 1) c_3) (w_3) (exec_app _ _ 30 30 rfl _ _ _ (by kernel_rfl) (by kernel_rfl) hrun) (by kernel_rfl) ?_
  try simp only [pA, pB, p1, p2, p3]
  clear hrun ho hc
  refine tK (.pointer (some ⟨g, 0, none⟩)) ?_
  try simp only [pA, pB, p1, p2, p3]
  refine tK (.pointer (some ⟨g, 1, none⟩)) ?_
  try simp only [pA, pB, p1, p2, p3]
  have hst : (storeVar 30 ⟨g, 1, none⟩ (.slice a_3 (t.word.length + 1) c_3)).run Try.prog w_3 = .ok () (w_3.setRow g #[.int .i64 2, .slice a_3 (t.word.length + 1) c_3, .slice wa t.ws.length wc, .int .i64 t.dg, .bool t.bad]) := run_store_to (cur := [.int .i64 2, .slice ba t.word.length bc, .slice wa t.ws.length wc, .int .i64 t.dg, .bool t.bad]) (vs := [.slice a_3 (t.word.length + 1) c_3]) (new := [.int .i64 2, .slice a_3 (t.word.length + 1) c_3, .slice wa t.ws.length wc, .int .i64 t.dg, .bool t.bad]) HB.out (by kernel_rfl) S30 (Nat.le_of_ble_eq_true (by kernel_rfl)) (by simp [Value.oneCell', strV, u8V]) (by kernel_rfl)
  have HW : Hid (Own 9 1 (w_3.setRow g #[.int .i64 2, .slice a_3 (t.word.length + 1) c_3, .slice wa t.ws.length wc, .int .i64 t.dg, .bool t.bad]) n0 wa wc t.ws.length (t.ws.map strV)) := HW.out.kept (Kept.setRow _ _ _) (HW.out.notBox HB.out (by decide))
  have HY : Hid (Own 5 1 (w_3.setRow g #[.int .i64 2, .slice a_3 (t.word.length + 1) c_3, .slice wa t.ws.length wc, .int .i64 t.dg, .bool t.bad]) n0 a_3 c_3 (t.word.length + 1) (t.word.map u8V ++ [.int .u8 (bi c)])) := HY.out.kept (Kept.setRow _ _ _) (HY.out.notBox HB.out (by decide))
  have HK : Hid (Kept (Sg n0 g) w (w_3.setRow g #[.int .i64 2, .slice a_3 (t.word.length + 1) c_3, .slice wa t.ws.length wc, .int .i64 t.dg, .bool t.bad])) := HK.out.inRow (S := Sg n0 g) (Or.inl rfl) _
  have HB : Hid (Box (w_3.setRow g #[.int .i64 2, .slice a_3 (t.word.length + 1) c_3, .slice wa t.ws.length wc, .int .i64 t.dg, .bool t.bad]) g 46 #[.int .i64 2, .slice a_3 (t.word.length + 1) c_3, .slice wa t.ws.length wc, .int .i64 t.dg, .bool t.bad]) := HB.out.setRow _
  refine wp_storeW 30 _ _ rfl ⟨g, 1, none⟩ (.slice a_3 (t.word.length + 1) c_3) (by kernel_rfl) (by kernel_rfl) (w_3.setRow g #[.int .i64 2, .slice a_3 (t.word.length + 1) c_3, .slice wa t.ws.length wc, .int .i64 t.dg, .bool t.bad]) hst (by kernel_rfl) ?_
  try simp only [pA, pB, p1, p2, p3]
  clear hst
  generalize w_3.setRow g #[.int .i64 2, .slice a_3 (t.word.length + 1) c_3, .slice wa t.ws.length wc, .int .i64 t.dg, .bool t.bad] = wk5 at HW HY HK HB ⊢
  refine WL.nil ?_
  try simp only [pA, pB, p1, p2, p3]
  go_wp2
  go_end0
  rw [HC.out]
  exact ⟨rfl, by rw [HS.out]; exact RdA.of _ HB.out HW.out HY.out (Nat.le_trans HL.out HK.out.size) (by simp) (by simp [strV]) (by simp) (by simp) (by simp) (by simp [u8V, bi]) (by simp), HK.out⟩
set_option maxRecDepth 100000 in
set_option maxHeartbeats 4000000 in
theorem esc_n (n0 g : Nat) (t : St) (c : UInt8) (w : World) (hcut : RdA n0 w g t) (hws : t.ws.length ≤ 1000000000000) (hbt : t.word.length ≤ 1000000000000) (h110 : bi c = 110) (h92 : ¬ bi c = 92) (h34 : ¬ bi c = 34) : Calls Try.prog 24 #[.pointer (some ⟨g, 0, none⟩), .int .u8 (bi c)] w (PostR n0 g (escS t c) w) := by
  obtain ⟨C, hC⟩ : ∃ C : Ending → World → Prop, C = (PostR n0 g (escS t c) w) := ⟨_, rfl⟩
  have HC : Hid (C = (PostR n0 g (escS t c) w)) := hC
  rw [← hC]
  clear hC
  have HS : Hid (escS t c = { t with inn := 2, word := t.word ++ [10] }) := by show _ = _; unfold escS; simp [h110, h92, h34]
  have e110 : (bi c == 110) = true := by simp [h110]
  have e92 : (bi c == 92) = false := by simp [h92]
  have e34 : (bi c == 34) = false := by simp [h34]
  clear h110 h92 h34
  obtain ⟨wa, wc, ba, bc, hC0⟩ := hcut
  have HB : Hid (Box w g 46 #[.int .i64 (t.inn : Int), .slice ba t.word.length bc, .slice wa t.ws.length wc, .int .i64 t.dg, .bool t.bad]) := hC0.box
  have HW : Hid (Own 9 1 w n0 wa wc t.ws.length (t.ws.map strV)) := hC0.hw
  have HY : Hid (Own 5 1 w n0 ba bc t.word.length (t.word.map u8V)) := hC0.hb
  have HL : Hid (n0 ≤ w.heap.size) := hC0.hn
  have HWd : Hid (t.ws.length ≤ 1000000000000) := hws
  have HBd : Hid (t.word.length ≤ 1000000000000) := hbt
  have HK : Hid (Kept (Sg n0 g) w w) := Kept.refl _ _
  clear hC0 hws hbt
  go_enter Try.func24, Try.ntmps24
  go_upto_region 0 with fail
  refine WL.start ?_
  refine tK (.pointer (some ⟨g, 0, none⟩)) ?_
  try simp only [pA, pB, p1, p2, p3]
  refine tK (.pointer (some ⟨g, 0, none⟩)) ?_
  try simp only [pA, pB, p1, p2, p3]
  refine tK (.pointer (some ⟨g, 0, none⟩)) ?_
  try simp only [pA, pB, p1, p2, p3]
  have hst : (storeVar 3 ⟨g, 0, none⟩ (.int .i64 2)).run Try.prog w = .ok () (w.setRow g #[.int .i64 2, .slice ba t.word.length bc, .slice wa t.ws.length wc, .int .i64 t.dg, .bool t.bad]) := run_store_to (cur := [.int .i64 (t.inn : Int), .slice ba t.word.length bc, .slice wa t.ws.length wc, .int .i64 t.dg, .bool t.bad]) (vs := [.int .i64 2]) (new := [.int .i64 2, .slice ba t.word.length bc, .slice wa t.ws.length wc, .int .i64 t.dg, .bool t.bad]) HB.out (by kernel_rfl) S3 (Nat.le_of_ble_eq_true (by kernel_rfl)) (by simp [Value.oneCell', strV, u8V]) (by kernel_rfl)
  have HW : Hid (Own 9 1 (w.setRow g #[.int .i64 2, .slice ba t.word.length bc, .slice wa t.ws.length wc, .int .i64 t.dg, .bool t.bad]) n0 wa wc t.ws.length (t.ws.map strV)) := HW.out.kept (Kept.setRow _ _ _) (HW.out.notBox HB.out (by decide))
  have HY : Hid (Own 5 1 (w.setRow g #[.int .i64 2, .slice ba t.word.length bc, .slice wa t.ws.length wc, .int .i64 t.dg, .bool t.bad]) n0 ba bc t.word.length (t.word.map u8V)) := HY.out.kept (Kept.setRow _ _ _) (HY.out.notBox HB.out (by decide))
  have HK : Hid (Kept (Sg n0 g) w (w.setRow g #[.int .i64 2, .slice ba t.word.length bc, .slice wa t.ws.length wc, .int .i64 t.dg, .bool t.bad])) := HK.out.inRow (S := Sg n0 g) (Or.inl rfl) _
  have HB : Hid (Box (w.setRow g #[.int .i64 2, .slice ba t.word.length bc, .slice wa t.ws.length wc, .int .i64 t.dg, .bool t.bad]) g 46 #[.int .i64 2, .slice ba t.word.length bc, .slice wa t.ws.length wc, .int .i64 t.dg, .bool t.bad]) := HB.out.setRow _
  refine wp_storeW 3 _ _ rfl ⟨g, 0, none⟩ (.int .i64 2) (by kernel_rfl) (by kernel_rfl) (w.setRow g #[.int .i64 2, .slice ba t.word.length bc, .slice wa t.ws.length wc, .int .i64 t.dg, .bool t.bad]) hst (by kernel_rfl) ?_
  try simp only [pA, pB, p1, p2, p3]
  clear hst
  generalize w.setRow g #[.int .i64 2, .slice ba t.word.length bc, .slice wa t.ws.length wc, .int .i64 t.dg, .bool t.bad] = wk1 at HW HY HK HB ⊢
  refine WL.nil ?_
  try simp only [pA, pB, p1, p2, p3]
  go_upto_region 1 with fail
  refine WL.start ?_
  refine tK (.int .u8 (bi c)) ?_
  try simp only [pA, pB, p1, p2, p3]
  refine WL.nil ?_
  try simp only [pA, pB, p1, p2, p3]
  go_upto_region 3 with fail
  refine WL.start ?_
  refine tW (.bool false) (exec_bin .eql 5 _ _ _ rfl (.int .u8 (bi c)) (.int .u8 92) (.bool false) (by kernel_rfl) (by kernel_rfl) (by kernel_rfl) (by rw [b_eq5, e92])) ?_
  try simp only [pA, pB, p1, p2, p3]
  refine tK (.bool false) ?_
  try simp only [pA, pB, p1, p2, p3]
  refine WL.nil ?_
  try simp only [pA, pB, p1, p2, p3]
  go_upto_region 4 with fail
  refine WL.start ?_
  refine tW (.bool false) (exec_bin .eql 5 _ _ _ rfl (.int .u8 (bi c)) (.int .u8 34) (.bool false) (by kernel_rfl) (by kernel_rfl) (by kernel_rfl) (by rw [b_eq5, e34])) ?_
  try simp only [pA, pB, p1, p2, p3]
  refine tK (.bool false) ?_
  try simp only [pA, pB, p1, p2, p3]
  refine WL.nil ?_
  try simp only [pA, pB, p1, p2, p3]
  go_upto_region 6 with fail
  refine WL.start ?_
  refine tW (.bool true) (exec_bin .eql 5 _ _ _ rfl (.int .u8 (bi c)) (.int .u8 110) (.bool true) (by kernel_rfl) (by kernel_rfl) (by kernel_rfl) (by rw [b_eq5, e110])) ?_
  try simp only [pA, pB, p1, p2, p3]
  refine tK (.bool true) ?_
  try simp only [pA, pB, p1, p2, p3]
  refine WL.nil ?_
  try simp only [pA, pB, p1, p2, p3]
  go_upto_region 7 with fail
  refine WL.start ?_
  refine tK (.pointer (some ⟨g, 0, none⟩)) ?_
  try simp only [pA, pB, p1, p2, p3]
  refine tK (.pointer (some ⟨g, 0, none⟩)) ?_
  try simp only [pA, pB, p1, p2, p3]
  refine tK (.pointer (some ⟨g, 0, none⟩)) ?_
  try simp only [pA, pB, p1, p2, p3]
  refine tK (.pointer (some ⟨g, 1, none⟩)) ?_
  try simp only [pA, pB, p1, p2, p3]
  refine tW (.slice ba t.word.length bc) (exec_load 30 _ rfl ⟨g, 1, none⟩ (by kernel_rfl) (.slice ba t.word.length bc) (load_one (HB.out.cell 1) U30 rfl)) ?_
  try simp only [pA, pB, p1, p2, p3]
  have HW : Hid (Own 9 1 (wk1.alloc (.cells [.int .u8 10].toArray 5)) n0 wa wc t.ws.length (t.ws.map strV)) := HW.out.no ((Kept.refl No _).alloc _)
  have HY : Hid (Own 5 1 (wk1.alloc (.cells [.int .u8 10].toArray 5)) n0 ba bc t.word.length (t.word.map u8V)) := HY.out.no ((Kept.refl No _).alloc _)
  have HK : Hid (Kept (Sg n0 g) w (wk1.alloc (.cells [.int .u8 10].toArray 5))) := HK.out.alloc _
  have HB : Hid (Box (wk1.alloc (.cells [.int .u8 10].toArray 5)) g 46 #[.int .i64 2, .slice ba t.word.length bc, .slice wa t.ws.length wc, .int .i64 t.dg, .bool t.bad]) := HB.out.alloc _
  have HX : Hid (Box (wk1.alloc (.cells [.int .u8 10].toArray 5)) wk1.heap.size 5 [.int .u8 10].toArray) := Box.new _ _ _
  refine wp_runW (.slice (some ⟨wk1.heap.size, 0, none⟩) 1 1) (wk1.alloc (.cells [.int .u8 10].toArray 5)) (exec_built (by kernel_rfl)) (by kernel_rfl) ?_
  try simp only [pA, pB, p1, p2, p3]
  generalize wk1.alloc (.cells [.int .u8 10].toArray 5) = wk2 at HW HY HK HX HB ⊢
  generalize wk1.heap.size = gk3 at HX ⊢
  obtain ⟨a_3, c_3, w_3, hrun, ho, hc⟩ := run_app 30 5 1 _ U30 I5 rfl HY.out 30 ⟨gk3, 0, none⟩ 1 1 [.int .u8 10] rfl (box_news HX.out) (by simp [Value.oneCell', strV, u8V]) (by have h2 := HBd.out; have h3 := HWd.out; omega) (by have h2 := HBd.out; have h3 := HWd.out; omega) (Nat.le_trans HL.out HK.out.size)
  clear HX
  have HW : Hid (Own 9 1 w_3 n0 wa wc t.ws.length (t.ws.map strV)) := HW.out.kept hc (own_apart HW.out HY.out (by decide))
  have HK : Hid (Kept (Sg n0 g) w w_3) := HK.out.trans hc (fun _ e => e) (fun _ _ e => Or.inr (HY.out.base e))
  have HB : Hid (Box w_3 g 46 #[.int .i64 2, .slice ba t.word.length bc, .slice wa t.ws.length wc, .int .i64 t.dg, .bool t.bad]) := HB.out.kept hc (HY.out.offBox HB.out (by decide))
  have HY : Hid (Own 5 1 w_3 n0 a_3 c_3 (t.word.length + 1) (t.word.map u8V ++ [.int .u8 10])) := ho
  refine wp_runW (.slice a_3 (t.word.length + 1) c_3) (w_3) (exec_app _ _ 30 30 rfl _ _ _ (by kernel_rfl) (by kernel_rfl) hrun) (by kernel_rfl) ?_
  try simp only [pA, pB, p1, p2, p3]
  clear hrun ho hc
  refine tK (.pointer (some ⟨g, 0, none⟩)) ?_
  try simp only [pA, pB, p1, p2, p3]
  refine tK (.pointer (some ⟨g, 1, none⟩)) ?_
  try simp only [pA, pB, p1, p2, p3]
  have hst : (storeVar 30 ⟨g, 1, none⟩ (.slice a_3 (t.word.length + 1) c_3)).run Try.prog w_3 = .ok () (w_3.setRow g #[.int .i64 2, .slice a_3 (t.word.length + 1) c_3, .slice wa t.ws.length wc, .int .i64 t.dg, .bool t.bad]) := run_store_to (cur := [.int .i64 2, .slice ba t.word.length bc, .slice wa t.ws.length wc, .int .i64 t.dg, .bool t.bad]) (vs := [.slice a_3 (t.word.length + 1) c_3]) (new := [.int .i64 2, .slice a_3 (t.word.length + 1) c_3, .slice wa t.ws.length wc, .int .i64 t.dg, .bool t.bad]) HB.out (by kernel_rfl) S30 (Nat.le_of_ble_eq_true (by kernel_rfl)) (by simp [Value.oneCell', strV, u8V]) (by kernel_rfl)
  have HW : Hid (Own 9 1 (w_3.setRow g #[.int .i64 2, .slice a_3 (t.word.length + 1) c_3, .slice wa t.ws.length wc, .int .i64 t.dg, .bool t.bad]) n0 wa wc t.ws.length (t.ws.map strV)) := HW.out.kept (Kept.setRow _ _ _) (HW.out.notBox HB.out (by decide))
  have HY : Hid (Own 5 1 (w_3.setRow g #[.int .i64 2, .slice a_3 (t.word.length + 1) c_3, .slice wa t.ws.length wc, .int .i64 t.dg, .bool t.bad]) n0 a_3 c_3 (t.word.length + 1) (t.word.map u8V ++ [.int .u8 10])) := HY.out.kept (Kept.setRow _ _ _) (HY.out.notBox HB.out (by decide))
  have HK : Hid (Kept (Sg n0 g) w (w_3.setRow g #[.int .i64 2, .slice a_3 (t.word.length + 1) c_3, .slice wa t.ws.length wc, .int .i64 t.dg, .bool t.bad])) := HK.out.inRow (S := Sg n0 g) (Or.inl rfl) _
  have HB : Hid (Box (w_3.setRow g #[.int .i64 2, .slice a_3 (t.word.length + 1) c_3, .slice wa t.ws.length wc, .int .i64 t.dg, .bool t.bad]) g 46 #[.int .i64 2, .slice a_3 (t.word.length + 1) c_3, .slice wa t.ws.length wc, .int .i64 t.dg, .bool t.bad]) := HB.out.setRow _
  refine wp_storeW 30 _ _ rfl ⟨g, 1, none⟩ (.slice a_3 (t.word.length + 1) c_3) (by kernel_rfl) (by kernel_rfl) (w_3.setRow g #[.int .i64 2, .slice a_3 (t.word.length + 1) c_3, .slice wa t.ws.length wc, .int .i64 t.dg, .bool t.bad]) hst (by kernel_rfl) ?_
  try simp only [pA, pB, p1, p2, p3]
  clear hst
  generalize w_3.setRow g #[.int .i64 2, .slice a_3 (t.word.length + 1) c_3, .slice wa t.ws.length wc, .int .i64 t.dg, .bool t.bad] = wk5 at HW HY HK HB ⊢
  refine WL.nil ?_
  try simp only [pA, pB, p1, p2, p3]
  go_wp2
  go_end0
  rw [HC.out]
  exact ⟨rfl, by rw [HS.out]; exact RdA.of _ HB.out HW.out HY.out (Nat.le_trans HL.out HK.out.size) (by simp) (by simp [strV]) (by simp) (by simp) (by simp) (by simp [u8V, bi]) (by simp), HK.out⟩
set_option maxRecDepth 100000 in
set_option maxHeartbeats 4000000 in
theorem esc_t (n0 g : Nat) (t : St) (c : UInt8) (w : World) (hcut : RdA n0 w g t) (hws : t.ws.length ≤ 1000000000000) (hbt : t.word.length ≤ 1000000000000) (h116 : bi c = 116) (h92 : ¬ bi c = 92) (h34 : ¬ bi c = 34) (h110 : ¬ bi c = 110) : Calls Try.prog 24 #[.pointer (some ⟨g, 0, none⟩), .int .u8 (bi c)] w (PostR n0 g (escS t c) w) := by
  obtain ⟨C, hC⟩ : ∃ C : Ending → World → Prop, C = (PostR n0 g (escS t c) w) := ⟨_, rfl⟩
  have HC : Hid (C = (PostR n0 g (escS t c) w)) := hC
  rw [← hC]
  clear hC
  have HS : Hid (escS t c = { t with inn := 2, word := t.word ++ [9] }) := by show _ = _; unfold escS; simp [h116, h92, h34, h110]
  have e116 : (bi c == 116) = true := by simp [h116]
  have e92 : (bi c == 92) = false := by simp [h92]
  have e34 : (bi c == 34) = false := by simp [h34]
  have e110 : (bi c == 110) = false := by simp [h110]
  clear h116 h92 h34 h110
  obtain ⟨wa, wc, ba, bc, hC0⟩ := hcut
  have HB : Hid (Box w g 46 #[.int .i64 (t.inn : Int), .slice ba t.word.length bc, .slice wa t.ws.length wc, .int .i64 t.dg, .bool t.bad]) := hC0.box
  have HW : Hid (Own 9 1 w n0 wa wc t.ws.length (t.ws.map strV)) := hC0.hw
  have HY : Hid (Own 5 1 w n0 ba bc t.word.length (t.word.map u8V)) := hC0.hb
  have HL : Hid (n0 ≤ w.heap.size) := hC0.hn
  have HWd : Hid (t.ws.length ≤ 1000000000000) := hws
  have HBd : Hid (t.word.length ≤ 1000000000000) := hbt
  have HK : Hid (Kept (Sg n0 g) w w) := Kept.refl _ _
  clear hC0 hws hbt
  go_enter Try.func24, Try.ntmps24
  go_upto_region 0 with fail
  refine WL.start ?_
  refine tK (.pointer (some ⟨g, 0, none⟩)) ?_
  try simp only [pA, pB, p1, p2, p3]
  refine tK (.pointer (some ⟨g, 0, none⟩)) ?_
  try simp only [pA, pB, p1, p2, p3]
  refine tK (.pointer (some ⟨g, 0, none⟩)) ?_
  try simp only [pA, pB, p1, p2, p3]
  have hst : (storeVar 3 ⟨g, 0, none⟩ (.int .i64 2)).run Try.prog w = .ok () (w.setRow g #[.int .i64 2, .slice ba t.word.length bc, .slice wa t.ws.length wc, .int .i64 t.dg, .bool t.bad]) := run_store_to (cur := [.int .i64 (t.inn : Int), .slice ba t.word.length bc, .slice wa t.ws.length wc, .int .i64 t.dg, .bool t.bad]) (vs := [.int .i64 2]) (new := [.int .i64 2, .slice ba t.word.length bc, .slice wa t.ws.length wc, .int .i64 t.dg, .bool t.bad]) HB.out (by kernel_rfl) S3 (Nat.le_of_ble_eq_true (by kernel_rfl)) (by simp [Value.oneCell', strV, u8V]) (by kernel_rfl)
  have HW : Hid (Own 9 1 (w.setRow g #[.int .i64 2, .slice ba t.word.length bc, .slice wa t.ws.length wc, .int .i64 t.dg, .bool t.bad]) n0 wa wc t.ws.length (t.ws.map strV)) := HW.out.kept (Kept.setRow _ _ _) (HW.out.notBox HB.out (by decide))
  have HY : Hid (Own 5 1 (w.setRow g #[.int .i64 2, .slice ba t.word.length bc, .slice wa t.ws.length wc, .int .i64 t.dg, .bool t.bad]) n0 ba bc t.word.length (t.word.map u8V)) := HY.out.kept (Kept.setRow _ _ _) (HY.out.notBox HB.out (by decide))
  have HK : Hid (Kept (Sg n0 g) w (w.setRow g #[.int .i64 2, .slice ba t.word.length bc, .slice wa t.ws.length wc, .int .i64 t.dg, .bool t.bad])) := HK.out.inRow (S := Sg n0 g) (Or.inl rfl) _
  have HB : Hid (Box (w.setRow g #[.int .i64 2, .slice ba t.word.length bc, .slice wa t.ws.length wc, .int .i64 t.dg, .bool t.bad]) g 46 #[.int .i64 2, .slice ba t.word.length bc, .slice wa t.ws.length wc, .int .i64 t.dg, .bool t.bad]) := HB.out.setRow _
  refine wp_storeW 3 _ _ rfl ⟨g, 0, none⟩ (.int .i64 2) (by kernel_rfl) (by kernel_rfl) (w.setRow g #[.int .i64 2, .slice ba t.word.length bc, .slice wa t.ws.length wc, .int .i64 t.dg, .bool t.bad]) hst (by kernel_rfl) ?_
  try simp only [pA, pB, p1, p2, p3]
  clear hst
  generalize w.setRow g #[.int .i64 2, .slice ba t.word.length bc, .slice wa t.ws.length wc, .int .i64 t.dg, .bool t.bad] = wk1 at HW HY HK HB ⊢
  refine WL.nil ?_
  try simp only [pA, pB, p1, p2, p3]
  go_upto_region 1 with fail
  refine WL.start ?_
  refine tK (.int .u8 (bi c)) ?_
  try simp only [pA, pB, p1, p2, p3]
  refine WL.nil ?_
  try simp only [pA, pB, p1, p2, p3]
  go_upto_region 3 with fail
  refine WL.start ?_
  refine tW (.bool false) (exec_bin .eql 5 _ _ _ rfl (.int .u8 (bi c)) (.int .u8 92) (.bool false) (by kernel_rfl) (by kernel_rfl) (by kernel_rfl) (by rw [b_eq5, e92])) ?_
  try simp only [pA, pB, p1, p2, p3]
  refine tK (.bool false) ?_
  try simp only [pA, pB, p1, p2, p3]
  refine WL.nil ?_
  try simp only [pA, pB, p1, p2, p3]
  go_upto_region 4 with fail
  refine WL.start ?_
  refine tW (.bool false) (exec_bin .eql 5 _ _ _ rfl (.int .u8 (bi c)) (.int .u8 34) (.bool false) (by kernel_rfl) (by kernel_rfl) (by kernel_rfl) (by rw [b_eq5, e34])) ?_
  try simp only [pA, pB, p1, p2, p3]
  refine tK (.bool false) ?_
  try simp only [pA, pB, p1, p2, p3]
  refine WL.nil ?_
  try simp only [pA, pB, p1, p2, p3]
  go_upto_region 6 with fail
  refine WL.start ?_
  refine tW (.bool false) (exec_bin .eql 5 _ _ _ rfl (.int .u8 (bi c)) (.int .u8 110) (.bool false) (by kernel_rfl) (by kernel_rfl) (by kernel_rfl) (by rw [b_eq5, e110])) ?_
  try simp only [pA, pB, p1, p2, p3]
  refine tK (.bool false) ?_
  try simp only [pA, pB, p1, p2, p3]
  refine WL.nil ?_
  try simp only [pA, pB, p1, p2, p3]
  go_upto_region 8 with fail
  refine WL.start ?_
  refine tW (.bool true) (exec_bin .eql 5 _ _ _ rfl (.int .u8 (bi c)) (.int .u8 116) (.bool true) (by kernel_rfl) (by kernel_rfl) (by kernel_rfl) (by rw [b_eq5, e116])) ?_
  try simp only [pA, pB, p1, p2, p3]
  refine tK (.bool true) ?_
  try simp only [pA, pB, p1, p2, p3]
  refine WL.nil ?_
  try simp only [pA, pB, p1, p2, p3]
  go_upto_region 9 with fail
  refine WL.start ?_
  refine tK (.pointer (some ⟨g, 0, none⟩)) ?_
  try simp only [pA, pB, p1, p2, p3]
  refine tK (.pointer (some ⟨g, 0, none⟩)) ?_
  try simp only [pA, pB, p1, p2, p3]
  refine tK (.pointer (some ⟨g, 0, none⟩)) ?_
  try simp only [pA, pB, p1, p2, p3]
  refine tK (.pointer (some ⟨g, 1, none⟩)) ?_
  try simp only [pA, pB, p1, p2, p3]
  refine tW (.slice ba t.word.length bc) (exec_load 30 _ rfl ⟨g, 1, none⟩ (by kernel_rfl) (.slice ba t.word.length bc) (load_one (HB.out.cell 1) U30 rfl)) ?_
  try simp only [pA, pB, p1, p2, p3]
  have HW : Hid (Own 9 1 (wk1.alloc (.cells [.int .u8 9].toArray 5)) n0 wa wc t.ws.length (t.ws.map strV)) := HW.out.no ((Kept.refl No _).alloc _)
  have HY : Hid (Own 5 1 (wk1.alloc (.cells [.int .u8 9].toArray 5)) n0 ba bc t.word.length (t.word.map u8V)) := HY.out.no ((Kept.refl No _).alloc _)
  have HK : Hid (Kept (Sg n0 g) w (wk1.alloc (.cells [.int .u8 9].toArray 5))) := HK.out.alloc _
  have HB : Hid (Box (wk1.alloc (.cells [.int .u8 9].toArray 5)) g 46 #[.int .i64 2, .slice ba t.word.length bc, .slice wa t.ws.length wc, .int .i64 t.dg, .bool t.bad]) := HB.out.alloc _
  have HX : Hid (Box (wk1.alloc (.cells [.int .u8 9].toArray 5)) wk1.heap.size 5 [.int .u8 9].toArray) := Box.new _ _ _
  refine wp_runW (.slice (some ⟨wk1.heap.size, 0, none⟩) 1 1) (wk1.alloc (.cells [.int .u8 9].toArray 5)) (exec_built (by kernel_rfl)) (by kernel_rfl) ?_
  try simp only [pA, pB, p1, p2, p3]
  generalize wk1.alloc (.cells [.int .u8 9].toArray 5) = wk2 at HW HY HK HX HB ⊢
  generalize wk1.heap.size = gk3 at HX ⊢
  obtain ⟨a_3, c_3, w_3, hrun, ho, hc⟩ := run_app 30 5 1 _ U30 I5 rfl HY.out 30 ⟨gk3, 0, none⟩ 1 1 [.int .u8 9] rfl (box_news HX.out) (by simp [Value.oneCell', strV, u8V]) (by have h2 := HBd.out; have h3 := HWd.out; omega) (by have h2 := HBd.out; have h3 := HWd.out; omega) (Nat.le_trans HL.out HK.out.size)
  clear HX
  have HW : Hid (Own 9 1 w_3 n0 wa wc t.ws.length (t.ws.map strV)) := HW.out.kept hc (own_apart HW.out HY.out (by decide))
  have HK : Hid (Kept (Sg n0 g) w w_3) := HK.out.trans hc (fun _ e => e) (fun _ _ e => Or.inr (HY.out.base e))
  have HB : Hid (Box w_3 g 46 #[.int .i64 2, .slice ba t.word.length bc, .slice wa t.ws.length wc, .int .i64 t.dg, .bool t.bad]) := HB.out.kept hc (HY.out.offBox HB.out (by decide))
  have HY : Hid (Own 5 1 w_3 n0 a_3 c_3 (t.word.length + 1) (t.word.map u8V ++ [.int .u8 9])) := ho
  refine wp_runW (.slice a_3 (t.word.length + 1) c_3) (w_3) (exec_app _ _ 30 30 rfl _ _ _ (by kernel_rfl) (by kernel_rfl) hrun) (by kernel_rfl) ?_
  try simp only [pA, pB, p1, p2, p3]
  clear hrun ho hc
  refine tK (.pointer (some ⟨g, 0, none⟩)) ?_
  try simp only [pA, pB, p1, p2, p3]
  refine tK (.pointer (some ⟨g, 1, none⟩)) ?_
  try simp only [pA, pB, p1, p2, p3]
  have hst : (storeVar 30 ⟨g, 1, none⟩ (.slice a_3 (t.word.length + 1) c_3)).run Try.prog w_3 = .ok () (w_3.setRow g #[.int .i64 2, .slice a_3 (t.word.length + 1) c_3, .slice wa t.ws.length wc, .int .i64 t.dg, .bool t.bad]) := run_store_to (cur := [.int .i64 2, .slice ba t.word.length bc, .slice wa t.ws.length wc, .int .i64 t.dg, .bool t.bad]) (vs := [.slice a_3 (t.word.length + 1) c_3]) (new := [.int .i64 2, .slice a_3 (t.word.length + 1) c_3, .slice wa t.ws.length wc, .int .i64 t.dg, .bool t.bad]) HB.out (by kernel_rfl) S30 (Nat.le_of_ble_eq_true (by kernel_rfl)) (by simp [Value.oneCell', strV, u8V]) (by kernel_rfl)
  have HW : Hid (Own 9 1 (w_3.setRow g #[.int .i64 2, .slice a_3 (t.word.length + 1) c_3, .slice wa t.ws.length wc, .int .i64 t.dg, .bool t.bad]) n0 wa wc t.ws.length (t.ws.map strV)) := HW.out.kept (Kept.setRow _ _ _) (HW.out.notBox HB.out (by decide))
  have HY : Hid (Own 5 1 (w_3.setRow g #[.int .i64 2, .slice a_3 (t.word.length + 1) c_3, .slice wa t.ws.length wc, .int .i64 t.dg, .bool t.bad]) n0 a_3 c_3 (t.word.length + 1) (t.word.map u8V ++ [.int .u8 9])) := HY.out.kept (Kept.setRow _ _ _) (HY.out.notBox HB.out (by decide))
  have HK : Hid (Kept (Sg n0 g) w (w_3.setRow g #[.int .i64 2, .slice a_3 (t.word.length + 1) c_3, .slice wa t.ws.length wc, .int .i64 t.dg, .bool t.bad])) := HK.out.inRow (S := Sg n0 g) (Or.inl rfl) _
  have HB : Hid (Box (w_3.setRow g #[.int .i64 2, .slice a_3 (t.word.length + 1) c_3, .slice wa t.ws.length wc, .int .i64 t.dg, .bool t.bad]) g 46 #[.int .i64 2, .slice a_3 (t.word.length + 1) c_3, .slice wa t.ws.length wc, .int .i64 t.dg, .bool t.bad]) := HB.out.setRow _
  refine wp_storeW 30 _ _ rfl ⟨g, 1, none⟩ (.slice a_3 (t.word.length + 1) c_3) (by kernel_rfl) (by kernel_rfl) (w_3.setRow g #[.int .i64 2, .slice a_3 (t.word.length + 1) c_3, .slice wa t.ws.length wc, .int .i64 t.dg, .bool t.bad]) hst (by kernel_rfl) ?_
  try simp only [pA, pB, p1, p2, p3]
  clear hst
  generalize w_3.setRow g #[.int .i64 2, .slice a_3 (t.word.length + 1) c_3, .slice wa t.ws.length wc, .int .i64 t.dg, .bool t.bad] = wk5 at HW HY HK HB ⊢
  refine WL.nil ?_
  try simp only [pA, pB, p1, p2, p3]
  go_wp2
  go_end0
  rw [HC.out]
  exact ⟨rfl, by rw [HS.out]; exact RdA.of _ HB.out HW.out HY.out (Nat.le_trans HL.out HK.out.size) (by simp) (by simp [strV]) (by simp) (by simp) (by simp) (by simp [u8V, bi]) (by simp), HK.out⟩
set_option maxRecDepth 100000 in
set_option maxHeartbeats 4000000 in
theorem esc_x (n0 g : Nat) (t : St) (c : UInt8) (w : World) (hcut : RdA n0 w g t) (hws : t.ws.length ≤ 1000000000000) (hbt : t.word.length ≤ 1000000000000) (h120 : bi c = 120) (h92 : ¬ bi c = 92) (h34 : ¬ bi c = 34) (h110 : ¬ bi c = 110) (h116 : ¬ bi c = 116) : Calls Try.prog 24 #[.pointer (some ⟨g, 0, none⟩), .int .u8 (bi c)] w (PostR n0 g (escS t c) w) := by
  obtain ⟨C, hC⟩ : ∃ C : Ending → World → Prop, C = (PostR n0 g (escS t c) w) := ⟨_, rfl⟩
  have HC : Hid (C = (PostR n0 g (escS t c) w)) := hC
  rw [← hC]
  clear hC
  have HS : Hid (escS t c = { t with inn := 4 }) := by show _ = _; unfold escS; simp [h120, h92, h34, h110, h116]
  have e120 : (bi c == 120) = true := by simp [h120]
  have e92 : (bi c == 92) = false := by simp [h92]
  have e34 : (bi c == 34) = false := by simp [h34]
  have e110 : (bi c == 110) = false := by simp [h110]
  have e116 : (bi c == 116) = false := by simp [h116]
  clear h120 h92 h34 h110 h116
  obtain ⟨wa, wc, ba, bc, hC0⟩ := hcut
  have HB : Hid (Box w g 46 #[.int .i64 (t.inn : Int), .slice ba t.word.length bc, .slice wa t.ws.length wc, .int .i64 t.dg, .bool t.bad]) := hC0.box
  have HW : Hid (Own 9 1 w n0 wa wc t.ws.length (t.ws.map strV)) := hC0.hw
  have HY : Hid (Own 5 1 w n0 ba bc t.word.length (t.word.map u8V)) := hC0.hb
  have HL : Hid (n0 ≤ w.heap.size) := hC0.hn
  have HWd : Hid (t.ws.length ≤ 1000000000000) := hws
  have HBd : Hid (t.word.length ≤ 1000000000000) := hbt
  have HK : Hid (Kept (Sg n0 g) w w) := Kept.refl _ _
  clear hC0 hws hbt
  go_enter Try.func24, Try.ntmps24
  go_upto_region 0 with fail
  refine WL.start ?_
  refine tK (.pointer (some ⟨g, 0, none⟩)) ?_
  try simp only [pA, pB, p1, p2, p3]
  refine tK (.pointer (some ⟨g, 0, none⟩)) ?_
  try simp only [pA, pB, p1, p2, p3]
  refine tK (.pointer (some ⟨g, 0, none⟩)) ?_
  try simp only [pA, pB, p1, p2, p3]
  have hst : (storeVar 3 ⟨g, 0, none⟩ (.int .i64 2)).run Try.prog w = .ok () (w.setRow g #[.int .i64 2, .slice ba t.word.length bc, .slice wa t.ws.length wc, .int .i64 t.dg, .bool t.bad]) := run_store_to (cur := [.int .i64 (t.inn : Int), .slice ba t.word.length bc, .slice wa t.ws.length wc, .int .i64 t.dg, .bool t.bad]) (vs := [.int .i64 2]) (new := [.int .i64 2, .slice ba t.word.length bc, .slice wa t.ws.length wc, .int .i64 t.dg, .bool t.bad]) HB.out (by kernel_rfl) S3 (Nat.le_of_ble_eq_true (by kernel_rfl)) (by simp [Value.oneCell', strV, u8V]) (by kernel_rfl)
  have HW : Hid (Own 9 1 (w.setRow g #[.int .i64 2, .slice ba t.word.length bc, .slice wa t.ws.length wc, .int .i64 t.dg, .bool t.bad]) n0 wa wc t.ws.length (t.ws.map strV)) := HW.out.kept (Kept.setRow _ _ _) (HW.out.notBox HB.out (by decide))
  have HY : Hid (Own 5 1 (w.setRow g #[.int .i64 2, .slice ba t.word.length bc, .slice wa t.ws.length wc, .int .i64 t.dg, .bool t.bad]) n0 ba bc t.word.length (t.word.map u8V)) := HY.out.kept (Kept.setRow _ _ _) (HY.out.notBox HB.out (by decide))
  have HK : Hid (Kept (Sg n0 g) w (w.setRow g #[.int .i64 2, .slice ba t.word.length bc, .slice wa t.ws.length wc, .int .i64 t.dg, .bool t.bad])) := HK.out.inRow (S := Sg n0 g) (Or.inl rfl) _
  have HB : Hid (Box (w.setRow g #[.int .i64 2, .slice ba t.word.length bc, .slice wa t.ws.length wc, .int .i64 t.dg, .bool t.bad]) g 46 #[.int .i64 2, .slice ba t.word.length bc, .slice wa t.ws.length wc, .int .i64 t.dg, .bool t.bad]) := HB.out.setRow _
  refine wp_storeW 3 _ _ rfl ⟨g, 0, none⟩ (.int .i64 2) (by kernel_rfl) (by kernel_rfl) (w.setRow g #[.int .i64 2, .slice ba t.word.length bc, .slice wa t.ws.length wc, .int .i64 t.dg, .bool t.bad]) hst (by kernel_rfl) ?_
  try simp only [pA, pB, p1, p2, p3]
  clear hst
  generalize w.setRow g #[.int .i64 2, .slice ba t.word.length bc, .slice wa t.ws.length wc, .int .i64 t.dg, .bool t.bad] = wk1 at HW HY HK HB ⊢
  refine WL.nil ?_
  try simp only [pA, pB, p1, p2, p3]
  go_upto_region 1 with fail
  refine WL.start ?_
  refine tK (.int .u8 (bi c)) ?_
  try simp only [pA, pB, p1, p2, p3]
  refine WL.nil ?_
  try simp only [pA, pB, p1, p2, p3]
  go_upto_region 3 with fail
  refine WL.start ?_
  refine tW (.bool false) (exec_bin .eql 5 _ _ _ rfl (.int .u8 (bi c)) (.int .u8 92) (.bool false) (by kernel_rfl) (by kernel_rfl) (by kernel_rfl) (by rw [b_eq5, e92])) ?_
  try simp only [pA, pB, p1, p2, p3]
  refine tK (.bool false) ?_
  try simp only [pA, pB, p1, p2, p3]
  refine WL.nil ?_
  try simp only [pA, pB, p1, p2, p3]
  go_upto_region 4 with fail
  refine WL.start ?_
  refine tW (.bool false) (exec_bin .eql 5 _ _ _ rfl (.int .u8 (bi c)) (.int .u8 34) (.bool false) (by kernel_rfl) (by kernel_rfl) (by kernel_rfl) (by rw [b_eq5, e34])) ?_
  try simp only [pA, pB, p1, p2, p3]
  refine tK (.bool false) ?_
  try simp only [pA, pB, p1, p2, p3]
  refine WL.nil ?_
  try simp only [pA, pB, p1, p2, p3]
  go_upto_region 6 with fail
  refine WL.start ?_
  refine tW (.bool false) (exec_bin .eql 5 _ _ _ rfl (.int .u8 (bi c)) (.int .u8 110) (.bool false) (by kernel_rfl) (by kernel_rfl) (by kernel_rfl) (by rw [b_eq5, e110])) ?_
  try simp only [pA, pB, p1, p2, p3]
  refine tK (.bool false) ?_
  try simp only [pA, pB, p1, p2, p3]
  refine WL.nil ?_
  try simp only [pA, pB, p1, p2, p3]
  go_upto_region 8 with fail
  refine WL.start ?_
  refine tW (.bool false) (exec_bin .eql 5 _ _ _ rfl (.int .u8 (bi c)) (.int .u8 116) (.bool false) (by kernel_rfl) (by kernel_rfl) (by kernel_rfl) (by rw [b_eq5, e116])) ?_
  try simp only [pA, pB, p1, p2, p3]
  refine tK (.bool false) ?_
  try simp only [pA, pB, p1, p2, p3]
  refine WL.nil ?_
  try simp only [pA, pB, p1, p2, p3]
  go_upto_region 10 with fail
  refine WL.start ?_
  refine tW (.bool true) (exec_bin .eql 5 _ _ _ rfl (.int .u8 (bi c)) (.int .u8 120) (.bool true) (by kernel_rfl) (by kernel_rfl) (by kernel_rfl) (by rw [b_eq5, e120])) ?_
  try simp only [pA, pB, p1, p2, p3]
  refine tK (.bool true) ?_
  try simp only [pA, pB, p1, p2, p3]
  refine WL.nil ?_
  try simp only [pA, pB, p1, p2, p3]
  go_upto_region 11 with fail
  refine WL.start ?_
  refine tK (.pointer (some ⟨g, 0, none⟩)) ?_
  try simp only [pA, pB, p1, p2, p3]
  refine tK (.pointer (some ⟨g, 0, none⟩)) ?_
  try simp only [pA, pB, p1, p2, p3]
  refine tK (.pointer (some ⟨g, 0, none⟩)) ?_
  try simp only [pA, pB, p1, p2, p3]
  have hst : (storeVar 3 ⟨g, 0, none⟩ (.int .i64 4)).run Try.prog wk1 = .ok () (wk1.setRow g #[.int .i64 4, .slice ba t.word.length bc, .slice wa t.ws.length wc, .int .i64 t.dg, .bool t.bad]) := run_store_to (cur := [.int .i64 2, .slice ba t.word.length bc, .slice wa t.ws.length wc, .int .i64 t.dg, .bool t.bad]) (vs := [.int .i64 4]) (new := [.int .i64 4, .slice ba t.word.length bc, .slice wa t.ws.length wc, .int .i64 t.dg, .bool t.bad]) HB.out (by kernel_rfl) S3 (Nat.le_of_ble_eq_true (by kernel_rfl)) (by simp [Value.oneCell', strV, u8V]) (by kernel_rfl)
  have HW : Hid (Own 9 1 (wk1.setRow g #[.int .i64 4, .slice ba t.word.length bc, .slice wa t.ws.length wc, .int .i64 t.dg, .bool t.bad]) n0 wa wc t.ws.length (t.ws.map strV)) := HW.out.kept (Kept.setRow _ _ _) (HW.out.notBox HB.out (by decide))
  have HY : Hid (Own 5 1 (wk1.setRow g #[.int .i64 4, .slice ba t.word.length bc, .slice wa t.ws.length wc, .int .i64 t.dg, .bool t.bad]) n0 ba bc t.word.length (t.word.map u8V)) := HY.out.kept (Kept.setRow _ _ _) (HY.out.notBox HB.out (by decide))
  have HK : Hid (Kept (Sg n0 g) w (wk1.setRow g #[.int .i64 4, .slice ba t.word.length bc, .slice wa t.ws.length wc, .int .i64 t.dg, .bool t.bad])) := HK.out.inRow (S := Sg n0 g) (Or.inl rfl) _
  have HB : Hid (Box (wk1.setRow g #[.int .i64 4, .slice ba t.word.length bc, .slice wa t.ws.length wc, .int .i64 t.dg, .bool t.bad]) g 46 #[.int .i64 4, .slice ba t.word.length bc, .slice wa t.ws.length wc, .int .i64 t.dg, .bool t.bad]) := HB.out.setRow _
  refine wp_storeW 3 _ _ rfl ⟨g, 0, none⟩ (.int .i64 4) (by kernel_rfl) (by kernel_rfl) (wk1.setRow g #[.int .i64 4, .slice ba t.word.length bc, .slice wa t.ws.length wc, .int .i64 t.dg, .bool t.bad]) hst (by kernel_rfl) ?_
  try simp only [pA, pB, p1, p2, p3]
  clear hst
  generalize wk1.setRow g #[.int .i64 4, .slice ba t.word.length bc, .slice wa t.ws.length wc, .int .i64 t.dg, .bool t.bad] = wk2 at HW HY HK HB ⊢
  refine WL.nil ?_
  try simp only [pA, pB, p1, p2, p3]
  go_wp2
  go_end0
  rw [HC.out]
  exact ⟨rfl, by rw [HS.out]; exact RdA.of _ HB.out HW.out HY.out (Nat.le_trans HL.out HK.out.size) (by simp) (by simp [strV]) (by simp) (by simp) (by simp) (by simp [u8V, bi]) (by simp), HK.out⟩
set_option maxRecDepth 100000 in
set_option maxHeartbeats 4000000 in
theorem esc_w (n0 g : Nat) (t : St) (c : UInt8) (w : World) (hcut : RdA n0 w g t) (hws : t.ws.length ≤ 1000000000000) (hbt : t.word.length ≤ 1000000000000)  (h92 : ¬ bi c = 92) (h34 : ¬ bi c = 34) (h110 : ¬ bi c = 110) (h116 : ¬ bi c = 116) (h120 : ¬ bi c = 120) : Calls Try.prog 24 #[.pointer (some ⟨g, 0, none⟩), .int .u8 (bi c)] w (PostR n0 g (escS t c) w) := by
  obtain ⟨C, hC⟩ : ∃ C : Ending → World → Prop, C = (PostR n0 g (escS t c) w) := ⟨_, rfl⟩
  have HC : Hid (C = (PostR n0 g (escS t c) w)) := hC
  rw [← hC]
  clear hC
  have HS : Hid (escS t c = { t with inn := 2, bad := true }) := by show _ = _; unfold escS; simp [h92, h34, h110, h116, h120]
  have e92 : (bi c == 92) = false := by simp [h92]
  have e34 : (bi c == 34) = false := by simp [h34]
  have e110 : (bi c == 110) = false := by simp [h110]
  have e116 : (bi c == 116) = false := by simp [h116]
  have e120 : (bi c == 120) = false := by simp [h120]
  clear h92 h34 h110 h116 h120
  obtain ⟨wa, wc, ba, bc, hC0⟩ := hcut
  have HB : Hid (Box w g 46 #[.int .i64 (t.inn : Int), .slice ba t.word.length bc, .slice wa t.ws.length wc, .int .i64 t.dg, .bool t.bad]) := hC0.box
  have HW : Hid (Own 9 1 w n0 wa wc t.ws.length (t.ws.map strV)) := hC0.hw
  have HY : Hid (Own 5 1 w n0 ba bc t.word.length (t.word.map u8V)) := hC0.hb
  have HL : Hid (n0 ≤ w.heap.size) := hC0.hn
  have HWd : Hid (t.ws.length ≤ 1000000000000) := hws
  have HBd : Hid (t.word.length ≤ 1000000000000) := hbt
  have HK : Hid (Kept (Sg n0 g) w w) := Kept.refl _ _
  clear hC0 hws hbt
  go_enter Try.func24, Try.ntmps24
  go_upto_region 0 with fail
  refine WL.start ?_
  refine tK (.pointer (some ⟨g, 0, none⟩)) ?_
  try simp only [pA, pB, p1, p2, p3]
  refine tK (.pointer (some ⟨g, 0, none⟩)) ?_
  try simp only [pA, pB, p1, p2, p3]
  refine tK (.pointer (some ⟨g, 0, none⟩)) ?_
  try simp only [pA, pB, p1, p2, p3]
  have hst : (storeVar 3 ⟨g, 0, none⟩ (.int .i64 2)).run Try.prog w = .ok () (w.setRow g #[.int .i64 2, .slice ba t.word.length bc, .slice wa t.ws.length wc, .int .i64 t.dg, .bool t.bad]) := run_store_to (cur := [.int .i64 (t.inn : Int), .slice ba t.word.length bc, .slice wa t.ws.length wc, .int .i64 t.dg, .bool t.bad]) (vs := [.int .i64 2]) (new := [.int .i64 2, .slice ba t.word.length bc, .slice wa t.ws.length wc, .int .i64 t.dg, .bool t.bad]) HB.out (by kernel_rfl) S3 (Nat.le_of_ble_eq_true (by kernel_rfl)) (by simp [Value.oneCell', strV, u8V]) (by kernel_rfl)
  have HW : Hid (Own 9 1 (w.setRow g #[.int .i64 2, .slice ba t.word.length bc, .slice wa t.ws.length wc, .int .i64 t.dg, .bool t.bad]) n0 wa wc t.ws.length (t.ws.map strV)) := HW.out.kept (Kept.setRow _ _ _) (HW.out.notBox HB.out (by decide))
  have HY : Hid (Own 5 1 (w.setRow g #[.int .i64 2, .slice ba t.word.length bc, .slice wa t.ws.length wc, .int .i64 t.dg, .bool t.bad]) n0 ba bc t.word.length (t.word.map u8V)) := HY.out.kept (Kept.setRow _ _ _) (HY.out.notBox HB.out (by decide))
  have HK : Hid (Kept (Sg n0 g) w (w.setRow g #[.int .i64 2, .slice ba t.word.length bc, .slice wa t.ws.length wc, .int .i64 t.dg, .bool t.bad])) := HK.out.inRow (S := Sg n0 g) (Or.inl rfl) _
  have HB : Hid (Box (w.setRow g #[.int .i64 2, .slice ba t.word.length bc, .slice wa t.ws.length wc, .int .i64 t.dg, .bool t.bad]) g 46 #[.int .i64 2, .slice ba t.word.length bc, .slice wa t.ws.length wc, .int .i64 t.dg, .bool t.bad]) := HB.out.setRow _
  refine wp_storeW 3 _ _ rfl ⟨g, 0, none⟩ (.int .i64 2) (by kernel_rfl) (by kernel_rfl) (w.setRow g #[.int .i64 2, .slice ba t.word.length bc, .slice wa t.ws.length wc, .int .i64 t.dg, .bool t.bad]) hst (by kernel_rfl) ?_
  try simp only [pA, pB, p1, p2, p3]
  clear hst
  generalize w.setRow g #[.int .i64 2, .slice ba t.word.length bc, .slice wa t.ws.length wc, .int .i64 t.dg, .bool t.bad] = wk1 at HW HY HK HB ⊢
  refine WL.nil ?_
  try simp only [pA, pB, p1, p2, p3]
  go_upto_region 1 with fail
  refine WL.start ?_
  refine tK (.int .u8 (bi c)) ?_
  try simp only [pA, pB, p1, p2, p3]
  refine WL.nil ?_
  try simp only [pA, pB, p1, p2, p3]
  go_upto_region 3 with fail
  refine WL.start ?_
  refine tW (.bool false) (exec_bin .eql 5 _ _ _ rfl (.int .u8 (bi c)) (.int .u8 92) (.bool false) (by kernel_rfl) (by kernel_rfl) (by kernel_rfl) (by rw [b_eq5, e92])) ?_
  try simp only [pA, pB, p1, p2, p3]
  refine tK (.bool false) ?_
  try simp only [pA, pB, p1, p2, p3]
  refine WL.nil ?_
  try simp only [pA, pB, p1, p2, p3]
  go_upto_region 4 with fail
  refine WL.start ?_
  refine tW (.bool false) (exec_bin .eql 5 _ _ _ rfl (.int .u8 (bi c)) (.int .u8 34) (.bool false) (by kernel_rfl) (by kernel_rfl) (by kernel_rfl) (by rw [b_eq5, e34])) ?_
  try simp only [pA, pB, p1, p2, p3]
  refine tK (.bool false) ?_
  try simp only [pA, pB, p1, p2, p3]
  refine WL.nil ?_
  try simp only [pA, pB, p1, p2, p3]
  go_upto_region 6 with fail
  refine WL.start ?_
  refine tW (.bool false) (exec_bin .eql 5 _ _ _ rfl (.int .u8 (bi c)) (.int .u8 110) (.bool false) (by kernel_rfl) (by kernel_rfl) (by kernel_rfl) (by rw [b_eq5, e110])) ?_
  try simp only [pA, pB, p1, p2, p3]
  refine tK (.bool false) ?_
  try simp only [pA, pB, p1, p2, p3]
  refine WL.nil ?_
  try simp only [pA, pB, p1, p2, p3]
  go_upto_region 8 with fail
  refine WL.start ?_
  refine tW (.bool false) (exec_bin .eql 5 _ _ _ rfl (.int .u8 (bi c)) (.int .u8 116) (.bool false) (by kernel_rfl) (by kernel_rfl) (by kernel_rfl) (by rw [b_eq5, e116])) ?_
  try simp only [pA, pB, p1, p2, p3]
  refine tK (.bool false) ?_
  try simp only [pA, pB, p1, p2, p3]
  refine WL.nil ?_
  try simp only [pA, pB, p1, p2, p3]
  go_upto_region 10 with fail
  refine WL.start ?_
  refine tW (.bool false) (exec_bin .eql 5 _ _ _ rfl (.int .u8 (bi c)) (.int .u8 120) (.bool false) (by kernel_rfl) (by kernel_rfl) (by kernel_rfl) (by rw [b_eq5, e120])) ?_
  try simp only [pA, pB, p1, p2, p3]
  refine tK (.bool false) ?_
  try simp only [pA, pB, p1, p2, p3]
  refine WL.nil ?_
  try simp only [pA, pB, p1, p2, p3]
  go_upto_region 2 with fail
  refine WL.start ?_
  refine tK (.pointer (some ⟨g, 0, none⟩)) ?_
  try simp only [pA, pB, p1, p2, p3]
  refine tK (.pointer (some ⟨g, 0, none⟩)) ?_
  try simp only [pA, pB, p1, p2, p3]
  refine tK (.pointer (some ⟨g, 4, none⟩)) ?_
  try simp only [pA, pB, p1, p2, p3]
  have hst : (storeVar 4 ⟨g, 4, none⟩ (.bool true)).run Try.prog wk1 = .ok () (wk1.setRow g #[.int .i64 2, .slice ba t.word.length bc, .slice wa t.ws.length wc, .int .i64 t.dg, .bool true]) := run_store_to (cur := [.int .i64 2, .slice ba t.word.length bc, .slice wa t.ws.length wc, .int .i64 t.dg, .bool t.bad]) (vs := [.bool true]) (new := [.int .i64 2, .slice ba t.word.length bc, .slice wa t.ws.length wc, .int .i64 t.dg, .bool true]) HB.out (by kernel_rfl) S4 (Nat.le_of_ble_eq_true (by kernel_rfl)) (by simp [Value.oneCell', strV, u8V]) (by kernel_rfl)
  have HW : Hid (Own 9 1 (wk1.setRow g #[.int .i64 2, .slice ba t.word.length bc, .slice wa t.ws.length wc, .int .i64 t.dg, .bool true]) n0 wa wc t.ws.length (t.ws.map strV)) := HW.out.kept (Kept.setRow _ _ _) (HW.out.notBox HB.out (by decide))
  have HY : Hid (Own 5 1 (wk1.setRow g #[.int .i64 2, .slice ba t.word.length bc, .slice wa t.ws.length wc, .int .i64 t.dg, .bool true]) n0 ba bc t.word.length (t.word.map u8V)) := HY.out.kept (Kept.setRow _ _ _) (HY.out.notBox HB.out (by decide))
  have HK : Hid (Kept (Sg n0 g) w (wk1.setRow g #[.int .i64 2, .slice ba t.word.length bc, .slice wa t.ws.length wc, .int .i64 t.dg, .bool true])) := HK.out.inRow (S := Sg n0 g) (Or.inl rfl) _
  have HB : Hid (Box (wk1.setRow g #[.int .i64 2, .slice ba t.word.length bc, .slice wa t.ws.length wc, .int .i64 t.dg, .bool true]) g 46 #[.int .i64 2, .slice ba t.word.length bc, .slice wa t.ws.length wc, .int .i64 t.dg, .bool true]) := HB.out.setRow _
  refine wp_storeW 4 _ _ rfl ⟨g, 4, none⟩ (.bool true) (by kernel_rfl) (by kernel_rfl) (wk1.setRow g #[.int .i64 2, .slice ba t.word.length bc, .slice wa t.ws.length wc, .int .i64 t.dg, .bool true]) hst (by kernel_rfl) ?_
  try simp only [pA, pB, p1, p2, p3]
  clear hst
  generalize wk1.setRow g #[.int .i64 2, .slice ba t.word.length bc, .slice wa t.ws.length wc, .int .i64 t.dg, .bool true] = wk2 at HW HY HK HB ⊢
  refine WL.nil ?_
  try simp only [pA, pB, p1, p2, p3]
  go_wp2
  go_end0
  rw [HC.out]
  exact ⟨rfl, by rw [HS.out]; exact RdA.of _ HB.out HW.out HY.out (Nat.le_trans HL.out HK.out.size) (by simp) (by simp [strV]) (by simp) (by simp) (by simp) (by simp [u8V, bi]) (by simp), HK.out⟩
theorem esc_any (n0 g : Nat) (t : St) (c : UInt8) (w : World) (hcut : RdA n0 w g t) (hws : t.ws.length ≤ 1000000000000) (hbt : t.word.length ≤ 1000000000000) : Calls Try.prog 24 #[.pointer (some ⟨g, 0, none⟩), .int .u8 (bi c)] w (PostR n0 g (escS t c) w) := by
  by_cases a1 : bi c = 92
  · exact esc_s n0 g t c w hcut hws hbt a1
  by_cases a2 : bi c = 34
  · exact esc_q n0 g t c w hcut hws hbt a2
  by_cases a3 : bi c = 110
  · exact esc_n n0 g t c w hcut hws hbt a3 a1 a2
  by_cases a4 : bi c = 116
  · exact esc_t n0 g t c w hcut hws hbt a4 a1 a2 a3
  by_cases a5 : bi c = 120
  · exact esc_x n0 g t c w hcut hws hbt a5 a1 a2 a3 a4
  exact esc_w n0 g t c w hcut hws hbt a1 a2 a3 a4 a5

end Go.Proofs.Ytgnfeegnhdbnkaa
