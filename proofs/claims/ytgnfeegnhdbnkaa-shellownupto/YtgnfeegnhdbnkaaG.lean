import Derived.Test.YtgnfeegnhdbnkaaF
namespace Go.Proofs.Ytgnfeegnhdbnkaa
open Go.RowKit Go.Lib
set_option linter.unusedVariables false
set_option linter.unusedSimpArgs false

set_option maxRecDepth 100000 in
set_option maxHeartbeats 4000000 in
theorem quo_s (n0 g : Nat) (l : List UInt8) (s : Cs) (i : Nat) (r : Int) (w : World) (hcut : CutA n0 w g l s) (hi : i < l.length) (hl : l.length ≤ 1000000000000) (hfr : s.fr ≤ i) (hws : s.ws.length ≤ 1000000000000) (hbt : s.bt.length ≤ 1000000000000) (hr : r = 92) : Calls Try.prog 15 #[.pointer (some ⟨g, 0, none⟩), .int .i64 (i : Int), .int .i32 r] w (fun e w' => e = .returned (.tuple #[]) ∧ CutA n0 w' g l (quoS l s i r) ∧ Kept (Sg n0 g) w w') := by
  obtain ⟨C, hC⟩ : ∃ C : Ending → World → Prop, C = (fun e w' => e = .returned (.tuple #[]) ∧ CutA n0 w' g l (quoS l s i r) ∧ Kept (Sg n0 g) w w') := ⟨_, rfl⟩
  have HC : Hid (C = (fun e w' => e = .returned (.tuple #[]) ∧ CutA n0 w' g l (quoS l s i r) ∧ Kept (Sg n0 g) w w')) := hC
  rw [← hC]
  clear hC
  subst hr
  have HS : Hid (quoS l s i 92 = { s with pl := 3, bt := s.bt ++ cutL l s.fr i }) := rfl
  obtain ⟨wa, wc, ba, bc, hC0⟩ := hcut
  have HB : Hid (Box w g 40 #[.string (bs l), .slice wa s.ws.length wc, .int .i64 (s.pl : Int), .int .i64 (s.fr : Int), .slice ba s.bt.length bc]) := hC0.box
  have HW : Hid (Own 9 1 w n0 wa wc s.ws.length (s.ws.map strV)) := hC0.hw
  have HY : Hid (Own 5 1 w n0 ba bc s.bt.length (s.bt.map u8V)) := hC0.hb
  have HL : Hid (n0 ≤ w.heap.size) := hC0.hn
  have HK : Hid (Kept (Sg n0 g) w w) := Kept.refl _ _
  clear hC0
  have HI : Hid (i < l.length ∧ l.length ≤ 1000000000000) := ⟨hi, hl⟩
  have HFr : Hid (s.fr ≤ i) := hfr
  have HWd : Hid (s.ws.length ≤ 1000000000000) := hws
  have HBd : Hid (s.bt.length ≤ 1000000000000) := hbt
  clear hi hl hfr hws hbt
  go_enter Try.func15, Try.ntmps15
  go_upto_region 0 with fail
  refine WL.start ?_
  refine tK (.int .i32 92) ?_
  try simp only [pA, pB, p1, p2, p3]
  refine WL.nil ?_
  try simp only [pA, pB, p1, p2, p3]
  go_upto_region 1 with fail
  refine WL.start ?_
  refine tK (.bool true) ?_
  try simp only [pA, pB, p1, p2, p3]
  refine tK (.bool true) ?_
  try simp only [pA, pB, p1, p2, p3]
  refine WL.nil ?_
  try simp only [pA, pB, p1, p2, p3]
  go_upto_region 2 with fail
  have HW : Hid (Own 9 1 w.drew n0 wa wc s.ws.length (s.ws.map strV)) := HW.out.no (Kept.refl No _).drew
  have HY : Hid (Own 5 1 w.drew n0 ba bc s.bt.length (s.bt.map u8V)) := HY.out.no (Kept.refl No _).drew
  have HK : Hid (Kept (Sg n0 g) w w.drew) := HK.out.drew
  have HB : Hid (Box w.drew g 40 #[.string (bs l), .slice wa s.ws.length wc, .int .i64 (s.pl : Int), .int .i64 (s.fr : Int), .slice ba s.bt.length bc]) := HB.out.kept (Kept.refl No _).drew (fun e => e)
  refine wp_region_held_drew (S := fun w' => w'.cell? ⟨g, 0, none⟩ = some (.string (bs l)) ∧ w'.cell? ⟨g, 3, none⟩ = some (.int .i64 (s.fr : Int))) rfl ⟨(HB.out.cell 0), (HB.out.cell 3)⟩ (fun hH => ?_)
  generalize w.drew = wk1 at HW HY HK HB hH ⊢
  refine aT (i := 0) (oi := { dst := some 9, op := Op.move (Operand.tmp 0), type := 50, pos := "word.go:81", after := #[], guard := none }) (v := .pointer (some ⟨g, 0, none⟩)) (fun _ _ => by kernel_rfl) hH ?_
  try simp only [pA, pB, p1, p2, p3]
  refine aT (i := 1) (oi := { dst := some 10, op := Op.move (Operand.tmp 0), type := 50, pos := "word.go:81", after := #[{ on := 19, ground := Ground.gcOnly Departure.lateStores }], guard := none }) (v := .pointer (some ⟨g, 0, none⟩)) (fun _ _ => by kernel_rfl) hH ?_
  try simp only [pA, pB, p1, p2, p3]
  refine aT (i := 2) (oi := { dst := some 11, op := Op.move (Operand.tmp 0), type := 50, pos := "word.go:81", after := #[], guard := none }) (v := .pointer (some ⟨g, 0, none⟩)) (fun _ _ => by kernel_rfl) hH ?_
  try simp only [pA, pB, p1, p2, p3]
  refine aT (i := 3) (oi := { dst := some 12, op := Op.nilCheck (Operand.tmp 11), type := 0, pos := "word.go:81", after := #[{ on := 2, ground := Ground.data }], guard := none }) (v := .pointer (some ⟨g, 0, none⟩)) (fun _ _ => by kernel_rfl) hH ?_
  try simp only [pA, pB, p1, p2, p3]
  refine aT (i := 4) (oi := { dst := some 13, op := Op.fieldAddr 40 (Operand.tmp 12) 4, type := 0, pos := "word.go:81", after := #[{ on := 3, ground := Ground.data }], guard := none }) (v := .pointer (some ⟨g, 4, none⟩)) (fun _ _ => by kernel_rfl) hH ?_
  try simp only [pA, pB, p1, p2, p3]
  refine aT (i := 6) (oi := { dst := some 15, op := Op.move (Operand.tmp 0), type := 50, pos := "word.go:81", after := #[], guard := none }) (v := .pointer (some ⟨g, 0, none⟩)) (fun _ _ => by kernel_rfl) hH ?_
  try simp only [pA, pB, p1, p2, p3]
  refine aT (i := 7) (oi := { dst := some 16, op := Op.nilCheck (Operand.tmp 15), type := 0, pos := "word.go:81", after := #[{ on := 6, ground := Ground.data }], guard := none }) (v := .pointer (some ⟨g, 0, none⟩)) (fun _ _ => by kernel_rfl) hH ?_
  try simp only [pA, pB, p1, p2, p3]
  refine aT (i := 8) (oi := { dst := some 17, op := Op.fieldAddr 40 (Operand.tmp 16) 0, type := 0, pos := "word.go:81", after := #[{ on := 7, ground := Ground.data }], guard := none }) (v := .pointer (some ⟨g, 0, none⟩)) (fun _ _ => by kernel_rfl) hH ?_
  try simp only [pA, pB, p1, p2, p3]
  refine aT (i := 9) (oi := { dst := some 18, op := Op.load 9 (Operand.tmp 17), type := 9, pos := "word.go:81", after := #[{ on := 8, ground := Ground.data }], guard := none }) (v := .string (bs l)) (fun w' hw => exec_load 9 _ rfl ⟨g, 0, none⟩ (by kernel_rfl) (.string (bs l)) (load_one hw.1 U9 rfl)) hH ?_
  try simp only [pA, pB, p1, p2, p3]
  refine aT (i := 10) (oi := { dst := some 19, op := Op.move (Operand.tmp 0), type := 50, pos := "word.go:81", after := #[], guard := none }) (v := .pointer (some ⟨g, 0, none⟩)) (fun _ _ => by kernel_rfl) hH ?_
  try simp only [pA, pB, p1, p2, p3]
  refine aT (i := 11) (oi := { dst := some 20, op := Op.nilCheck (Operand.tmp 19), type := 0, pos := "word.go:81", after := #[{ on := 10, ground := Ground.data }], guard := none }) (v := .pointer (some ⟨g, 0, none⟩)) (fun _ _ => by kernel_rfl) hH ?_
  try simp only [pA, pB, p1, p2, p3]
  refine aT (i := 12) (oi := { dst := some 21, op := Op.fieldAddr 40 (Operand.tmp 20) 3, type := 0, pos := "word.go:81", after := #[{ on := 11, ground := Ground.data }], guard := none }) (v := .pointer (some ⟨g, 3, none⟩)) (fun _ _ => by kernel_rfl) hH ?_
  try simp only [pA, pB, p1, p2, p3]
  refine aT (i := 13) (oi := { dst := some 22, op := Op.load 3 (Operand.tmp 21), type := 3, pos := "word.go:81", after := #[{ on := 12, ground := Ground.data }], guard := none }) (v := .int .i64 (s.fr : Int)) (fun w' hw => exec_load 3 _ rfl ⟨g, 3, none⟩ (by kernel_rfl) (.int .i64 (s.fr : Int)) (load_one hw.2 U3 rfl)) hH ?_
  try simp only [pA, pB, p1, p2, p3]
  refine aT (i := 14) (oi := { dst := some 23, op := Op.move (Operand.tmp 1), type := 3, pos := "word.go:81", after := #[], guard := none }) (v := .int .i64 (i : Int)) (fun _ _ => by kernel_rfl) hH ?_
  try simp only [pA, pB, p1, p2, p3]
  refine aT (i := 15) (oi := { dst := some 24, op := Op.slice 9 (Operand.tmp 18) (some (Operand.tmp 22)) (some (Operand.tmp 23)) none, type := 9, pos := "word.go:81", after := #[{ on := 9, ground := Ground.data }, { on := 13, ground := Ground.data }, { on := 14, ground := Ground.data }], guard := none }) (v := .string (bs (cutL l s.fr i))) (fun w' hw => exec_sl _ _ _ rfl (.string (bs l)) (.string (bs (cutL l s.fr i))) (some (.int .i64 (s.fr : Int))) (some (.int .i64 (i : Int))) (by kernel_rfl) (by kernel_rfl) (by kernel_rfl) (run_cut l s.fr i HFr.out (by have := HI.out; omega))) hH ?_
  try simp only [pA, pB, p1, p2, p3]
  refine any_step (i := 5) (o := { dst := some 14, op := Op.load 30 (Operand.tmp 13), type := 30, pos := "word.go:81", after := #[{ on := 4, ground := Ground.data }], guard := none }) (v := .slice ba s.bt.length bc) (w' := wk1) rfl (by kernel_rfl) (by kernel_rfl) (exec_load 30 _ rfl ⟨g, 4, none⟩ (by kernel_rfl) (.slice ba s.bt.length bc) (load_one (HB.out.cell 4) U30 rfl)) ⟨(HB.out.cell 0), (HB.out.cell 3)⟩ (fun hH => ?_)
  try simp only [pA, pB, p1, p2, p3]
  obtain ⟨a_1, c_1, w_1, hrun, ho, hc⟩ := run_appS HY.out 30 (cutL l s.fr i) (by have h1 := HI.out; have h2 := HBd.out; have h3 := HWd.out; have h4 := cutL_len l s.fr i; omega) (Nat.le_trans HL.out HK.out.size)
  skip
  have HW : Hid (Own 9 1 w_1 n0 wa wc s.ws.length (s.ws.map strV)) := HW.out.kept hc (own_apart HW.out HY.out (by decide))
  have HK : Hid (Kept (Sg n0 g) w w_1) := HK.out.trans hc (fun _ e => e) (fun _ _ e => Or.inr (HY.out.base e))
  have HB : Hid (Box w_1 g 40 #[.string (bs l), .slice wa s.ws.length wc, .int .i64 (s.pl : Int), .int .i64 (s.fr : Int), .slice ba s.bt.length bc]) := HB.out.kept hc (HY.out.offBox HB.out (by decide))
  have HY : Hid (Own 5 1 w_1 n0 a_1 c_1 (s.bt.length + ((cutL l s.fr i)).length) (s.bt.map u8V ++ ((cutL l s.fr i)).map u8V)) := ho
  refine any_step (i := 16) (o := { dst := some 25, op := Op.call { callee := Callee.builtin Builtin.append, args := #[Operand.tmp 14, Operand.tmp 24], argTypes := #[30, 9] }, type := 30, pos := "word.go:81", after := #[{ on := 5, ground := Ground.data }, { on := 15, ground := Ground.data }], guard := none }) (v := .slice a_1 (s.bt.length + ((cutL l s.fr i)).length) c_1) (w' := w_1) rfl (by kernel_rfl) (by kernel_rfl) (exec_app _ _ 30 9 rfl _ _ _ (by kernel_rfl) (by kernel_rfl) hrun) ⟨(HB.out.cell 0), (HB.out.cell 3)⟩ (fun hH => ?_)
  try simp only [pA, pB, p1, p2, p3]
  clear hrun ho hc
  refine aT (i := 17) (oi := { dst := some 26, op := Op.nilCheck (Operand.tmp 9), type := 0, pos := "word.go:81", after := #[{ on := 0, ground := Ground.data }, { on := 0, ground := Ground.phase }, { on := 1, ground := Ground.textOnly Departure.lateStores }, { on := 2, ground := Ground.textOnly Departure.lateStores }, { on := 3, ground := Ground.textOnly Departure.lateStoresUnsure }, { on := 4, ground := Ground.textOnly Departure.lateStoresUnsure }, { on := 5, ground := Ground.phase }, { on := 6, ground := Ground.textOnly Departure.lateStores }, { on := 7, ground := Ground.textOnly Departure.lateStoresUnsure }, { on := 8, ground := Ground.textOnly Departure.lateStoresUnsure }, { on := 9, ground := Ground.phase }, { on := 10, ground := Ground.textOnly Departure.lateStores }, { on := 11, ground := Ground.textOnly Departure.lateStoresUnsure }, { on := 12, ground := Ground.textOnly Departure.lateStoresUnsure }, { on := 13, ground := Ground.phase }, { on := 14, ground := Ground.textOnly Departure.lateStores }, { on := 15, ground := Ground.textOnly Departure.lateStoresUnsure }, { on := 16, ground := Ground.phase }], guard := none }) (v := .pointer (some ⟨g, 0, none⟩)) (fun _ _ => by kernel_rfl) hH ?_
  try simp only [pA, pB, p1, p2, p3]
  refine aT (i := 18) (oi := { dst := some 27, op := Op.fieldAddr 40 (Operand.tmp 26) 2, type := 0, pos := "word.go:81", after := #[{ on := 17, ground := Ground.data }, { on := 0, ground := Ground.phase }, { on := 1, ground := Ground.textOnly Departure.lateStores }, { on := 2, ground := Ground.textOnly Departure.lateStores }, { on := 3, ground := Ground.textOnly Departure.lateStoresUnsure }, { on := 4, ground := Ground.textOnly Departure.lateStoresUnsure }, { on := 5, ground := Ground.phase }, { on := 6, ground := Ground.textOnly Departure.lateStores }, { on := 7, ground := Ground.textOnly Departure.lateStoresUnsure }, { on := 8, ground := Ground.textOnly Departure.lateStoresUnsure }, { on := 9, ground := Ground.phase }, { on := 10, ground := Ground.textOnly Departure.lateStores }, { on := 11, ground := Ground.textOnly Departure.lateStoresUnsure }, { on := 12, ground := Ground.textOnly Departure.lateStoresUnsure }, { on := 13, ground := Ground.phase }, { on := 14, ground := Ground.textOnly Departure.lateStores }, { on := 15, ground := Ground.textOnly Departure.lateStoresUnsure }, { on := 16, ground := Ground.phase }], guard := none }) (v := .pointer (some ⟨g, 2, none⟩)) (fun _ _ => by kernel_rfl) hH ?_
  try simp only [pA, pB, p1, p2, p3]
  have hst : (storeVar 38 ⟨g, 2, none⟩ (.int .i64 3)).run Try.prog w_1 = .ok () (w_1.setRow g #[.string (bs l), .slice wa s.ws.length wc, .int .i64 3, .int .i64 (s.fr : Int), .slice ba s.bt.length bc]) := run_store_to (cur := [.string (bs l), .slice wa s.ws.length wc, .int .i64 (s.pl : Int), .int .i64 (s.fr : Int), .slice ba s.bt.length bc]) (vs := [.int .i64 3]) (new := [.string (bs l), .slice wa s.ws.length wc, .int .i64 3, .int .i64 (s.fr : Int), .slice ba s.bt.length bc]) HB.out (by kernel_rfl) S38 (Nat.le_of_ble_eq_true (by kernel_rfl)) (by simp [Value.oneCell', strV, u8V]) (by kernel_rfl)
  have HW : Hid (Own 9 1 (w_1.setRow g #[.string (bs l), .slice wa s.ws.length wc, .int .i64 3, .int .i64 (s.fr : Int), .slice ba s.bt.length bc]) n0 wa wc s.ws.length (s.ws.map strV)) := HW.out.kept (Kept.setRow _ _ _) (HW.out.notBox HB.out (by decide))
  have HY : Hid (Own 5 1 (w_1.setRow g #[.string (bs l), .slice wa s.ws.length wc, .int .i64 3, .int .i64 (s.fr : Int), .slice ba s.bt.length bc]) n0 a_1 c_1 (s.bt.length + ((cutL l s.fr i)).length) (s.bt.map u8V ++ ((cutL l s.fr i)).map u8V)) := HY.out.kept (Kept.setRow _ _ _) (HY.out.notBox HB.out (by decide))
  have HK : Hid (Kept (Sg n0 g) w (w_1.setRow g #[.string (bs l), .slice wa s.ws.length wc, .int .i64 3, .int .i64 (s.fr : Int), .slice ba s.bt.length bc])) := HK.out.inRow (S := Sg n0 g) (Or.inl rfl) _
  have HB : Hid (Box (w_1.setRow g #[.string (bs l), .slice wa s.ws.length wc, .int .i64 3, .int .i64 (s.fr : Int), .slice ba s.bt.length bc]) g 40 #[.string (bs l), .slice wa s.ws.length wc, .int .i64 3, .int .i64 (s.fr : Int), .slice ba s.bt.length bc]) := HB.out.setRow _
  refine any_store (i := 19) (o := { dst := none, op := Op.store 38 (Operand.tmp 27) (Operand.const (Value.int IntKind.i64 3)), type := 0, pos := "word.go:81", after := #[{ on := 18, ground := Ground.data }, { on := 16, ground := Ground.chain }, { on := 0, ground := Ground.phase }, { on := 1, ground := Ground.textOnly Departure.lateStores }, { on := 2, ground := Ground.textOnly Departure.lateStores }, { on := 3, ground := Ground.textOnly Departure.lateStoresUnsure }, { on := 4, ground := Ground.textOnly Departure.lateStoresUnsure }, { on := 5, ground := Ground.phase }, { on := 6, ground := Ground.textOnly Departure.lateStores }, { on := 7, ground := Ground.textOnly Departure.lateStoresUnsure }, { on := 8, ground := Ground.textOnly Departure.lateStoresUnsure }, { on := 9, ground := Ground.phase }, { on := 10, ground := Ground.textOnly Departure.lateStores }, { on := 11, ground := Ground.textOnly Departure.lateStoresUnsure }, { on := 12, ground := Ground.textOnly Departure.lateStoresUnsure }, { on := 13, ground := Ground.phase }, { on := 14, ground := Ground.textOnly Departure.lateStores }, { on := 15, ground := Ground.textOnly Departure.lateStoresUnsure }, { on := 16, ground := Ground.phase }], guard := none }) (w' := w_1.setRow g #[.string (bs l), .slice wa s.ws.length wc, .int .i64 3, .int .i64 (s.fr : Int), .slice ba s.bt.length bc]) rfl (by kernel_rfl) (by kernel_rfl) 38 _ _ rfl ⟨g, 2, none⟩ (.int .i64 3) (by kernel_rfl) (by kernel_rfl) hst ⟨(HB.out.cell 0), (HB.out.cell 3)⟩ (fun hH => ?_)
  try simp only [pA, pB, p1, p2, p3]
  clear hst
  generalize w_1.setRow g #[.string (bs l), .slice wa s.ws.length wc, .int .i64 3, .int .i64 (s.fr : Int), .slice ba s.bt.length bc] = wk3 at HW HY HK HB hH ⊢
  refine aT (i := 20) (oi := { dst := some 28, op := Op.nilCheck (Operand.tmp 10), type := 0, pos := "word.go:81", after := #[{ on := 1, ground := Ground.data }, { on := 0, ground := Ground.phase }, { on := 1, ground := Ground.phase }, { on := 2, ground := Ground.phase }, { on := 3, ground := Ground.phase }, { on := 4, ground := Ground.phase }, { on := 5, ground := Ground.phase }, { on := 6, ground := Ground.phase }, { on := 7, ground := Ground.phase }, { on := 8, ground := Ground.phase }, { on := 9, ground := Ground.phase }, { on := 10, ground := Ground.phase }, { on := 11, ground := Ground.phase }, { on := 12, ground := Ground.phase }, { on := 13, ground := Ground.phase }, { on := 14, ground := Ground.phase }, { on := 15, ground := Ground.phase }, { on := 16, ground := Ground.phase }, { on := 17, ground := Ground.phase }, { on := 18, ground := Ground.phase }, { on := 19, ground := Ground.phase }], guard := none }) (v := .pointer (some ⟨g, 0, none⟩)) (fun _ _ => by kernel_rfl) hH ?_
  try simp only [pA, pB, p1, p2, p3]
  refine aT (i := 21) (oi := { dst := some 29, op := Op.fieldAddr 40 (Operand.tmp 28) 4, type := 0, pos := "word.go:81", after := #[{ on := 20, ground := Ground.data }, { on := 0, ground := Ground.phase }, { on := 1, ground := Ground.phase }, { on := 2, ground := Ground.phase }, { on := 3, ground := Ground.phase }, { on := 4, ground := Ground.phase }, { on := 5, ground := Ground.phase }, { on := 6, ground := Ground.phase }, { on := 7, ground := Ground.phase }, { on := 8, ground := Ground.phase }, { on := 9, ground := Ground.phase }, { on := 10, ground := Ground.phase }, { on := 11, ground := Ground.phase }, { on := 12, ground := Ground.phase }, { on := 13, ground := Ground.phase }, { on := 14, ground := Ground.phase }, { on := 15, ground := Ground.phase }, { on := 16, ground := Ground.phase }, { on := 17, ground := Ground.phase }, { on := 18, ground := Ground.phase }, { on := 19, ground := Ground.phase }], guard := none }) (v := .pointer (some ⟨g, 4, none⟩)) (fun _ _ => by kernel_rfl) hH ?_
  try simp only [pA, pB, p1, p2, p3]
  have hst : (storeVar 30 ⟨g, 4, none⟩ (.slice a_1 (s.bt.length + ((cutL l s.fr i)).length) c_1)).run Try.prog wk3 = .ok () (wk3.setRow g #[.string (bs l), .slice wa s.ws.length wc, .int .i64 3, .int .i64 (s.fr : Int), .slice a_1 (s.bt.length + ((cutL l s.fr i)).length) c_1]) := run_store_to (cur := [.string (bs l), .slice wa s.ws.length wc, .int .i64 3, .int .i64 (s.fr : Int), .slice ba s.bt.length bc]) (vs := [.slice a_1 (s.bt.length + ((cutL l s.fr i)).length) c_1]) (new := [.string (bs l), .slice wa s.ws.length wc, .int .i64 3, .int .i64 (s.fr : Int), .slice a_1 (s.bt.length + ((cutL l s.fr i)).length) c_1]) HB.out (by kernel_rfl) S30 (Nat.le_of_ble_eq_true (by kernel_rfl)) (by simp [Value.oneCell', strV, u8V]) (by kernel_rfl)
  have HW : Hid (Own 9 1 (wk3.setRow g #[.string (bs l), .slice wa s.ws.length wc, .int .i64 3, .int .i64 (s.fr : Int), .slice a_1 (s.bt.length + ((cutL l s.fr i)).length) c_1]) n0 wa wc s.ws.length (s.ws.map strV)) := HW.out.kept (Kept.setRow _ _ _) (HW.out.notBox HB.out (by decide))
  have HY : Hid (Own 5 1 (wk3.setRow g #[.string (bs l), .slice wa s.ws.length wc, .int .i64 3, .int .i64 (s.fr : Int), .slice a_1 (s.bt.length + ((cutL l s.fr i)).length) c_1]) n0 a_1 c_1 (s.bt.length + ((cutL l s.fr i)).length) (s.bt.map u8V ++ ((cutL l s.fr i)).map u8V)) := HY.out.kept (Kept.setRow _ _ _) (HY.out.notBox HB.out (by decide))
  have HK : Hid (Kept (Sg n0 g) w (wk3.setRow g #[.string (bs l), .slice wa s.ws.length wc, .int .i64 3, .int .i64 (s.fr : Int), .slice a_1 (s.bt.length + ((cutL l s.fr i)).length) c_1])) := HK.out.inRow (S := Sg n0 g) (Or.inl rfl) _
  have HB : Hid (Box (wk3.setRow g #[.string (bs l), .slice wa s.ws.length wc, .int .i64 3, .int .i64 (s.fr : Int), .slice a_1 (s.bt.length + ((cutL l s.fr i)).length) c_1]) g 40 #[.string (bs l), .slice wa s.ws.length wc, .int .i64 3, .int .i64 (s.fr : Int), .slice a_1 (s.bt.length + ((cutL l s.fr i)).length) c_1]) := HB.out.setRow _
  refine any_store (i := 22) (o := { dst := none, op := Op.store 30 (Operand.tmp 29) (Operand.tmp 25), type := 0, pos := "word.go:81", after := #[{ on := 21, ground := Ground.data }, { on := 16, ground := Ground.data }, { on := 19, ground := Ground.chain }, { on := 0, ground := Ground.phase }, { on := 1, ground := Ground.phase }, { on := 2, ground := Ground.phase }, { on := 3, ground := Ground.phase }, { on := 4, ground := Ground.phase }, { on := 5, ground := Ground.phase }, { on := 6, ground := Ground.phase }, { on := 7, ground := Ground.phase }, { on := 8, ground := Ground.phase }, { on := 9, ground := Ground.phase }, { on := 10, ground := Ground.phase }, { on := 11, ground := Ground.phase }, { on := 12, ground := Ground.phase }, { on := 13, ground := Ground.phase }, { on := 14, ground := Ground.phase }, { on := 15, ground := Ground.phase }, { on := 16, ground := Ground.phase }, { on := 17, ground := Ground.phase }, { on := 18, ground := Ground.phase }, { on := 19, ground := Ground.phase }], guard := none }) (w' := wk3.setRow g #[.string (bs l), .slice wa s.ws.length wc, .int .i64 3, .int .i64 (s.fr : Int), .slice a_1 (s.bt.length + ((cutL l s.fr i)).length) c_1]) rfl (by kernel_rfl) (by kernel_rfl) 30 _ _ rfl ⟨g, 4, none⟩ (.slice a_1 (s.bt.length + ((cutL l s.fr i)).length) c_1) (by kernel_rfl) (by kernel_rfl) hst ⟨(HB.out.cell 0), (HB.out.cell 3)⟩ (fun hH => ?_)
  try simp only [pA, pB, p1, p2, p3]
  clear hst
  generalize wk3.setRow g #[.string (bs l), .slice wa s.ws.length wc, .int .i64 3, .int .i64 (s.fr : Int), .slice a_1 (s.bt.length + ((cutL l s.fr i)).length) c_1] = wk4 at HW HY HK HB hH ⊢
  refine wpAnyH_done (by kernel_rfl) ?_ _
  try simp only [pA, pB, p1, p2, p3]
  clear hH
  go_wp2
  go_end0
  rw [HC.out]
  exact ⟨rfl, by rw [HS.out]; exact CutA.of _ HB.out HW.out HY.out (Nat.le_trans HL.out HK.out.size) (by simp [strV, u8V]) (by simp [strV, u8V]) (by simp [strV, u8V]) (by simp [strV, u8V]) (by simp [strV, u8V]) (by simp [strV, u8V]), HK.out⟩
set_option maxRecDepth 100000 in
set_option maxHeartbeats 4000000 in
theorem quo_e (n0 g : Nat) (l : List UInt8) (s : Cs) (i : Nat) (r : Int) (w : World) (hcut : CutA n0 w g l s) (hi : i < l.length) (hl : l.length ≤ 1000000000000) (hfr : s.fr ≤ i) (hws : s.ws.length ≤ 1000000000000) (hbt : s.bt.length ≤ 1000000000000) (hr : r = 34) : Calls Try.prog 15 #[.pointer (some ⟨g, 0, none⟩), .int .i64 (i : Int), .int .i32 r] w (fun e w' => e = .returned (.tuple #[]) ∧ CutA n0 w' g l (quoS l s i r) ∧ Kept (Sg n0 g) w w') := by
  obtain ⟨C, hC⟩ : ∃ C : Ending → World → Prop, C = (fun e w' => e = .returned (.tuple #[]) ∧ CutA n0 w' g l (quoS l s i r) ∧ Kept (Sg n0 g) w w') := ⟨_, rfl⟩
  have HC : Hid (C = (fun e w' => e = .returned (.tuple #[]) ∧ CutA n0 w' g l (quoS l s i r) ∧ Kept (Sg n0 g) w w')) := hC
  rw [← hC]
  clear hC
  subst hr
  have HS : Hid (quoS l s i 34 = { s with pl := 6, bt := s.bt ++ cutL l s.fr i, ws := s.ws ++ [s.bt ++ cutL l s.fr i] }) := rfl
  obtain ⟨wa, wc, ba, bc, hC0⟩ := hcut
  have HB : Hid (Box w g 40 #[.string (bs l), .slice wa s.ws.length wc, .int .i64 (s.pl : Int), .int .i64 (s.fr : Int), .slice ba s.bt.length bc]) := hC0.box
  have HW : Hid (Own 9 1 w n0 wa wc s.ws.length (s.ws.map strV)) := hC0.hw
  have HY : Hid (Own 5 1 w n0 ba bc s.bt.length (s.bt.map u8V)) := hC0.hb
  have HL : Hid (n0 ≤ w.heap.size) := hC0.hn
  have HK : Hid (Kept (Sg n0 g) w w) := Kept.refl _ _
  clear hC0
  have HI : Hid (i < l.length ∧ l.length ≤ 1000000000000) := ⟨hi, hl⟩
  have HFr : Hid (s.fr ≤ i) := hfr
  have HWd : Hid (s.ws.length ≤ 1000000000000) := hws
  have HBd : Hid (s.bt.length ≤ 1000000000000) := hbt
  clear hi hl hfr hws hbt
  go_enter Try.func15, Try.ntmps15
  go_upto_region 0 with fail
  refine WL.start ?_
  refine tK (.int .i32 34) ?_
  try simp only [pA, pB, p1, p2, p3]
  refine WL.nil ?_
  try simp only [pA, pB, p1, p2, p3]
  go_upto_region 1 with fail
  refine WL.start ?_
  refine tK (.bool false) ?_
  try simp only [pA, pB, p1, p2, p3]
  refine tK (.bool false) ?_
  try simp only [pA, pB, p1, p2, p3]
  refine WL.nil ?_
  try simp only [pA, pB, p1, p2, p3]
  go_upto_region 3 with fail
  refine WL.start ?_
  refine tK (.bool true) ?_
  try simp only [pA, pB, p1, p2, p3]
  refine tK (.bool true) ?_
  try simp only [pA, pB, p1, p2, p3]
  refine WL.nil ?_
  try simp only [pA, pB, p1, p2, p3]
  go_upto_region 4 with fail
  have HW : Hid (Own 9 1 w.drew n0 wa wc s.ws.length (s.ws.map strV)) := HW.out.no (Kept.refl No _).drew
  have HY : Hid (Own 5 1 w.drew n0 ba bc s.bt.length (s.bt.map u8V)) := HY.out.no (Kept.refl No _).drew
  have HK : Hid (Kept (Sg n0 g) w w.drew) := HK.out.drew
  have HB : Hid (Box w.drew g 40 #[.string (bs l), .slice wa s.ws.length wc, .int .i64 (s.pl : Int), .int .i64 (s.fr : Int), .slice ba s.bt.length bc]) := HB.out.kept (Kept.refl No _).drew (fun e => e)
  refine wp_region_held_drew (S := fun w' => w'.cell? ⟨g, 0, none⟩ = some (.string (bs l)) ∧ w'.cell? ⟨g, 3, none⟩ = some (.int .i64 (s.fr : Int))) rfl ⟨(HB.out.cell 0), (HB.out.cell 3)⟩ (fun hH => ?_)
  generalize w.drew = wk1 at HW HY HK HB hH ⊢
  refine aT (i := 0) (oi := { dst := some 32, op := Op.move (Operand.tmp 0), type := 50, pos := "word.go:83", after := #[], guard := none }) (v := .pointer (some ⟨g, 0, none⟩)) (fun _ _ => by kernel_rfl) hH ?_
  try simp only [pA, pB, p1, p2, p3]
  refine aT (i := 1) (oi := { dst := some 33, op := Op.move (Operand.tmp 0), type := 50, pos := "word.go:83", after := #[{ on := 19, ground := Ground.gcOnly Departure.lateStores }], guard := none }) (v := .pointer (some ⟨g, 0, none⟩)) (fun _ _ => by kernel_rfl) hH ?_
  try simp only [pA, pB, p1, p2, p3]
  refine aT (i := 2) (oi := { dst := some 34, op := Op.move (Operand.tmp 0), type := 50, pos := "word.go:83", after := #[], guard := none }) (v := .pointer (some ⟨g, 0, none⟩)) (fun _ _ => by kernel_rfl) hH ?_
  try simp only [pA, pB, p1, p2, p3]
  refine aT (i := 3) (oi := { dst := some 35, op := Op.nilCheck (Operand.tmp 34), type := 0, pos := "word.go:83", after := #[{ on := 2, ground := Ground.data }], guard := none }) (v := .pointer (some ⟨g, 0, none⟩)) (fun _ _ => by kernel_rfl) hH ?_
  try simp only [pA, pB, p1, p2, p3]
  refine aT (i := 4) (oi := { dst := some 36, op := Op.fieldAddr 40 (Operand.tmp 35) 4, type := 0, pos := "word.go:83", after := #[{ on := 3, ground := Ground.data }], guard := none }) (v := .pointer (some ⟨g, 4, none⟩)) (fun _ _ => by kernel_rfl) hH ?_
  try simp only [pA, pB, p1, p2, p3]
  refine aT (i := 6) (oi := { dst := some 38, op := Op.move (Operand.tmp 0), type := 50, pos := "word.go:83", after := #[], guard := none }) (v := .pointer (some ⟨g, 0, none⟩)) (fun _ _ => by kernel_rfl) hH ?_
  try simp only [pA, pB, p1, p2, p3]
  refine aT (i := 7) (oi := { dst := some 39, op := Op.nilCheck (Operand.tmp 38), type := 0, pos := "word.go:83", after := #[{ on := 6, ground := Ground.data }], guard := none }) (v := .pointer (some ⟨g, 0, none⟩)) (fun _ _ => by kernel_rfl) hH ?_
  try simp only [pA, pB, p1, p2, p3]
  refine aT (i := 8) (oi := { dst := some 40, op := Op.fieldAddr 40 (Operand.tmp 39) 0, type := 0, pos := "word.go:83", after := #[{ on := 7, ground := Ground.data }], guard := none }) (v := .pointer (some ⟨g, 0, none⟩)) (fun _ _ => by kernel_rfl) hH ?_
  try simp only [pA, pB, p1, p2, p3]
  refine aT (i := 9) (oi := { dst := some 41, op := Op.load 9 (Operand.tmp 40), type := 9, pos := "word.go:83", after := #[{ on := 8, ground := Ground.data }], guard := none }) (v := .string (bs l)) (fun w' hw => exec_load 9 _ rfl ⟨g, 0, none⟩ (by kernel_rfl) (.string (bs l)) (load_one hw.1 U9 rfl)) hH ?_
  try simp only [pA, pB, p1, p2, p3]
  refine aT (i := 10) (oi := { dst := some 42, op := Op.move (Operand.tmp 0), type := 50, pos := "word.go:83", after := #[], guard := none }) (v := .pointer (some ⟨g, 0, none⟩)) (fun _ _ => by kernel_rfl) hH ?_
  try simp only [pA, pB, p1, p2, p3]
  refine aT (i := 11) (oi := { dst := some 43, op := Op.nilCheck (Operand.tmp 42), type := 0, pos := "word.go:83", after := #[{ on := 10, ground := Ground.data }], guard := none }) (v := .pointer (some ⟨g, 0, none⟩)) (fun _ _ => by kernel_rfl) hH ?_
  try simp only [pA, pB, p1, p2, p3]
  refine aT (i := 12) (oi := { dst := some 44, op := Op.fieldAddr 40 (Operand.tmp 43) 3, type := 0, pos := "word.go:83", after := #[{ on := 11, ground := Ground.data }], guard := none }) (v := .pointer (some ⟨g, 3, none⟩)) (fun _ _ => by kernel_rfl) hH ?_
  try simp only [pA, pB, p1, p2, p3]
  refine aT (i := 13) (oi := { dst := some 45, op := Op.load 3 (Operand.tmp 44), type := 3, pos := "word.go:83", after := #[{ on := 12, ground := Ground.data }], guard := none }) (v := .int .i64 (s.fr : Int)) (fun w' hw => exec_load 3 _ rfl ⟨g, 3, none⟩ (by kernel_rfl) (.int .i64 (s.fr : Int)) (load_one hw.2 U3 rfl)) hH ?_
  try simp only [pA, pB, p1, p2, p3]
  refine aT (i := 14) (oi := { dst := some 46, op := Op.move (Operand.tmp 1), type := 3, pos := "word.go:83", after := #[], guard := none }) (v := .int .i64 (i : Int)) (fun _ _ => by kernel_rfl) hH ?_
  try simp only [pA, pB, p1, p2, p3]
  refine aT (i := 15) (oi := { dst := some 47, op := Op.slice 9 (Operand.tmp 41) (some (Operand.tmp 45)) (some (Operand.tmp 46)) none, type := 9, pos := "word.go:83", after := #[{ on := 9, ground := Ground.data }, { on := 13, ground := Ground.data }, { on := 14, ground := Ground.data }], guard := none }) (v := .string (bs (cutL l s.fr i))) (fun w' hw => exec_sl _ _ _ rfl (.string (bs l)) (.string (bs (cutL l s.fr i))) (some (.int .i64 (s.fr : Int))) (some (.int .i64 (i : Int))) (by kernel_rfl) (by kernel_rfl) (by kernel_rfl) (run_cut l s.fr i HFr.out (by have := HI.out; omega))) hH ?_
  try simp only [pA, pB, p1, p2, p3]
  refine any_step (i := 5) (o := { dst := some 37, op := Op.load 30 (Operand.tmp 36), type := 30, pos := "word.go:83", after := #[{ on := 4, ground := Ground.data }], guard := none }) (v := .slice ba s.bt.length bc) (w' := wk1) rfl (by kernel_rfl) (by kernel_rfl) (exec_load 30 _ rfl ⟨g, 4, none⟩ (by kernel_rfl) (.slice ba s.bt.length bc) (load_one (HB.out.cell 4) U30 rfl)) ⟨(HB.out.cell 0), (HB.out.cell 3)⟩ (fun hH => ?_)
  try simp only [pA, pB, p1, p2, p3]
  obtain ⟨a_1, c_1, w_1, hrun, ho, hc⟩ := run_appS HY.out 30 (cutL l s.fr i) (by have h1 := HI.out; have h2 := HBd.out; have h3 := HWd.out; have h4 := cutL_len l s.fr i; omega) (Nat.le_trans HL.out HK.out.size)
  skip
  have HW : Hid (Own 9 1 w_1 n0 wa wc s.ws.length (s.ws.map strV)) := HW.out.kept hc (own_apart HW.out HY.out (by decide))
  have HK : Hid (Kept (Sg n0 g) w w_1) := HK.out.trans hc (fun _ e => e) (fun _ _ e => Or.inr (HY.out.base e))
  have HB : Hid (Box w_1 g 40 #[.string (bs l), .slice wa s.ws.length wc, .int .i64 (s.pl : Int), .int .i64 (s.fr : Int), .slice ba s.bt.length bc]) := HB.out.kept hc (HY.out.offBox HB.out (by decide))
  have HY : Hid (Own 5 1 w_1 n0 a_1 c_1 (s.bt.length + ((cutL l s.fr i)).length) (s.bt.map u8V ++ ((cutL l s.fr i)).map u8V)) := ho
  refine any_step (i := 16) (o := { dst := some 48, op := Op.call { callee := Callee.builtin Builtin.append, args := #[Operand.tmp 37, Operand.tmp 47], argTypes := #[30, 9] }, type := 30, pos := "word.go:83", after := #[{ on := 5, ground := Ground.data }, { on := 15, ground := Ground.data }], guard := none }) (v := .slice a_1 (s.bt.length + ((cutL l s.fr i)).length) c_1) (w' := w_1) rfl (by kernel_rfl) (by kernel_rfl) (exec_app _ _ 30 9 rfl _ _ _ (by kernel_rfl) (by kernel_rfl) hrun) ⟨(HB.out.cell 0), (HB.out.cell 3)⟩ (fun hH => ?_)
  try simp only [pA, pB, p1, p2, p3]
  clear hrun ho hc
  refine aT (i := 17) (oi := { dst := some 49, op := Op.nilCheck (Operand.tmp 32), type := 0, pos := "word.go:83", after := #[{ on := 0, ground := Ground.data }, { on := 0, ground := Ground.phase }, { on := 1, ground := Ground.textOnly Departure.lateStores }, { on := 2, ground := Ground.textOnly Departure.lateStores }, { on := 3, ground := Ground.textOnly Departure.lateStoresUnsure }, { on := 4, ground := Ground.textOnly Departure.lateStoresUnsure }, { on := 5, ground := Ground.phase }, { on := 6, ground := Ground.textOnly Departure.lateStores }, { on := 7, ground := Ground.textOnly Departure.lateStoresUnsure }, { on := 8, ground := Ground.textOnly Departure.lateStoresUnsure }, { on := 9, ground := Ground.phase }, { on := 10, ground := Ground.textOnly Departure.lateStores }, { on := 11, ground := Ground.textOnly Departure.lateStoresUnsure }, { on := 12, ground := Ground.textOnly Departure.lateStoresUnsure }, { on := 13, ground := Ground.phase }, { on := 14, ground := Ground.textOnly Departure.lateStores }, { on := 15, ground := Ground.textOnly Departure.lateStoresUnsure }, { on := 16, ground := Ground.phase }], guard := none }) (v := .pointer (some ⟨g, 0, none⟩)) (fun _ _ => by kernel_rfl) hH ?_
  try simp only [pA, pB, p1, p2, p3]
  refine aT (i := 18) (oi := { dst := some 50, op := Op.fieldAddr 40 (Operand.tmp 49) 2, type := 0, pos := "word.go:83", after := #[{ on := 17, ground := Ground.data }, { on := 0, ground := Ground.phase }, { on := 1, ground := Ground.textOnly Departure.lateStores }, { on := 2, ground := Ground.textOnly Departure.lateStores }, { on := 3, ground := Ground.textOnly Departure.lateStoresUnsure }, { on := 4, ground := Ground.textOnly Departure.lateStoresUnsure }, { on := 5, ground := Ground.phase }, { on := 6, ground := Ground.textOnly Departure.lateStores }, { on := 7, ground := Ground.textOnly Departure.lateStoresUnsure }, { on := 8, ground := Ground.textOnly Departure.lateStoresUnsure }, { on := 9, ground := Ground.phase }, { on := 10, ground := Ground.textOnly Departure.lateStores }, { on := 11, ground := Ground.textOnly Departure.lateStoresUnsure }, { on := 12, ground := Ground.textOnly Departure.lateStoresUnsure }, { on := 13, ground := Ground.phase }, { on := 14, ground := Ground.textOnly Departure.lateStores }, { on := 15, ground := Ground.textOnly Departure.lateStoresUnsure }, { on := 16, ground := Ground.phase }], guard := none }) (v := .pointer (some ⟨g, 2, none⟩)) (fun _ _ => by kernel_rfl) hH ?_
  try simp only [pA, pB, p1, p2, p3]
  have hst : (storeVar 38 ⟨g, 2, none⟩ (.int .i64 6)).run Try.prog w_1 = .ok () (w_1.setRow g #[.string (bs l), .slice wa s.ws.length wc, .int .i64 6, .int .i64 (s.fr : Int), .slice ba s.bt.length bc]) := run_store_to (cur := [.string (bs l), .slice wa s.ws.length wc, .int .i64 (s.pl : Int), .int .i64 (s.fr : Int), .slice ba s.bt.length bc]) (vs := [.int .i64 6]) (new := [.string (bs l), .slice wa s.ws.length wc, .int .i64 6, .int .i64 (s.fr : Int), .slice ba s.bt.length bc]) HB.out (by kernel_rfl) S38 (Nat.le_of_ble_eq_true (by kernel_rfl)) (by simp [Value.oneCell', strV, u8V]) (by kernel_rfl)
  have HW : Hid (Own 9 1 (w_1.setRow g #[.string (bs l), .slice wa s.ws.length wc, .int .i64 6, .int .i64 (s.fr : Int), .slice ba s.bt.length bc]) n0 wa wc s.ws.length (s.ws.map strV)) := HW.out.kept (Kept.setRow _ _ _) (HW.out.notBox HB.out (by decide))
  have HY : Hid (Own 5 1 (w_1.setRow g #[.string (bs l), .slice wa s.ws.length wc, .int .i64 6, .int .i64 (s.fr : Int), .slice ba s.bt.length bc]) n0 a_1 c_1 (s.bt.length + ((cutL l s.fr i)).length) (s.bt.map u8V ++ ((cutL l s.fr i)).map u8V)) := HY.out.kept (Kept.setRow _ _ _) (HY.out.notBox HB.out (by decide))
  have HK : Hid (Kept (Sg n0 g) w (w_1.setRow g #[.string (bs l), .slice wa s.ws.length wc, .int .i64 6, .int .i64 (s.fr : Int), .slice ba s.bt.length bc])) := HK.out.inRow (S := Sg n0 g) (Or.inl rfl) _
  have HB : Hid (Box (w_1.setRow g #[.string (bs l), .slice wa s.ws.length wc, .int .i64 6, .int .i64 (s.fr : Int), .slice ba s.bt.length bc]) g 40 #[.string (bs l), .slice wa s.ws.length wc, .int .i64 6, .int .i64 (s.fr : Int), .slice ba s.bt.length bc]) := HB.out.setRow _
  refine any_store (i := 19) (o := { dst := none, op := Op.store 38 (Operand.tmp 50) (Operand.const (Value.int IntKind.i64 6)), type := 0, pos := "word.go:83", after := #[{ on := 18, ground := Ground.data }, { on := 16, ground := Ground.chain }, { on := 0, ground := Ground.phase }, { on := 1, ground := Ground.textOnly Departure.lateStores }, { on := 2, ground := Ground.textOnly Departure.lateStores }, { on := 3, ground := Ground.textOnly Departure.lateStoresUnsure }, { on := 4, ground := Ground.textOnly Departure.lateStoresUnsure }, { on := 5, ground := Ground.phase }, { on := 6, ground := Ground.textOnly Departure.lateStores }, { on := 7, ground := Ground.textOnly Departure.lateStoresUnsure }, { on := 8, ground := Ground.textOnly Departure.lateStoresUnsure }, { on := 9, ground := Ground.phase }, { on := 10, ground := Ground.textOnly Departure.lateStores }, { on := 11, ground := Ground.textOnly Departure.lateStoresUnsure }, { on := 12, ground := Ground.textOnly Departure.lateStoresUnsure }, { on := 13, ground := Ground.phase }, { on := 14, ground := Ground.textOnly Departure.lateStores }, { on := 15, ground := Ground.textOnly Departure.lateStoresUnsure }, { on := 16, ground := Ground.phase }], guard := none }) (w' := w_1.setRow g #[.string (bs l), .slice wa s.ws.length wc, .int .i64 6, .int .i64 (s.fr : Int), .slice ba s.bt.length bc]) rfl (by kernel_rfl) (by kernel_rfl) 38 _ _ rfl ⟨g, 2, none⟩ (.int .i64 6) (by kernel_rfl) (by kernel_rfl) hst ⟨(HB.out.cell 0), (HB.out.cell 3)⟩ (fun hH => ?_)
  try simp only [pA, pB, p1, p2, p3]
  clear hst
  generalize w_1.setRow g #[.string (bs l), .slice wa s.ws.length wc, .int .i64 6, .int .i64 (s.fr : Int), .slice ba s.bt.length bc] = wk3 at HW HY HK HB hH ⊢
  refine aT (i := 20) (oi := { dst := some 51, op := Op.nilCheck (Operand.tmp 33), type := 0, pos := "word.go:83", after := #[{ on := 1, ground := Ground.data }, { on := 0, ground := Ground.phase }, { on := 1, ground := Ground.phase }, { on := 2, ground := Ground.phase }, { on := 3, ground := Ground.phase }, { on := 4, ground := Ground.phase }, { on := 5, ground := Ground.phase }, { on := 6, ground := Ground.phase }, { on := 7, ground := Ground.phase }, { on := 8, ground := Ground.phase }, { on := 9, ground := Ground.phase }, { on := 10, ground := Ground.phase }, { on := 11, ground := Ground.phase }, { on := 12, ground := Ground.phase }, { on := 13, ground := Ground.phase }, { on := 14, ground := Ground.phase }, { on := 15, ground := Ground.phase }, { on := 16, ground := Ground.phase }, { on := 17, ground := Ground.phase }, { on := 18, ground := Ground.phase }, { on := 19, ground := Ground.phase }], guard := none }) (v := .pointer (some ⟨g, 0, none⟩)) (fun _ _ => by kernel_rfl) hH ?_
  try simp only [pA, pB, p1, p2, p3]
  refine aT (i := 21) (oi := { dst := some 52, op := Op.fieldAddr 40 (Operand.tmp 51) 4, type := 0, pos := "word.go:83", after := #[{ on := 20, ground := Ground.data }, { on := 0, ground := Ground.phase }, { on := 1, ground := Ground.phase }, { on := 2, ground := Ground.phase }, { on := 3, ground := Ground.phase }, { on := 4, ground := Ground.phase }, { on := 5, ground := Ground.phase }, { on := 6, ground := Ground.phase }, { on := 7, ground := Ground.phase }, { on := 8, ground := Ground.phase }, { on := 9, ground := Ground.phase }, { on := 10, ground := Ground.phase }, { on := 11, ground := Ground.phase }, { on := 12, ground := Ground.phase }, { on := 13, ground := Ground.phase }, { on := 14, ground := Ground.phase }, { on := 15, ground := Ground.phase }, { on := 16, ground := Ground.phase }, { on := 17, ground := Ground.phase }, { on := 18, ground := Ground.phase }, { on := 19, ground := Ground.phase }], guard := none }) (v := .pointer (some ⟨g, 4, none⟩)) (fun _ _ => by kernel_rfl) hH ?_
  try simp only [pA, pB, p1, p2, p3]
  have hst : (storeVar 30 ⟨g, 4, none⟩ (.slice a_1 (s.bt.length + ((cutL l s.fr i)).length) c_1)).run Try.prog wk3 = .ok () (wk3.setRow g #[.string (bs l), .slice wa s.ws.length wc, .int .i64 6, .int .i64 (s.fr : Int), .slice a_1 (s.bt.length + ((cutL l s.fr i)).length) c_1]) := run_store_to (cur := [.string (bs l), .slice wa s.ws.length wc, .int .i64 6, .int .i64 (s.fr : Int), .slice ba s.bt.length bc]) (vs := [.slice a_1 (s.bt.length + ((cutL l s.fr i)).length) c_1]) (new := [.string (bs l), .slice wa s.ws.length wc, .int .i64 6, .int .i64 (s.fr : Int), .slice a_1 (s.bt.length + ((cutL l s.fr i)).length) c_1]) HB.out (by kernel_rfl) S30 (Nat.le_of_ble_eq_true (by kernel_rfl)) (by simp [Value.oneCell', strV, u8V]) (by kernel_rfl)
  have HW : Hid (Own 9 1 (wk3.setRow g #[.string (bs l), .slice wa s.ws.length wc, .int .i64 6, .int .i64 (s.fr : Int), .slice a_1 (s.bt.length + ((cutL l s.fr i)).length) c_1]) n0 wa wc s.ws.length (s.ws.map strV)) := HW.out.kept (Kept.setRow _ _ _) (HW.out.notBox HB.out (by decide))
  have HY : Hid (Own 5 1 (wk3.setRow g #[.string (bs l), .slice wa s.ws.length wc, .int .i64 6, .int .i64 (s.fr : Int), .slice a_1 (s.bt.length + ((cutL l s.fr i)).length) c_1]) n0 a_1 c_1 (s.bt.length + ((cutL l s.fr i)).length) (s.bt.map u8V ++ ((cutL l s.fr i)).map u8V)) := HY.out.kept (Kept.setRow _ _ _) (HY.out.notBox HB.out (by decide))
  have HK : Hid (Kept (Sg n0 g) w (wk3.setRow g #[.string (bs l), .slice wa s.ws.length wc, .int .i64 6, .int .i64 (s.fr : Int), .slice a_1 (s.bt.length + ((cutL l s.fr i)).length) c_1])) := HK.out.inRow (S := Sg n0 g) (Or.inl rfl) _
  have HB : Hid (Box (wk3.setRow g #[.string (bs l), .slice wa s.ws.length wc, .int .i64 6, .int .i64 (s.fr : Int), .slice a_1 (s.bt.length + ((cutL l s.fr i)).length) c_1]) g 40 #[.string (bs l), .slice wa s.ws.length wc, .int .i64 6, .int .i64 (s.fr : Int), .slice a_1 (s.bt.length + ((cutL l s.fr i)).length) c_1]) := HB.out.setRow _
  refine any_store (i := 22) (o := { dst := none, op := Op.store 30 (Operand.tmp 52) (Operand.tmp 48), type := 0, pos := "word.go:83", after := #[{ on := 21, ground := Ground.data }, { on := 16, ground := Ground.data }, { on := 19, ground := Ground.chain }, { on := 0, ground := Ground.phase }, { on := 1, ground := Ground.phase }, { on := 2, ground := Ground.phase }, { on := 3, ground := Ground.phase }, { on := 4, ground := Ground.phase }, { on := 5, ground := Ground.phase }, { on := 6, ground := Ground.phase }, { on := 7, ground := Ground.phase }, { on := 8, ground := Ground.phase }, { on := 9, ground := Ground.phase }, { on := 10, ground := Ground.phase }, { on := 11, ground := Ground.phase }, { on := 12, ground := Ground.phase }, { on := 13, ground := Ground.phase }, { on := 14, ground := Ground.phase }, { on := 15, ground := Ground.phase }, { on := 16, ground := Ground.phase }, { on := 17, ground := Ground.phase }, { on := 18, ground := Ground.phase }, { on := 19, ground := Ground.phase }], guard := none }) (w' := wk3.setRow g #[.string (bs l), .slice wa s.ws.length wc, .int .i64 6, .int .i64 (s.fr : Int), .slice a_1 (s.bt.length + ((cutL l s.fr i)).length) c_1]) rfl (by kernel_rfl) (by kernel_rfl) 30 _ _ rfl ⟨g, 4, none⟩ (.slice a_1 (s.bt.length + ((cutL l s.fr i)).length) c_1) (by kernel_rfl) (by kernel_rfl) hst ⟨(HB.out.cell 0), (HB.out.cell 3)⟩ (fun hH => ?_)
  try simp only [pA, pB, p1, p2, p3]
  clear hst
  generalize wk3.setRow g #[.string (bs l), .slice wa s.ws.length wc, .int .i64 6, .int .i64 (s.fr : Int), .slice a_1 (s.bt.length + ((cutL l s.fr i)).length) c_1] = wk4 at HW HY HK HB hH ⊢
  refine wpAnyH_done (by kernel_rfl) ?_ _
  try simp only [pA, pB, p1, p2, p3]
  clear hH
  obtain ⟨bt2, hbt2⟩ : ∃ b, b = s.bt ++ cutL l s.fr i := ⟨_, rfl⟩
  have HBT : Hid (bt2 = s.bt ++ cutL l s.fr i) := hbt2
  have hl2 : s.bt.length + (cutL l s.fr i).length = bt2.length := by rw [hbt2, List.length_append]
  have hm2 : s.bt.map u8V ++ (cutL l s.fr i).map u8V = bt2.map u8V := by rw [hbt2, List.map_append]
  rw [hl2] at HB HY
  rw [hm2] at HY
  clear hbt2 hl2 hm2
  go_upto_region 5 with fail
  have HW : Hid (Own 9 1 wk4.drew n0 wa wc s.ws.length (s.ws.map strV)) := HW.out.no (Kept.refl No _).drew
  have HY : Hid (Own 5 1 wk4.drew n0 a_1 c_1 bt2.length (bt2.map u8V)) := HY.out.no (Kept.refl No _).drew
  have HK : Hid (Kept (Sg n0 g) w wk4.drew) := HK.out.drew
  have HB : Hid (Box wk4.drew g 40 #[.string (bs l), .slice wa s.ws.length wc, .int .i64 6, .int .i64 (s.fr : Int), .slice a_1 bt2.length c_1]) := HB.out.kept (Kept.refl No _).drew (fun e => e)
  refine wp_region_held_drew (S := fun w' => w'.cell? ⟨g, 4, none⟩ = some (.slice a_1 bt2.length c_1) ∧ Own 5 1 w' n0 a_1 c_1 bt2.length (bt2.map u8V)) rfl ⟨(HB.out.cell 4), HY.out⟩ (fun hH => ?_)
  generalize wk4.drew = wk5 at HW HY HK HB hH ⊢
  refine aT (i := 0) (oi := { dst := some 53, op := Op.move (Operand.tmp 0), type := 50, pos := "word.go:84", after := #[], guard := none }) (v := .pointer (some ⟨g, 0, none⟩)) (fun _ _ => by kernel_rfl) hH ?_
  try simp only [pA, pB, p1, p2, p3]
  refine aT (i := 1) (oi := { dst := some 54, op := Op.move (Operand.tmp 0), type := 50, pos := "word.go:84", after := #[], guard := none }) (v := .pointer (some ⟨g, 0, none⟩)) (fun _ _ => by kernel_rfl) hH ?_
  try simp only [pA, pB, p1, p2, p3]
  refine aT (i := 2) (oi := { dst := some 55, op := Op.nilCheck (Operand.tmp 54), type := 0, pos := "word.go:84", after := #[{ on := 1, ground := Ground.data }], guard := none }) (v := .pointer (some ⟨g, 0, none⟩)) (fun _ _ => by kernel_rfl) hH ?_
  try simp only [pA, pB, p1, p2, p3]
  refine aT (i := 3) (oi := { dst := some 56, op := Op.fieldAddr 40 (Operand.tmp 55) 1, type := 0, pos := "word.go:84", after := #[{ on := 2, ground := Ground.data }], guard := none }) (v := .pointer (some ⟨g, 1, none⟩)) (fun _ _ => by kernel_rfl) hH ?_
  try simp only [pA, pB, p1, p2, p3]
  refine aT (i := 5) (oi := { dst := some 58, op := Op.move (Operand.tmp 0), type := 50, pos := "word.go:84", after := #[], guard := none }) (v := .pointer (some ⟨g, 0, none⟩)) (fun _ _ => by kernel_rfl) hH ?_
  try simp only [pA, pB, p1, p2, p3]
  refine aT (i := 6) (oi := { dst := some 59, op := Op.nilCheck (Operand.tmp 58), type := 0, pos := "word.go:84", after := #[{ on := 5, ground := Ground.data }], guard := none }) (v := .pointer (some ⟨g, 0, none⟩)) (fun _ _ => by kernel_rfl) hH ?_
  try simp only [pA, pB, p1, p2, p3]
  refine aT (i := 7) (oi := { dst := some 60, op := Op.fieldAddr 40 (Operand.tmp 59) 4, type := 0, pos := "word.go:84", after := #[{ on := 6, ground := Ground.data }], guard := none }) (v := .pointer (some ⟨g, 4, none⟩)) (fun _ _ => by kernel_rfl) hH ?_
  try simp only [pA, pB, p1, p2, p3]
  refine aT (i := 8) (oi := { dst := some 61, op := Op.load 30 (Operand.tmp 60), type := 30, pos := "word.go:84", after := #[{ on := 7, ground := Ground.data }], guard := none }) (v := .slice a_1 bt2.length c_1) (fun w' hw => exec_load 30 _ rfl ⟨g, 4, none⟩ (by kernel_rfl) (.slice a_1 bt2.length c_1) (load_one hw.1 U30 rfl)) hH ?_
  try simp only [pA, pB, p1, p2, p3]
  refine aT (i := 9) (oi := { dst := some 62, op := Op.convert 30 9 (Operand.tmp 61), type := 9, pos := "word.go:84", after := #[{ on := 8, ground := Ground.data }], guard := none }) (v := .string (bs bt2)) (fun w' hw => exec_conv _ 30 9 rfl _ _ (by kernel_rfl) (run_conv (l := bt2) hw.2 (by simp))) hH ?_
  try simp only [pA, pB, p1, p2, p3]
  refine any_pick (rs := [4, 10]) (by kernel_rfl) (by simp) ?_
  intro i hi
  rcases pick2 hi with rfl | rfl
  ·skip
   clear hi
   refine step_run (i := 4) (o := { dst := some 57, op := Op.load 22 (Operand.tmp 56), type := 22, pos := "word.go:84", after := #[{ on := 3, ground := Ground.data }], guard := none }) (v := .slice wa s.ws.length wc) (w' := wk5) rfl (by kernel_rfl) (exec_load 22 _ rfl ⟨g, 1, none⟩ (by kernel_rfl) (.slice wa s.ws.length wc) (load_one (HB.out.cell 1) U22 rfl)) ⟨(HB.out.cell 4), HY.out⟩ (fun hH => ?_)
   try simp only [pA, pB, p1, p2, p3]
   have HW : Hid (Own 9 1 (wk5.alloc (.cells [.string (bs bt2)].toArray 9)) n0 wa wc s.ws.length (s.ws.map strV)) := HW.out.no ((Kept.refl No _).alloc _)
   have HY : Hid (Own 5 1 (wk5.alloc (.cells [.string (bs bt2)].toArray 9)) n0 a_1 c_1 bt2.length (bt2.map u8V)) := HY.out.no ((Kept.refl No _).alloc _)
   have HK : Hid (Kept (Sg n0 g) w (wk5.alloc (.cells [.string (bs bt2)].toArray 9))) := HK.out.alloc _
   have HB : Hid (Box (wk5.alloc (.cells [.string (bs bt2)].toArray 9)) g 40 #[.string (bs l), .slice wa s.ws.length wc, .int .i64 6, .int .i64 (s.fr : Int), .slice a_1 bt2.length c_1]) := HB.out.alloc _
   have HX : Hid (Box (wk5.alloc (.cells [.string (bs bt2)].toArray 9)) wk5.heap.size 9 [.string (bs bt2)].toArray) := Box.new _ _ _
   refine any_step (i := 10) (o := { dst := some 63, op := Op.buildSlice 22 1 #[(0, Operand.tmp 62)], type := 22, pos := "word.go:84", after := #[{ on := 9, ground := Ground.data }], guard := none }) (v := .slice (some ⟨wk5.heap.size, 0, none⟩) 1 1) (w' := wk5.alloc (.cells [.string (bs bt2)].toArray 9)) rfl (by kernel_rfl) (by kernel_rfl) (exec_built (by kernel_rfl)) ⟨(HB.out.cell 4), HY.out⟩ (fun hH => ?_)
   try simp only [pA, pB, p1, p2, p3]
   generalize wk5.alloc (.cells [.string (bs bt2)].toArray 9) = wk6 at HW HY HK HX HB hH ⊢
   generalize wk5.heap.size = gk7 at HX ⊢
   obtain ⟨a_7, c_7, w_7, hrun, ho, hc⟩ := run_app 22 9 16 _ U22 I9 rfl HW.out 22 ⟨gk7, 0, none⟩ 1 1 [.string (bs bt2)] rfl (box_news HX.out) (by simp [Value.oneCell', strV, u8V]) (by have h1 := HI.out; have h2 := HBd.out; have h3 := HWd.out; have h4 := cutL_len l s.fr i; omega) (by have h1 := HI.out; have h2 := HBd.out; have h3 := HWd.out; have h4 := cutL_len l s.fr i; omega) (Nat.le_trans HL.out HK.out.size)
   clear HX
   have HY : Hid (Own 5 1 w_7 n0 a_1 c_1 bt2.length (bt2.map u8V)) := HY.out.kept hc (own_apart HY.out HW.out (by decide))
   have HK : Hid (Kept (Sg n0 g) w w_7) := HK.out.trans hc (fun _ e => e) (fun _ _ e => Or.inr (HW.out.base e))
   have HB : Hid (Box w_7 g 40 #[.string (bs l), .slice wa s.ws.length wc, .int .i64 6, .int .i64 (s.fr : Int), .slice a_1 bt2.length c_1]) := HB.out.kept hc (HW.out.offBox HB.out (by decide))
   have HW : Hid (Own 9 1 w_7 n0 a_7 c_7 (s.ws.length + 1) (s.ws.map strV ++ [.string (bs bt2)])) := ho
   refine any_step (i := 11) (o := { dst := some 64, op := Op.call { callee := Callee.builtin Builtin.append, args := #[Operand.tmp 57, Operand.tmp 63], argTypes := #[22, 22] }, type := 22, pos := "word.go:84", after := #[{ on := 4, ground := Ground.data }, { on := 10, ground := Ground.data }], guard := none }) (v := .slice a_7 (s.ws.length + 1) c_7) (w' := w_7) rfl (by kernel_rfl) (by kernel_rfl) (exec_app _ _ 22 22 rfl _ _ _ (by kernel_rfl) (by kernel_rfl) hrun) ⟨(HB.out.cell 4), HY.out⟩ (fun hH => ?_)
   try simp only [pA, pB, p1, p2, p3]
   clear hrun ho hc
   refine aT (i := 12) (oi := { dst := some 65, op := Op.nilCheck (Operand.tmp 53), type := 0, pos := "word.go:84", after := #[{ on := 0, ground := Ground.data }, { on := 0, ground := Ground.phase }, { on := 1, ground := Ground.phase }, { on := 2, ground := Ground.phase }, { on := 3, ground := Ground.phase }, { on := 4, ground := Ground.phase }, { on := 5, ground := Ground.phase }, { on := 6, ground := Ground.phase }, { on := 7, ground := Ground.phase }, { on := 8, ground := Ground.phase }, { on := 9, ground := Ground.phase }, { on := 10, ground := Ground.phase }, { on := 11, ground := Ground.phase }], guard := none }) (v := .pointer (some ⟨g, 0, none⟩)) (fun _ _ => by kernel_rfl) hH ?_
   try simp only [pA, pB, p1, p2, p3]
   refine aT (i := 13) (oi := { dst := some 66, op := Op.fieldAddr 40 (Operand.tmp 65) 1, type := 0, pos := "word.go:84", after := #[{ on := 12, ground := Ground.data }, { on := 0, ground := Ground.phase }, { on := 1, ground := Ground.phase }, { on := 2, ground := Ground.phase }, { on := 3, ground := Ground.phase }, { on := 4, ground := Ground.phase }, { on := 5, ground := Ground.phase }, { on := 6, ground := Ground.phase }, { on := 7, ground := Ground.phase }, { on := 8, ground := Ground.phase }, { on := 9, ground := Ground.phase }, { on := 10, ground := Ground.phase }, { on := 11, ground := Ground.phase }], guard := none }) (v := .pointer (some ⟨g, 1, none⟩)) (fun _ _ => by kernel_rfl) hH ?_
   try simp only [pA, pB, p1, p2, p3]
   have hst : (storeVar 22 ⟨g, 1, none⟩ (.slice a_7 (s.ws.length + 1) c_7)).run Try.prog w_7 = .ok () (w_7.setRow g #[.string (bs l), .slice a_7 (s.ws.length + 1) c_7, .int .i64 6, .int .i64 (s.fr : Int), .slice a_1 bt2.length c_1]) := run_store_to (cur := [.string (bs l), .slice wa s.ws.length wc, .int .i64 6, .int .i64 (s.fr : Int), .slice a_1 bt2.length c_1]) (vs := [.slice a_7 (s.ws.length + 1) c_7]) (new := [.string (bs l), .slice a_7 (s.ws.length + 1) c_7, .int .i64 6, .int .i64 (s.fr : Int), .slice a_1 bt2.length c_1]) HB.out (by kernel_rfl) S22 (Nat.le_of_ble_eq_true (by kernel_rfl)) (by simp [Value.oneCell', strV, u8V]) (by kernel_rfl)
   have HW : Hid (Own 9 1 (w_7.setRow g #[.string (bs l), .slice a_7 (s.ws.length + 1) c_7, .int .i64 6, .int .i64 (s.fr : Int), .slice a_1 bt2.length c_1]) n0 a_7 c_7 (s.ws.length + 1) (s.ws.map strV ++ [.string (bs bt2)])) := HW.out.kept (Kept.setRow _ _ _) (HW.out.notBox HB.out (by decide))
   have HY : Hid (Own 5 1 (w_7.setRow g #[.string (bs l), .slice a_7 (s.ws.length + 1) c_7, .int .i64 6, .int .i64 (s.fr : Int), .slice a_1 bt2.length c_1]) n0 a_1 c_1 bt2.length (bt2.map u8V)) := HY.out.kept (Kept.setRow _ _ _) (HY.out.notBox HB.out (by decide))
   have HK : Hid (Kept (Sg n0 g) w (w_7.setRow g #[.string (bs l), .slice a_7 (s.ws.length + 1) c_7, .int .i64 6, .int .i64 (s.fr : Int), .slice a_1 bt2.length c_1])) := HK.out.inRow (S := Sg n0 g) (Or.inl rfl) _
   have HB : Hid (Box (w_7.setRow g #[.string (bs l), .slice a_7 (s.ws.length + 1) c_7, .int .i64 6, .int .i64 (s.fr : Int), .slice a_1 bt2.length c_1]) g 40 #[.string (bs l), .slice a_7 (s.ws.length + 1) c_7, .int .i64 6, .int .i64 (s.fr : Int), .slice a_1 bt2.length c_1]) := HB.out.setRow _
   refine any_store (i := 14) (o := { dst := none, op := Op.store 22 (Operand.tmp 66) (Operand.tmp 64), type := 0, pos := "word.go:84", after := #[{ on := 13, ground := Ground.data }, { on := 11, ground := Ground.data }, { on := 11, ground := Ground.chain }, { on := 0, ground := Ground.phase }, { on := 1, ground := Ground.phase }, { on := 2, ground := Ground.phase }, { on := 3, ground := Ground.phase }, { on := 4, ground := Ground.phase }, { on := 5, ground := Ground.phase }, { on := 6, ground := Ground.phase }, { on := 7, ground := Ground.phase }, { on := 8, ground := Ground.phase }, { on := 9, ground := Ground.phase }, { on := 10, ground := Ground.phase }, { on := 11, ground := Ground.phase }], guard := none }) (w' := w_7.setRow g #[.string (bs l), .slice a_7 (s.ws.length + 1) c_7, .int .i64 6, .int .i64 (s.fr : Int), .slice a_1 bt2.length c_1]) rfl (by kernel_rfl) (by kernel_rfl) 22 _ _ rfl ⟨g, 1, none⟩ (.slice a_7 (s.ws.length + 1) c_7) (by kernel_rfl) (by kernel_rfl) hst ⟨(HB.out.cell 4), HY.out⟩ (fun hH => ?_)
   try simp only [pA, pB, p1, p2, p3]
   clear hst
   generalize w_7.setRow g #[.string (bs l), .slice a_7 (s.ws.length + 1) c_7, .int .i64 6, .int .i64 (s.fr : Int), .slice a_1 bt2.length c_1] = wk9 at HW HY HK HB hH ⊢
   refine wpAnyH_done (by kernel_rfl) ?_ _
   try simp only [pA, pB, p1, p2, p3]
   clear hH
   have hq := HBT.out
   subst hq
   go_wp2
   go_end0
   rw [HC.out]
   exact ⟨rfl, by rw [HS.out]; exact CutA.of _ HB.out HW.out HY.out (Nat.le_trans HL.out HK.out.size) (by simp [strV, u8V]) (by simp [strV, u8V]) (by simp [strV, u8V]) (by simp [strV, u8V]) (by simp [strV, u8V]) (by simp [strV, u8V]), HK.out⟩
  ·skip
   clear hi
   have HW : Hid (Own 9 1 (wk5.alloc (.cells [.string (bs bt2)].toArray 9)) n0 wa wc s.ws.length (s.ws.map strV)) := HW.out.no ((Kept.refl No _).alloc _)
   have HY : Hid (Own 5 1 (wk5.alloc (.cells [.string (bs bt2)].toArray 9)) n0 a_1 c_1 bt2.length (bt2.map u8V)) := HY.out.no ((Kept.refl No _).alloc _)
   have HK : Hid (Kept (Sg n0 g) w (wk5.alloc (.cells [.string (bs bt2)].toArray 9))) := HK.out.alloc _
   have HB : Hid (Box (wk5.alloc (.cells [.string (bs bt2)].toArray 9)) g 40 #[.string (bs l), .slice wa s.ws.length wc, .int .i64 6, .int .i64 (s.fr : Int), .slice a_1 bt2.length c_1]) := HB.out.alloc _
   have HX : Hid (Box (wk5.alloc (.cells [.string (bs bt2)].toArray 9)) wk5.heap.size 9 [.string (bs bt2)].toArray) := Box.new _ _ _
   refine step_run (i := 10) (o := { dst := some 63, op := Op.buildSlice 22 1 #[(0, Operand.tmp 62)], type := 22, pos := "word.go:84", after := #[{ on := 9, ground := Ground.data }], guard := none }) (v := .slice (some ⟨wk5.heap.size, 0, none⟩) 1 1) (w' := wk5.alloc (.cells [.string (bs bt2)].toArray 9)) rfl (by kernel_rfl) (exec_built (by kernel_rfl)) ⟨(HB.out.cell 4), HY.out⟩ (fun hH => ?_)
   try simp only [pA, pB, p1, p2, p3]
   generalize wk5.alloc (.cells [.string (bs bt2)].toArray 9) = wk10 at HW HY HK HX HB hH ⊢
   generalize wk5.heap.size = gk11 at HX ⊢
   refine any_step (i := 4) (o := { dst := some 57, op := Op.load 22 (Operand.tmp 56), type := 22, pos := "word.go:84", after := #[{ on := 3, ground := Ground.data }], guard := none }) (v := .slice wa s.ws.length wc) (w' := wk10) rfl (by kernel_rfl) (by kernel_rfl) (exec_load 22 _ rfl ⟨g, 1, none⟩ (by kernel_rfl) (.slice wa s.ws.length wc) (load_one (HB.out.cell 1) U22 rfl)) ⟨(HB.out.cell 4), HY.out⟩ (fun hH => ?_)
   try simp only [pA, pB, p1, p2, p3]
   obtain ⟨a_11, c_11, w_11, hrun, ho, hc⟩ := run_app 22 9 16 _ U22 I9 rfl HW.out 22 ⟨gk11, 0, none⟩ 1 1 [.string (bs bt2)] rfl (box_news HX.out) (by simp [Value.oneCell', strV, u8V]) (by have h1 := HI.out; have h2 := HBd.out; have h3 := HWd.out; have h4 := cutL_len l s.fr i; omega) (by have h1 := HI.out; have h2 := HBd.out; have h3 := HWd.out; have h4 := cutL_len l s.fr i; omega) (Nat.le_trans HL.out HK.out.size)
   clear HX
   have HY : Hid (Own 5 1 w_11 n0 a_1 c_1 bt2.length (bt2.map u8V)) := HY.out.kept hc (own_apart HY.out HW.out (by decide))
   have HK : Hid (Kept (Sg n0 g) w w_11) := HK.out.trans hc (fun _ e => e) (fun _ _ e => Or.inr (HW.out.base e))
   have HB : Hid (Box w_11 g 40 #[.string (bs l), .slice wa s.ws.length wc, .int .i64 6, .int .i64 (s.fr : Int), .slice a_1 bt2.length c_1]) := HB.out.kept hc (HW.out.offBox HB.out (by decide))
   have HW : Hid (Own 9 1 w_11 n0 a_11 c_11 (s.ws.length + 1) (s.ws.map strV ++ [.string (bs bt2)])) := ho
   refine any_step (i := 11) (o := { dst := some 64, op := Op.call { callee := Callee.builtin Builtin.append, args := #[Operand.tmp 57, Operand.tmp 63], argTypes := #[22, 22] }, type := 22, pos := "word.go:84", after := #[{ on := 4, ground := Ground.data }, { on := 10, ground := Ground.data }], guard := none }) (v := .slice a_11 (s.ws.length + 1) c_11) (w' := w_11) rfl (by kernel_rfl) (by kernel_rfl) (exec_app _ _ 22 22 rfl _ _ _ (by kernel_rfl) (by kernel_rfl) hrun) ⟨(HB.out.cell 4), HY.out⟩ (fun hH => ?_)
   try simp only [pA, pB, p1, p2, p3]
   clear hrun ho hc
   refine aT (i := 12) (oi := { dst := some 65, op := Op.nilCheck (Operand.tmp 53), type := 0, pos := "word.go:84", after := #[{ on := 0, ground := Ground.data }, { on := 0, ground := Ground.phase }, { on := 1, ground := Ground.phase }, { on := 2, ground := Ground.phase }, { on := 3, ground := Ground.phase }, { on := 4, ground := Ground.phase }, { on := 5, ground := Ground.phase }, { on := 6, ground := Ground.phase }, { on := 7, ground := Ground.phase }, { on := 8, ground := Ground.phase }, { on := 9, ground := Ground.phase }, { on := 10, ground := Ground.phase }, { on := 11, ground := Ground.phase }], guard := none }) (v := .pointer (some ⟨g, 0, none⟩)) (fun _ _ => by kernel_rfl) hH ?_
   try simp only [pA, pB, p1, p2, p3]
   refine aT (i := 13) (oi := { dst := some 66, op := Op.fieldAddr 40 (Operand.tmp 65) 1, type := 0, pos := "word.go:84", after := #[{ on := 12, ground := Ground.data }, { on := 0, ground := Ground.phase }, { on := 1, ground := Ground.phase }, { on := 2, ground := Ground.phase }, { on := 3, ground := Ground.phase }, { on := 4, ground := Ground.phase }, { on := 5, ground := Ground.phase }, { on := 6, ground := Ground.phase }, { on := 7, ground := Ground.phase }, { on := 8, ground := Ground.phase }, { on := 9, ground := Ground.phase }, { on := 10, ground := Ground.phase }, { on := 11, ground := Ground.phase }], guard := none }) (v := .pointer (some ⟨g, 1, none⟩)) (fun _ _ => by kernel_rfl) hH ?_
   try simp only [pA, pB, p1, p2, p3]
   have hst : (storeVar 22 ⟨g, 1, none⟩ (.slice a_11 (s.ws.length + 1) c_11)).run Try.prog w_11 = .ok () (w_11.setRow g #[.string (bs l), .slice a_11 (s.ws.length + 1) c_11, .int .i64 6, .int .i64 (s.fr : Int), .slice a_1 bt2.length c_1]) := run_store_to (cur := [.string (bs l), .slice wa s.ws.length wc, .int .i64 6, .int .i64 (s.fr : Int), .slice a_1 bt2.length c_1]) (vs := [.slice a_11 (s.ws.length + 1) c_11]) (new := [.string (bs l), .slice a_11 (s.ws.length + 1) c_11, .int .i64 6, .int .i64 (s.fr : Int), .slice a_1 bt2.length c_1]) HB.out (by kernel_rfl) S22 (Nat.le_of_ble_eq_true (by kernel_rfl)) (by simp [Value.oneCell', strV, u8V]) (by kernel_rfl)
   have HW : Hid (Own 9 1 (w_11.setRow g #[.string (bs l), .slice a_11 (s.ws.length + 1) c_11, .int .i64 6, .int .i64 (s.fr : Int), .slice a_1 bt2.length c_1]) n0 a_11 c_11 (s.ws.length + 1) (s.ws.map strV ++ [.string (bs bt2)])) := HW.out.kept (Kept.setRow _ _ _) (HW.out.notBox HB.out (by decide))
   have HY : Hid (Own 5 1 (w_11.setRow g #[.string (bs l), .slice a_11 (s.ws.length + 1) c_11, .int .i64 6, .int .i64 (s.fr : Int), .slice a_1 bt2.length c_1]) n0 a_1 c_1 bt2.length (bt2.map u8V)) := HY.out.kept (Kept.setRow _ _ _) (HY.out.notBox HB.out (by decide))
   have HK : Hid (Kept (Sg n0 g) w (w_11.setRow g #[.string (bs l), .slice a_11 (s.ws.length + 1) c_11, .int .i64 6, .int .i64 (s.fr : Int), .slice a_1 bt2.length c_1])) := HK.out.inRow (S := Sg n0 g) (Or.inl rfl) _
   have HB : Hid (Box (w_11.setRow g #[.string (bs l), .slice a_11 (s.ws.length + 1) c_11, .int .i64 6, .int .i64 (s.fr : Int), .slice a_1 bt2.length c_1]) g 40 #[.string (bs l), .slice a_11 (s.ws.length + 1) c_11, .int .i64 6, .int .i64 (s.fr : Int), .slice a_1 bt2.length c_1]) := HB.out.setRow _
   refine any_store (i := 14) (o := { dst := none, op := Op.store 22 (Operand.tmp 66) (Operand.tmp 64), type := 0, pos := "word.go:84", after := #[{ on := 13, ground := Ground.data }, { on := 11, ground := Ground.data }, { on := 11, ground := Ground.chain }, { on := 0, ground := Ground.phase }, { on := 1, ground := Ground.phase }, { on := 2, ground := Ground.phase }, { on := 3, ground := Ground.phase }, { on := 4, ground := Ground.phase }, { on := 5, ground := Ground.phase }, { on := 6, ground := Ground.phase }, { on := 7, ground := Ground.phase }, { on := 8, ground := Ground.phase }, { on := 9, ground := Ground.phase }, { on := 10, ground := Ground.phase }, { on := 11, ground := Ground.phase }], guard := none }) (w' := w_11.setRow g #[.string (bs l), .slice a_11 (s.ws.length + 1) c_11, .int .i64 6, .int .i64 (s.fr : Int), .slice a_1 bt2.length c_1]) rfl (by kernel_rfl) (by kernel_rfl) 22 _ _ rfl ⟨g, 1, none⟩ (.slice a_11 (s.ws.length + 1) c_11) (by kernel_rfl) (by kernel_rfl) hst ⟨(HB.out.cell 4), HY.out⟩ (fun hH => ?_)
   try simp only [pA, pB, p1, p2, p3]
   clear hst
   generalize w_11.setRow g #[.string (bs l), .slice a_11 (s.ws.length + 1) c_11, .int .i64 6, .int .i64 (s.fr : Int), .slice a_1 bt2.length c_1] = wk13 at HW HY HK HB hH ⊢
   refine wpAnyH_done (by kernel_rfl) ?_ _
   try simp only [pA, pB, p1, p2, p3]
   clear hH
   have hq := HBT.out
   subst hq
   go_wp2
   go_end0
   rw [HC.out]
   exact ⟨rfl, by rw [HS.out]; exact CutA.of _ HB.out HW.out HY.out (Nat.le_trans HL.out HK.out.size) (by simp [strV, u8V]) (by simp [strV, u8V]) (by simp [strV, u8V]) (by simp [strV, u8V]) (by simp [strV, u8V]) (by simp [strV, u8V]), HK.out⟩
set_option maxRecDepth 100000 in
set_option maxHeartbeats 4000000 in
theorem quo_n (n0 g : Nat) (l : List UInt8) (s : Cs) (i : Nat) (r : Int) (w : World) (hcut : CutA n0 w g l s) (hi : i < l.length) (hl : l.length ≤ 1000000000000) (hfr : s.fr ≤ i) (hws : s.ws.length ≤ 1000000000000) (hbt : s.bt.length ≤ 1000000000000) (hr92 : r ≠ 92) (hr34 : r ≠ 34) : Calls Try.prog 15 #[.pointer (some ⟨g, 0, none⟩), .int .i64 (i : Int), .int .i32 r] w (fun e w' => e = .returned (.tuple #[]) ∧ CutA n0 w' g l (quoS l s i r) ∧ Kept (Sg n0 g) w w') := by
  obtain ⟨C, hC⟩ : ∃ C : Ending → World → Prop, C = (fun e w' => e = .returned (.tuple #[]) ∧ CutA n0 w' g l (quoS l s i r) ∧ Kept (Sg n0 g) w w') := ⟨_, rfl⟩
  have HC : Hid (C = (fun e w' => e = .returned (.tuple #[]) ∧ CutA n0 w' g l (quoS l s i r) ∧ Kept (Sg n0 g) w w')) := hC
  rw [← hC]
  clear hC
  have hne92 : (r == 92) = false := by simpa using hr92
  have hne34 : (r == 34) = false := by simpa using hr34
  have HS : Hid (quoS l s i r = s) := by show _ = _; unfold quoS; simp [hr92, hr34]
  clear hr92 hr34
  obtain ⟨wa, wc, ba, bc, hC0⟩ := hcut
  have HB : Hid (Box w g 40 #[.string (bs l), .slice wa s.ws.length wc, .int .i64 (s.pl : Int), .int .i64 (s.fr : Int), .slice ba s.bt.length bc]) := hC0.box
  have HW : Hid (Own 9 1 w n0 wa wc s.ws.length (s.ws.map strV)) := hC0.hw
  have HY : Hid (Own 5 1 w n0 ba bc s.bt.length (s.bt.map u8V)) := hC0.hb
  have HL : Hid (n0 ≤ w.heap.size) := hC0.hn
  have HK : Hid (Kept (Sg n0 g) w w) := Kept.refl _ _
  clear hC0
  have HI : Hid (i < l.length ∧ l.length ≤ 1000000000000) := ⟨hi, hl⟩
  have HFr : Hid (s.fr ≤ i) := hfr
  have HWd : Hid (s.ws.length ≤ 1000000000000) := hws
  have HBd : Hid (s.bt.length ≤ 1000000000000) := hbt
  clear hi hl hfr hws hbt
  go_enter Try.func15, Try.ntmps15
  go_upto_region 0 with fail
  refine WL.start ?_
  refine tK (.int .i32 r) ?_
  try simp only [pA, pB, p1, p2, p3]
  refine WL.nil ?_
  try simp only [pA, pB, p1, p2, p3]
  go_upto_region 1 with fail
  refine WL.start ?_
  refine tW (.bool false) (exec_bin .eql 21 _ _ _ rfl (.int .i32 r) (.int .i32 92) (.bool false) (by kernel_rfl) (by kernel_rfl) (by kernel_rfl) (by rw [b_eq21, hne92])) ?_
  try simp only [pA, pB, p1, p2, p3]
  refine tK (.bool false) ?_
  try simp only [pA, pB, p1, p2, p3]
  refine WL.nil ?_
  try simp only [pA, pB, p1, p2, p3]
  go_upto_region 3 with fail
  refine WL.start ?_
  refine tW (.bool false) (exec_bin .eql 21 _ _ _ rfl (.int .i32 r) (.int .i32 34) (.bool false) (by kernel_rfl) (by kernel_rfl) (by kernel_rfl) (by rw [b_eq21, hne34])) ?_
  try simp only [pA, pB, p1, p2, p3]
  refine tK (.bool false) ?_
  try simp only [pA, pB, p1, p2, p3]
  refine WL.nil ?_
  try simp only [pA, pB, p1, p2, p3]
  go_wp2
  go_end0
  rw [HC.out]
  exact ⟨rfl, by rw [HS.out]; exact CutA.of _ HB.out HW.out HY.out (Nat.le_trans HL.out HK.out.size) (by simp [strV, u8V]) (by simp [strV, u8V]) (by simp [strV, u8V]) (by simp [strV, u8V]) (by simp [strV, u8V]) (by simp [strV, u8V]), HK.out⟩
set_option maxRecDepth 100000 in
set_option maxHeartbeats 4000000 in
theorem ese_q (n0 g : Nat) (l : List UInt8) (s : Cs) (i : Nat) (r : Int) (w : World) (hcut : CutA n0 w g l s) (hi : i < l.length) (hl : l.length ≤ 1000000000000) (hfr : s.fr ≤ i) (hws : s.ws.length ≤ 1000000000000) (hbt : s.bt.length ≤ 1000000000000) (hr : r = 34) : Calls Try.prog 16 #[.pointer (some ⟨g, 0, none⟩), .int .i64 (i : Int), .int .i32 r] w (fun e w' => e = .returned (.tuple #[]) ∧ CutA n0 w' g l (eseS s i r) ∧ Kept (Sg n0 g) w w') := by
  obtain ⟨C, hC⟩ : ∃ C : Ending → World → Prop, C = (fun e w' => e = .returned (.tuple #[]) ∧ CutA n0 w' g l (eseS s i r) ∧ Kept (Sg n0 g) w w') := ⟨_, rfl⟩
  have HC : Hid (C = (fun e w' => e = .returned (.tuple #[]) ∧ CutA n0 w' g l (eseS s i r) ∧ Kept (Sg n0 g) w w')) := hC
  rw [← hC]
  clear hC
  subst hr
  have HS : Hid (eseS s i 34 = { s with pl := 2, fr := i + 1, bt := s.bt ++ [UInt8.ofNat (34 : Int).toNat] }) := rfl
  obtain ⟨wa, wc, ba, bc, hC0⟩ := hcut
  have HB : Hid (Box w g 40 #[.string (bs l), .slice wa s.ws.length wc, .int .i64 (s.pl : Int), .int .i64 (s.fr : Int), .slice ba s.bt.length bc]) := hC0.box
  have HW : Hid (Own 9 1 w n0 wa wc s.ws.length (s.ws.map strV)) := hC0.hw
  have HY : Hid (Own 5 1 w n0 ba bc s.bt.length (s.bt.map u8V)) := hC0.hb
  have HL : Hid (n0 ≤ w.heap.size) := hC0.hn
  have HK : Hid (Kept (Sg n0 g) w w) := Kept.refl _ _
  clear hC0
  have HI : Hid (i < l.length ∧ l.length ≤ 1000000000000) := ⟨hi, hl⟩
  have HFr : Hid (s.fr ≤ i) := hfr
  have HWd : Hid (s.ws.length ≤ 1000000000000) := hws
  have HBd : Hid (s.bt.length ≤ 1000000000000) := hbt
  clear hi hl hfr hws hbt
  go_enter Try.func16, Try.ntmps16
  go_upto_region 0 with fail
  refine WL.start ?_
  refine tK (.pointer (some ⟨g, 0, none⟩)) ?_
  try simp only [pA, pB, p1, p2, p3]
  refine tK (.pointer (some ⟨g, 0, none⟩)) ?_
  try simp only [pA, pB, p1, p2, p3]
  refine tK (.int .i64 (i : Int)) ?_
  try simp only [pA, pB, p1, p2, p3]
  refine tW (.int .i64 ((i + 1 : Nat) : Int)) (exec_bin .add 3 _ _ _ rfl (.int .i64 (i : Int)) (.int .i64 1) (.int .i64 ((i + 1 : Nat) : Int)) (by kernel_rfl) (by kernel_rfl) (by kernel_rfl) (b_add1 i (by have := HI.out; omega) _)) ?_
  try simp only [pA, pB, p1, p2, p3]
  refine tK (.pointer (some ⟨g, 0, none⟩)) ?_
  try simp only [pA, pB, p1, p2, p3]
  refine tK (.pointer (some ⟨g, 2, none⟩)) ?_
  try simp only [pA, pB, p1, p2, p3]
  have hst : (storeVar 38 ⟨g, 2, none⟩ (.int .i64 2)).run Try.prog w = .ok () (w.setRow g #[.string (bs l), .slice wa s.ws.length wc, .int .i64 2, .int .i64 (s.fr : Int), .slice ba s.bt.length bc]) := run_store_to (cur := [.string (bs l), .slice wa s.ws.length wc, .int .i64 (s.pl : Int), .int .i64 (s.fr : Int), .slice ba s.bt.length bc]) (vs := [.int .i64 2]) (new := [.string (bs l), .slice wa s.ws.length wc, .int .i64 2, .int .i64 (s.fr : Int), .slice ba s.bt.length bc]) HB.out (by kernel_rfl) S38 (Nat.le_of_ble_eq_true (by kernel_rfl)) (by simp [Value.oneCell', strV, u8V]) (by kernel_rfl)
  have HW : Hid (Own 9 1 (w.setRow g #[.string (bs l), .slice wa s.ws.length wc, .int .i64 2, .int .i64 (s.fr : Int), .slice ba s.bt.length bc]) n0 wa wc s.ws.length (s.ws.map strV)) := HW.out.kept (Kept.setRow _ _ _) (HW.out.notBox HB.out (by decide))
  have HY : Hid (Own 5 1 (w.setRow g #[.string (bs l), .slice wa s.ws.length wc, .int .i64 2, .int .i64 (s.fr : Int), .slice ba s.bt.length bc]) n0 ba bc s.bt.length (s.bt.map u8V)) := HY.out.kept (Kept.setRow _ _ _) (HY.out.notBox HB.out (by decide))
  have HK : Hid (Kept (Sg n0 g) w (w.setRow g #[.string (bs l), .slice wa s.ws.length wc, .int .i64 2, .int .i64 (s.fr : Int), .slice ba s.bt.length bc])) := HK.out.inRow (S := Sg n0 g) (Or.inl rfl) _
  have HB : Hid (Box (w.setRow g #[.string (bs l), .slice wa s.ws.length wc, .int .i64 2, .int .i64 (s.fr : Int), .slice ba s.bt.length bc]) g 40 #[.string (bs l), .slice wa s.ws.length wc, .int .i64 2, .int .i64 (s.fr : Int), .slice ba s.bt.length bc]) := HB.out.setRow _
  refine wp_storeW 38 _ _ rfl ⟨g, 2, none⟩ (.int .i64 2) (by kernel_rfl) (by kernel_rfl) (w.setRow g #[.string (bs l), .slice wa s.ws.length wc, .int .i64 2, .int .i64 (s.fr : Int), .slice ba s.bt.length bc]) hst (by kernel_rfl) ?_
  try simp only [pA, pB, p1, p2, p3]
  clear hst
  generalize w.setRow g #[.string (bs l), .slice wa s.ws.length wc, .int .i64 2, .int .i64 (s.fr : Int), .slice ba s.bt.length bc] = wk1 at HW HY HK HB ⊢
  refine tK (.pointer (some ⟨g, 0, none⟩)) ?_
  try simp only [pA, pB, p1, p2, p3]
  refine tK (.pointer (some ⟨g, 3, none⟩)) ?_
  try simp only [pA, pB, p1, p2, p3]
  have hst : (storeVar 3 ⟨g, 3, none⟩ (.int .i64 ((i + 1 : Nat) : Int))).run Try.prog wk1 = .ok () (wk1.setRow g #[.string (bs l), .slice wa s.ws.length wc, .int .i64 2, .int .i64 ((i + 1 : Nat) : Int), .slice ba s.bt.length bc]) := run_store_to (cur := [.string (bs l), .slice wa s.ws.length wc, .int .i64 2, .int .i64 (s.fr : Int), .slice ba s.bt.length bc]) (vs := [.int .i64 ((i + 1 : Nat) : Int)]) (new := [.string (bs l), .slice wa s.ws.length wc, .int .i64 2, .int .i64 ((i + 1 : Nat) : Int), .slice ba s.bt.length bc]) HB.out (by kernel_rfl) S3 (Nat.le_of_ble_eq_true (by kernel_rfl)) (by simp [Value.oneCell', strV, u8V]) (by kernel_rfl)
  have HW : Hid (Own 9 1 (wk1.setRow g #[.string (bs l), .slice wa s.ws.length wc, .int .i64 2, .int .i64 ((i + 1 : Nat) : Int), .slice ba s.bt.length bc]) n0 wa wc s.ws.length (s.ws.map strV)) := HW.out.kept (Kept.setRow _ _ _) (HW.out.notBox HB.out (by decide))
  have HY : Hid (Own 5 1 (wk1.setRow g #[.string (bs l), .slice wa s.ws.length wc, .int .i64 2, .int .i64 ((i + 1 : Nat) : Int), .slice ba s.bt.length bc]) n0 ba bc s.bt.length (s.bt.map u8V)) := HY.out.kept (Kept.setRow _ _ _) (HY.out.notBox HB.out (by decide))
  have HK : Hid (Kept (Sg n0 g) w (wk1.setRow g #[.string (bs l), .slice wa s.ws.length wc, .int .i64 2, .int .i64 ((i + 1 : Nat) : Int), .slice ba s.bt.length bc])) := HK.out.inRow (S := Sg n0 g) (Or.inl rfl) _
  have HB : Hid (Box (wk1.setRow g #[.string (bs l), .slice wa s.ws.length wc, .int .i64 2, .int .i64 ((i + 1 : Nat) : Int), .slice ba s.bt.length bc]) g 40 #[.string (bs l), .slice wa s.ws.length wc, .int .i64 2, .int .i64 ((i + 1 : Nat) : Int), .slice ba s.bt.length bc]) := HB.out.setRow _
  refine wp_storeW 3 _ _ rfl ⟨g, 3, none⟩ (.int .i64 ((i + 1 : Nat) : Int)) (by kernel_rfl) (by kernel_rfl) (wk1.setRow g #[.string (bs l), .slice wa s.ws.length wc, .int .i64 2, .int .i64 ((i + 1 : Nat) : Int), .slice ba s.bt.length bc]) hst (by kernel_rfl) ?_
  try simp only [pA, pB, p1, p2, p3]
  clear hst
  generalize wk1.setRow g #[.string (bs l), .slice wa s.ws.length wc, .int .i64 2, .int .i64 ((i + 1 : Nat) : Int), .slice ba s.bt.length bc] = wk2 at HW HY HK HB ⊢
  refine WL.nil ?_
  try simp only [pA, pB, p1, p2, p3]
  go_upto_region 1 with fail
  refine WL.start ?_
  refine tK (.int .i32 34) ?_
  try simp only [pA, pB, p1, p2, p3]
  refine WL.nil ?_
  try simp only [pA, pB, p1, p2, p3]
  go_upto_region 3 with fail
  refine WL.start ?_
  refine tK (.bool true) ?_
  try simp only [pA, pB, p1, p2, p3]
  refine tK (.bool true) ?_
  try simp only [pA, pB, p1, p2, p3]
  refine WL.nil ?_
  try simp only [pA, pB, p1, p2, p3]
  go_upto_region 5 with fail
  refine WL.start ?_
  refine tK (.pointer (some ⟨g, 0, none⟩)) ?_
  try simp only [pA, pB, p1, p2, p3]
  refine tK (.pointer (some ⟨g, 0, none⟩)) ?_
  try simp only [pA, pB, p1, p2, p3]
  refine tK (.pointer (some ⟨g, 0, none⟩)) ?_
  try simp only [pA, pB, p1, p2, p3]
  refine tK (.pointer (some ⟨g, 4, none⟩)) ?_
  try simp only [pA, pB, p1, p2, p3]
  refine tW (.slice ba s.bt.length bc) (exec_load 30 _ rfl ⟨g, 4, none⟩ (by kernel_rfl) (.slice ba s.bt.length bc) (load_one (HB.out.cell 4) U30 rfl)) ?_
  try simp only [pA, pB, p1, p2, p3]
  refine tK (.int .i32 34) ?_
  try simp only [pA, pB, p1, p2, p3]
  refine tK (.int .u8 34) ?_
  try simp only [pA, pB, p1, p2, p3]
  have HW : Hid (Own 9 1 (wk2.alloc (.cells [.int .u8 34].toArray 5)) n0 wa wc s.ws.length (s.ws.map strV)) := HW.out.no ((Kept.refl No _).alloc _)
  have HY : Hid (Own 5 1 (wk2.alloc (.cells [.int .u8 34].toArray 5)) n0 ba bc s.bt.length (s.bt.map u8V)) := HY.out.no ((Kept.refl No _).alloc _)
  have HK : Hid (Kept (Sg n0 g) w (wk2.alloc (.cells [.int .u8 34].toArray 5))) := HK.out.alloc _
  have HB : Hid (Box (wk2.alloc (.cells [.int .u8 34].toArray 5)) g 40 #[.string (bs l), .slice wa s.ws.length wc, .int .i64 2, .int .i64 ((i + 1 : Nat) : Int), .slice ba s.bt.length bc]) := HB.out.alloc _
  have HX : Hid (Box (wk2.alloc (.cells [.int .u8 34].toArray 5)) wk2.heap.size 5 [.int .u8 34].toArray) := Box.new _ _ _
  refine wp_runW (.slice (some ⟨wk2.heap.size, 0, none⟩) 1 1) (wk2.alloc (.cells [.int .u8 34].toArray 5)) (exec_built (by kernel_rfl)) (by kernel_rfl) ?_
  try simp only [pA, pB, p1, p2, p3]
  generalize wk2.alloc (.cells [.int .u8 34].toArray 5) = wk3 at HW HY HK HX HB ⊢
  generalize wk2.heap.size = gk4 at HX ⊢
  obtain ⟨a_4, c_4, w_4, hrun, ho, hc⟩ := run_app 30 5 1 _ U30 I5 rfl HY.out 30 ⟨gk4, 0, none⟩ 1 1 [.int .u8 34] rfl (box_news HX.out) (by simp [Value.oneCell', strV, u8V]) (by have h1 := HI.out; have h2 := HBd.out; have h3 := HWd.out; have h4 := cutL_len l s.fr i; omega) (by have h1 := HI.out; have h2 := HBd.out; have h3 := HWd.out; have h4 := cutL_len l s.fr i; omega) (Nat.le_trans HL.out HK.out.size)
  clear HX
  have HW : Hid (Own 9 1 w_4 n0 wa wc s.ws.length (s.ws.map strV)) := HW.out.kept hc (own_apart HW.out HY.out (by decide))
  have HK : Hid (Kept (Sg n0 g) w w_4) := HK.out.trans hc (fun _ e => e) (fun _ _ e => Or.inr (HY.out.base e))
  have HB : Hid (Box w_4 g 40 #[.string (bs l), .slice wa s.ws.length wc, .int .i64 2, .int .i64 ((i + 1 : Nat) : Int), .slice ba s.bt.length bc]) := HB.out.kept hc (HY.out.offBox HB.out (by decide))
  have HY : Hid (Own 5 1 w_4 n0 a_4 c_4 (s.bt.length + 1) (s.bt.map u8V ++ [.int .u8 34])) := ho
  refine wp_runW (.slice a_4 (s.bt.length + 1) c_4) (w_4) (exec_app _ _ 30 30 rfl _ _ _ (by kernel_rfl) (by kernel_rfl) hrun) (by kernel_rfl) ?_
  try simp only [pA, pB, p1, p2, p3]
  clear hrun ho hc
  refine tK (.pointer (some ⟨g, 0, none⟩)) ?_
  try simp only [pA, pB, p1, p2, p3]
  refine tK (.pointer (some ⟨g, 4, none⟩)) ?_
  try simp only [pA, pB, p1, p2, p3]
  have hst : (storeVar 30 ⟨g, 4, none⟩ (.slice a_4 (s.bt.length + 1) c_4)).run Try.prog w_4 = .ok () (w_4.setRow g #[.string (bs l), .slice wa s.ws.length wc, .int .i64 2, .int .i64 ((i + 1 : Nat) : Int), .slice a_4 (s.bt.length + 1) c_4]) := run_store_to (cur := [.string (bs l), .slice wa s.ws.length wc, .int .i64 2, .int .i64 ((i + 1 : Nat) : Int), .slice ba s.bt.length bc]) (vs := [.slice a_4 (s.bt.length + 1) c_4]) (new := [.string (bs l), .slice wa s.ws.length wc, .int .i64 2, .int .i64 ((i + 1 : Nat) : Int), .slice a_4 (s.bt.length + 1) c_4]) HB.out (by kernel_rfl) S30 (Nat.le_of_ble_eq_true (by kernel_rfl)) (by simp [Value.oneCell', strV, u8V]) (by kernel_rfl)
  have HW : Hid (Own 9 1 (w_4.setRow g #[.string (bs l), .slice wa s.ws.length wc, .int .i64 2, .int .i64 ((i + 1 : Nat) : Int), .slice a_4 (s.bt.length + 1) c_4]) n0 wa wc s.ws.length (s.ws.map strV)) := HW.out.kept (Kept.setRow _ _ _) (HW.out.notBox HB.out (by decide))
  have HY : Hid (Own 5 1 (w_4.setRow g #[.string (bs l), .slice wa s.ws.length wc, .int .i64 2, .int .i64 ((i + 1 : Nat) : Int), .slice a_4 (s.bt.length + 1) c_4]) n0 a_4 c_4 (s.bt.length + 1) (s.bt.map u8V ++ [.int .u8 34])) := HY.out.kept (Kept.setRow _ _ _) (HY.out.notBox HB.out (by decide))
  have HK : Hid (Kept (Sg n0 g) w (w_4.setRow g #[.string (bs l), .slice wa s.ws.length wc, .int .i64 2, .int .i64 ((i + 1 : Nat) : Int), .slice a_4 (s.bt.length + 1) c_4])) := HK.out.inRow (S := Sg n0 g) (Or.inl rfl) _
  have HB : Hid (Box (w_4.setRow g #[.string (bs l), .slice wa s.ws.length wc, .int .i64 2, .int .i64 ((i + 1 : Nat) : Int), .slice a_4 (s.bt.length + 1) c_4]) g 40 #[.string (bs l), .slice wa s.ws.length wc, .int .i64 2, .int .i64 ((i + 1 : Nat) : Int), .slice a_4 (s.bt.length + 1) c_4]) := HB.out.setRow _
  refine wp_storeW 30 _ _ rfl ⟨g, 4, none⟩ (.slice a_4 (s.bt.length + 1) c_4) (by kernel_rfl) (by kernel_rfl) (w_4.setRow g #[.string (bs l), .slice wa s.ws.length wc, .int .i64 2, .int .i64 ((i + 1 : Nat) : Int), .slice a_4 (s.bt.length + 1) c_4]) hst (by kernel_rfl) ?_
  try simp only [pA, pB, p1, p2, p3]
  clear hst
  generalize w_4.setRow g #[.string (bs l), .slice wa s.ws.length wc, .int .i64 2, .int .i64 ((i + 1 : Nat) : Int), .slice a_4 (s.bt.length + 1) c_4] = wk6 at HW HY HK HB ⊢
  refine WL.nil ?_
  try simp only [pA, pB, p1, p2, p3]
  go_wp2
  go_end0
  rw [HC.out]
  exact ⟨rfl, by rw [HS.out]; exact CutA.of _ HB.out HW.out HY.out (Nat.le_trans HL.out HK.out.size) (by simp [strV, u8V]) (by simp [strV, u8V]) (by simp [strV, u8V]) (by simp [strV, u8V]) (by simp [strV, u8V]) (by simp [strV, u8V]), HK.out⟩
set_option maxRecDepth 100000 in
set_option maxHeartbeats 4000000 in
theorem ese_s (n0 g : Nat) (l : List UInt8) (s : Cs) (i : Nat) (r : Int) (w : World) (hcut : CutA n0 w g l s) (hi : i < l.length) (hl : l.length ≤ 1000000000000) (hfr : s.fr ≤ i) (hws : s.ws.length ≤ 1000000000000) (hbt : s.bt.length ≤ 1000000000000) (hr : r = 92) : Calls Try.prog 16 #[.pointer (some ⟨g, 0, none⟩), .int .i64 (i : Int), .int .i32 r] w (fun e w' => e = .returned (.tuple #[]) ∧ CutA n0 w' g l (eseS s i r) ∧ Kept (Sg n0 g) w w') := by
  obtain ⟨C, hC⟩ : ∃ C : Ending → World → Prop, C = (fun e w' => e = .returned (.tuple #[]) ∧ CutA n0 w' g l (eseS s i r) ∧ Kept (Sg n0 g) w w') := ⟨_, rfl⟩
  have HC : Hid (C = (fun e w' => e = .returned (.tuple #[]) ∧ CutA n0 w' g l (eseS s i r) ∧ Kept (Sg n0 g) w w')) := hC
  rw [← hC]
  clear hC
  subst hr
  have HS : Hid (eseS s i 92 = { s with pl := 2, fr := i + 1, bt := s.bt ++ [UInt8.ofNat (92 : Int).toNat] }) := rfl
  obtain ⟨wa, wc, ba, bc, hC0⟩ := hcut
  have HB : Hid (Box w g 40 #[.string (bs l), .slice wa s.ws.length wc, .int .i64 (s.pl : Int), .int .i64 (s.fr : Int), .slice ba s.bt.length bc]) := hC0.box
  have HW : Hid (Own 9 1 w n0 wa wc s.ws.length (s.ws.map strV)) := hC0.hw
  have HY : Hid (Own 5 1 w n0 ba bc s.bt.length (s.bt.map u8V)) := hC0.hb
  have HL : Hid (n0 ≤ w.heap.size) := hC0.hn
  have HK : Hid (Kept (Sg n0 g) w w) := Kept.refl _ _
  clear hC0
  have HI : Hid (i < l.length ∧ l.length ≤ 1000000000000) := ⟨hi, hl⟩
  have HFr : Hid (s.fr ≤ i) := hfr
  have HWd : Hid (s.ws.length ≤ 1000000000000) := hws
  have HBd : Hid (s.bt.length ≤ 1000000000000) := hbt
  clear hi hl hfr hws hbt
  go_enter Try.func16, Try.ntmps16
  go_upto_region 0 with fail
  refine WL.start ?_
  refine tK (.pointer (some ⟨g, 0, none⟩)) ?_
  try simp only [pA, pB, p1, p2, p3]
  refine tK (.pointer (some ⟨g, 0, none⟩)) ?_
  try simp only [pA, pB, p1, p2, p3]
  refine tK (.int .i64 (i : Int)) ?_
  try simp only [pA, pB, p1, p2, p3]
  refine tW (.int .i64 ((i + 1 : Nat) : Int)) (exec_bin .add 3 _ _ _ rfl (.int .i64 (i : Int)) (.int .i64 1) (.int .i64 ((i + 1 : Nat) : Int)) (by kernel_rfl) (by kernel_rfl) (by kernel_rfl) (b_add1 i (by have := HI.out; omega) _)) ?_
  try simp only [pA, pB, p1, p2, p3]
  refine tK (.pointer (some ⟨g, 0, none⟩)) ?_
  try simp only [pA, pB, p1, p2, p3]
  refine tK (.pointer (some ⟨g, 2, none⟩)) ?_
  try simp only [pA, pB, p1, p2, p3]
  have hst : (storeVar 38 ⟨g, 2, none⟩ (.int .i64 2)).run Try.prog w = .ok () (w.setRow g #[.string (bs l), .slice wa s.ws.length wc, .int .i64 2, .int .i64 (s.fr : Int), .slice ba s.bt.length bc]) := run_store_to (cur := [.string (bs l), .slice wa s.ws.length wc, .int .i64 (s.pl : Int), .int .i64 (s.fr : Int), .slice ba s.bt.length bc]) (vs := [.int .i64 2]) (new := [.string (bs l), .slice wa s.ws.length wc, .int .i64 2, .int .i64 (s.fr : Int), .slice ba s.bt.length bc]) HB.out (by kernel_rfl) S38 (Nat.le_of_ble_eq_true (by kernel_rfl)) (by simp [Value.oneCell', strV, u8V]) (by kernel_rfl)
  have HW : Hid (Own 9 1 (w.setRow g #[.string (bs l), .slice wa s.ws.length wc, .int .i64 2, .int .i64 (s.fr : Int), .slice ba s.bt.length bc]) n0 wa wc s.ws.length (s.ws.map strV)) := HW.out.kept (Kept.setRow _ _ _) (HW.out.notBox HB.out (by decide))
  have HY : Hid (Own 5 1 (w.setRow g #[.string (bs l), .slice wa s.ws.length wc, .int .i64 2, .int .i64 (s.fr : Int), .slice ba s.bt.length bc]) n0 ba bc s.bt.length (s.bt.map u8V)) := HY.out.kept (Kept.setRow _ _ _) (HY.out.notBox HB.out (by decide))
  have HK : Hid (Kept (Sg n0 g) w (w.setRow g #[.string (bs l), .slice wa s.ws.length wc, .int .i64 2, .int .i64 (s.fr : Int), .slice ba s.bt.length bc])) := HK.out.inRow (S := Sg n0 g) (Or.inl rfl) _
  have HB : Hid (Box (w.setRow g #[.string (bs l), .slice wa s.ws.length wc, .int .i64 2, .int .i64 (s.fr : Int), .slice ba s.bt.length bc]) g 40 #[.string (bs l), .slice wa s.ws.length wc, .int .i64 2, .int .i64 (s.fr : Int), .slice ba s.bt.length bc]) := HB.out.setRow _
  refine wp_storeW 38 _ _ rfl ⟨g, 2, none⟩ (.int .i64 2) (by kernel_rfl) (by kernel_rfl) (w.setRow g #[.string (bs l), .slice wa s.ws.length wc, .int .i64 2, .int .i64 (s.fr : Int), .slice ba s.bt.length bc]) hst (by kernel_rfl) ?_
  try simp only [pA, pB, p1, p2, p3]
  clear hst
  generalize w.setRow g #[.string (bs l), .slice wa s.ws.length wc, .int .i64 2, .int .i64 (s.fr : Int), .slice ba s.bt.length bc] = wk1 at HW HY HK HB ⊢
  refine tK (.pointer (some ⟨g, 0, none⟩)) ?_
  try simp only [pA, pB, p1, p2, p3]
  refine tK (.pointer (some ⟨g, 3, none⟩)) ?_
  try simp only [pA, pB, p1, p2, p3]
  have hst : (storeVar 3 ⟨g, 3, none⟩ (.int .i64 ((i + 1 : Nat) : Int))).run Try.prog wk1 = .ok () (wk1.setRow g #[.string (bs l), .slice wa s.ws.length wc, .int .i64 2, .int .i64 ((i + 1 : Nat) : Int), .slice ba s.bt.length bc]) := run_store_to (cur := [.string (bs l), .slice wa s.ws.length wc, .int .i64 2, .int .i64 (s.fr : Int), .slice ba s.bt.length bc]) (vs := [.int .i64 ((i + 1 : Nat) : Int)]) (new := [.string (bs l), .slice wa s.ws.length wc, .int .i64 2, .int .i64 ((i + 1 : Nat) : Int), .slice ba s.bt.length bc]) HB.out (by kernel_rfl) S3 (Nat.le_of_ble_eq_true (by kernel_rfl)) (by simp [Value.oneCell', strV, u8V]) (by kernel_rfl)
  have HW : Hid (Own 9 1 (wk1.setRow g #[.string (bs l), .slice wa s.ws.length wc, .int .i64 2, .int .i64 ((i + 1 : Nat) : Int), .slice ba s.bt.length bc]) n0 wa wc s.ws.length (s.ws.map strV)) := HW.out.kept (Kept.setRow _ _ _) (HW.out.notBox HB.out (by decide))
  have HY : Hid (Own 5 1 (wk1.setRow g #[.string (bs l), .slice wa s.ws.length wc, .int .i64 2, .int .i64 ((i + 1 : Nat) : Int), .slice ba s.bt.length bc]) n0 ba bc s.bt.length (s.bt.map u8V)) := HY.out.kept (Kept.setRow _ _ _) (HY.out.notBox HB.out (by decide))
  have HK : Hid (Kept (Sg n0 g) w (wk1.setRow g #[.string (bs l), .slice wa s.ws.length wc, .int .i64 2, .int .i64 ((i + 1 : Nat) : Int), .slice ba s.bt.length bc])) := HK.out.inRow (S := Sg n0 g) (Or.inl rfl) _
  have HB : Hid (Box (wk1.setRow g #[.string (bs l), .slice wa s.ws.length wc, .int .i64 2, .int .i64 ((i + 1 : Nat) : Int), .slice ba s.bt.length bc]) g 40 #[.string (bs l), .slice wa s.ws.length wc, .int .i64 2, .int .i64 ((i + 1 : Nat) : Int), .slice ba s.bt.length bc]) := HB.out.setRow _
  refine wp_storeW 3 _ _ rfl ⟨g, 3, none⟩ (.int .i64 ((i + 1 : Nat) : Int)) (by kernel_rfl) (by kernel_rfl) (wk1.setRow g #[.string (bs l), .slice wa s.ws.length wc, .int .i64 2, .int .i64 ((i + 1 : Nat) : Int), .slice ba s.bt.length bc]) hst (by kernel_rfl) ?_
  try simp only [pA, pB, p1, p2, p3]
  clear hst
  generalize wk1.setRow g #[.string (bs l), .slice wa s.ws.length wc, .int .i64 2, .int .i64 ((i + 1 : Nat) : Int), .slice ba s.bt.length bc] = wk2 at HW HY HK HB ⊢
  refine WL.nil ?_
  try simp only [pA, pB, p1, p2, p3]
  go_upto_region 1 with fail
  refine WL.start ?_
  refine tK (.int .i32 92) ?_
  try simp only [pA, pB, p1, p2, p3]
  refine WL.nil ?_
  try simp only [pA, pB, p1, p2, p3]
  go_upto_region 3 with fail
  refine WL.start ?_
  refine tK (.bool false) ?_
  try simp only [pA, pB, p1, p2, p3]
  refine tK (.bool false) ?_
  try simp only [pA, pB, p1, p2, p3]
  refine WL.nil ?_
  try simp only [pA, pB, p1, p2, p3]
  go_upto_region 4 with fail
  refine WL.start ?_
  refine tK (.bool true) ?_
  try simp only [pA, pB, p1, p2, p3]
  refine tK (.bool true) ?_
  try simp only [pA, pB, p1, p2, p3]
  refine WL.nil ?_
  try simp only [pA, pB, p1, p2, p3]
  go_upto_region 5 with fail
  refine WL.start ?_
  refine tK (.pointer (some ⟨g, 0, none⟩)) ?_
  try simp only [pA, pB, p1, p2, p3]
  refine tK (.pointer (some ⟨g, 0, none⟩)) ?_
  try simp only [pA, pB, p1, p2, p3]
  refine tK (.pointer (some ⟨g, 0, none⟩)) ?_
  try simp only [pA, pB, p1, p2, p3]
  refine tK (.pointer (some ⟨g, 4, none⟩)) ?_
  try simp only [pA, pB, p1, p2, p3]
  refine tW (.slice ba s.bt.length bc) (exec_load 30 _ rfl ⟨g, 4, none⟩ (by kernel_rfl) (.slice ba s.bt.length bc) (load_one (HB.out.cell 4) U30 rfl)) ?_
  try simp only [pA, pB, p1, p2, p3]
  refine tK (.int .i32 92) ?_
  try simp only [pA, pB, p1, p2, p3]
  refine tK (.int .u8 92) ?_
  try simp only [pA, pB, p1, p2, p3]
  have HW : Hid (Own 9 1 (wk2.alloc (.cells [.int .u8 92].toArray 5)) n0 wa wc s.ws.length (s.ws.map strV)) := HW.out.no ((Kept.refl No _).alloc _)
  have HY : Hid (Own 5 1 (wk2.alloc (.cells [.int .u8 92].toArray 5)) n0 ba bc s.bt.length (s.bt.map u8V)) := HY.out.no ((Kept.refl No _).alloc _)
  have HK : Hid (Kept (Sg n0 g) w (wk2.alloc (.cells [.int .u8 92].toArray 5))) := HK.out.alloc _
  have HB : Hid (Box (wk2.alloc (.cells [.int .u8 92].toArray 5)) g 40 #[.string (bs l), .slice wa s.ws.length wc, .int .i64 2, .int .i64 ((i + 1 : Nat) : Int), .slice ba s.bt.length bc]) := HB.out.alloc _
  have HX : Hid (Box (wk2.alloc (.cells [.int .u8 92].toArray 5)) wk2.heap.size 5 [.int .u8 92].toArray) := Box.new _ _ _
  refine wp_runW (.slice (some ⟨wk2.heap.size, 0, none⟩) 1 1) (wk2.alloc (.cells [.int .u8 92].toArray 5)) (exec_built (by kernel_rfl)) (by kernel_rfl) ?_
  try simp only [pA, pB, p1, p2, p3]
  generalize wk2.alloc (.cells [.int .u8 92].toArray 5) = wk3 at HW HY HK HX HB ⊢
  generalize wk2.heap.size = gk4 at HX ⊢
  obtain ⟨a_4, c_4, w_4, hrun, ho, hc⟩ := run_app 30 5 1 _ U30 I5 rfl HY.out 30 ⟨gk4, 0, none⟩ 1 1 [.int .u8 92] rfl (box_news HX.out) (by simp [Value.oneCell', strV, u8V]) (by have h1 := HI.out; have h2 := HBd.out; have h3 := HWd.out; have h4 := cutL_len l s.fr i; omega) (by have h1 := HI.out; have h2 := HBd.out; have h3 := HWd.out; have h4 := cutL_len l s.fr i; omega) (Nat.le_trans HL.out HK.out.size)
  clear HX
  have HW : Hid (Own 9 1 w_4 n0 wa wc s.ws.length (s.ws.map strV)) := HW.out.kept hc (own_apart HW.out HY.out (by decide))
  have HK : Hid (Kept (Sg n0 g) w w_4) := HK.out.trans hc (fun _ e => e) (fun _ _ e => Or.inr (HY.out.base e))
  have HB : Hid (Box w_4 g 40 #[.string (bs l), .slice wa s.ws.length wc, .int .i64 2, .int .i64 ((i + 1 : Nat) : Int), .slice ba s.bt.length bc]) := HB.out.kept hc (HY.out.offBox HB.out (by decide))
  have HY : Hid (Own 5 1 w_4 n0 a_4 c_4 (s.bt.length + 1) (s.bt.map u8V ++ [.int .u8 92])) := ho
  refine wp_runW (.slice a_4 (s.bt.length + 1) c_4) (w_4) (exec_app _ _ 30 30 rfl _ _ _ (by kernel_rfl) (by kernel_rfl) hrun) (by kernel_rfl) ?_
  try simp only [pA, pB, p1, p2, p3]
  clear hrun ho hc
  refine tK (.pointer (some ⟨g, 0, none⟩)) ?_
  try simp only [pA, pB, p1, p2, p3]
  refine tK (.pointer (some ⟨g, 4, none⟩)) ?_
  try simp only [pA, pB, p1, p2, p3]
  have hst : (storeVar 30 ⟨g, 4, none⟩ (.slice a_4 (s.bt.length + 1) c_4)).run Try.prog w_4 = .ok () (w_4.setRow g #[.string (bs l), .slice wa s.ws.length wc, .int .i64 2, .int .i64 ((i + 1 : Nat) : Int), .slice a_4 (s.bt.length + 1) c_4]) := run_store_to (cur := [.string (bs l), .slice wa s.ws.length wc, .int .i64 2, .int .i64 ((i + 1 : Nat) : Int), .slice ba s.bt.length bc]) (vs := [.slice a_4 (s.bt.length + 1) c_4]) (new := [.string (bs l), .slice wa s.ws.length wc, .int .i64 2, .int .i64 ((i + 1 : Nat) : Int), .slice a_4 (s.bt.length + 1) c_4]) HB.out (by kernel_rfl) S30 (Nat.le_of_ble_eq_true (by kernel_rfl)) (by simp [Value.oneCell', strV, u8V]) (by kernel_rfl)
  have HW : Hid (Own 9 1 (w_4.setRow g #[.string (bs l), .slice wa s.ws.length wc, .int .i64 2, .int .i64 ((i + 1 : Nat) : Int), .slice a_4 (s.bt.length + 1) c_4]) n0 wa wc s.ws.length (s.ws.map strV)) := HW.out.kept (Kept.setRow _ _ _) (HW.out.notBox HB.out (by decide))
  have HY : Hid (Own 5 1 (w_4.setRow g #[.string (bs l), .slice wa s.ws.length wc, .int .i64 2, .int .i64 ((i + 1 : Nat) : Int), .slice a_4 (s.bt.length + 1) c_4]) n0 a_4 c_4 (s.bt.length + 1) (s.bt.map u8V ++ [.int .u8 92])) := HY.out.kept (Kept.setRow _ _ _) (HY.out.notBox HB.out (by decide))
  have HK : Hid (Kept (Sg n0 g) w (w_4.setRow g #[.string (bs l), .slice wa s.ws.length wc, .int .i64 2, .int .i64 ((i + 1 : Nat) : Int), .slice a_4 (s.bt.length + 1) c_4])) := HK.out.inRow (S := Sg n0 g) (Or.inl rfl) _
  have HB : Hid (Box (w_4.setRow g #[.string (bs l), .slice wa s.ws.length wc, .int .i64 2, .int .i64 ((i + 1 : Nat) : Int), .slice a_4 (s.bt.length + 1) c_4]) g 40 #[.string (bs l), .slice wa s.ws.length wc, .int .i64 2, .int .i64 ((i + 1 : Nat) : Int), .slice a_4 (s.bt.length + 1) c_4]) := HB.out.setRow _
  refine wp_storeW 30 _ _ rfl ⟨g, 4, none⟩ (.slice a_4 (s.bt.length + 1) c_4) (by kernel_rfl) (by kernel_rfl) (w_4.setRow g #[.string (bs l), .slice wa s.ws.length wc, .int .i64 2, .int .i64 ((i + 1 : Nat) : Int), .slice a_4 (s.bt.length + 1) c_4]) hst (by kernel_rfl) ?_
  try simp only [pA, pB, p1, p2, p3]
  clear hst
  generalize w_4.setRow g #[.string (bs l), .slice wa s.ws.length wc, .int .i64 2, .int .i64 ((i + 1 : Nat) : Int), .slice a_4 (s.bt.length + 1) c_4] = wk6 at HW HY HK HB ⊢
  refine WL.nil ?_
  try simp only [pA, pB, p1, p2, p3]
  go_wp2
  go_end0
  rw [HC.out]
  exact ⟨rfl, by rw [HS.out]; exact CutA.of _ HB.out HW.out HY.out (Nat.le_trans HL.out HK.out.size) (by simp [strV, u8V]) (by simp [strV, u8V]) (by simp [strV, u8V]) (by simp [strV, u8V]) (by simp [strV, u8V]) (by simp [strV, u8V]), HK.out⟩
set_option maxRecDepth 100000 in
set_option maxHeartbeats 4000000 in
theorem ese_n (n0 g : Nat) (l : List UInt8) (s : Cs) (i : Nat) (r : Int) (w : World) (hcut : CutA n0 w g l s) (hi : i < l.length) (hl : l.length ≤ 1000000000000) (hfr : s.fr ≤ i) (hws : s.ws.length ≤ 1000000000000) (hbt : s.bt.length ≤ 1000000000000) (hr : r = 110) : Calls Try.prog 16 #[.pointer (some ⟨g, 0, none⟩), .int .i64 (i : Int), .int .i32 r] w (fun e w' => e = .returned (.tuple #[]) ∧ CutA n0 w' g l (eseS s i r) ∧ Kept (Sg n0 g) w w') := by
  obtain ⟨C, hC⟩ : ∃ C : Ending → World → Prop, C = (fun e w' => e = .returned (.tuple #[]) ∧ CutA n0 w' g l (eseS s i r) ∧ Kept (Sg n0 g) w w') := ⟨_, rfl⟩
  have HC : Hid (C = (fun e w' => e = .returned (.tuple #[]) ∧ CutA n0 w' g l (eseS s i r) ∧ Kept (Sg n0 g) w w')) := hC
  rw [← hC]
  clear hC
  subst hr
  have HS : Hid (eseS s i 110 = { s with pl := 2, fr := i + 1, bt := s.bt ++ [10] }) := rfl
  obtain ⟨wa, wc, ba, bc, hC0⟩ := hcut
  have HB : Hid (Box w g 40 #[.string (bs l), .slice wa s.ws.length wc, .int .i64 (s.pl : Int), .int .i64 (s.fr : Int), .slice ba s.bt.length bc]) := hC0.box
  have HW : Hid (Own 9 1 w n0 wa wc s.ws.length (s.ws.map strV)) := hC0.hw
  have HY : Hid (Own 5 1 w n0 ba bc s.bt.length (s.bt.map u8V)) := hC0.hb
  have HL : Hid (n0 ≤ w.heap.size) := hC0.hn
  have HK : Hid (Kept (Sg n0 g) w w) := Kept.refl _ _
  clear hC0
  have HI : Hid (i < l.length ∧ l.length ≤ 1000000000000) := ⟨hi, hl⟩
  have HFr : Hid (s.fr ≤ i) := hfr
  have HWd : Hid (s.ws.length ≤ 1000000000000) := hws
  have HBd : Hid (s.bt.length ≤ 1000000000000) := hbt
  clear hi hl hfr hws hbt
  go_enter Try.func16, Try.ntmps16
  go_upto_region 0 with fail
  refine WL.start ?_
  refine tK (.pointer (some ⟨g, 0, none⟩)) ?_
  try simp only [pA, pB, p1, p2, p3]
  refine tK (.pointer (some ⟨g, 0, none⟩)) ?_
  try simp only [pA, pB, p1, p2, p3]
  refine tK (.int .i64 (i : Int)) ?_
  try simp only [pA, pB, p1, p2, p3]
  refine tW (.int .i64 ((i + 1 : Nat) : Int)) (exec_bin .add 3 _ _ _ rfl (.int .i64 (i : Int)) (.int .i64 1) (.int .i64 ((i + 1 : Nat) : Int)) (by kernel_rfl) (by kernel_rfl) (by kernel_rfl) (b_add1 i (by have := HI.out; omega) _)) ?_
  try simp only [pA, pB, p1, p2, p3]
  refine tK (.pointer (some ⟨g, 0, none⟩)) ?_
  try simp only [pA, pB, p1, p2, p3]
  refine tK (.pointer (some ⟨g, 2, none⟩)) ?_
  try simp only [pA, pB, p1, p2, p3]
  have hst : (storeVar 38 ⟨g, 2, none⟩ (.int .i64 2)).run Try.prog w = .ok () (w.setRow g #[.string (bs l), .slice wa s.ws.length wc, .int .i64 2, .int .i64 (s.fr : Int), .slice ba s.bt.length bc]) := run_store_to (cur := [.string (bs l), .slice wa s.ws.length wc, .int .i64 (s.pl : Int), .int .i64 (s.fr : Int), .slice ba s.bt.length bc]) (vs := [.int .i64 2]) (new := [.string (bs l), .slice wa s.ws.length wc, .int .i64 2, .int .i64 (s.fr : Int), .slice ba s.bt.length bc]) HB.out (by kernel_rfl) S38 (Nat.le_of_ble_eq_true (by kernel_rfl)) (by simp [Value.oneCell', strV, u8V]) (by kernel_rfl)
  have HW : Hid (Own 9 1 (w.setRow g #[.string (bs l), .slice wa s.ws.length wc, .int .i64 2, .int .i64 (s.fr : Int), .slice ba s.bt.length bc]) n0 wa wc s.ws.length (s.ws.map strV)) := HW.out.kept (Kept.setRow _ _ _) (HW.out.notBox HB.out (by decide))
  have HY : Hid (Own 5 1 (w.setRow g #[.string (bs l), .slice wa s.ws.length wc, .int .i64 2, .int .i64 (s.fr : Int), .slice ba s.bt.length bc]) n0 ba bc s.bt.length (s.bt.map u8V)) := HY.out.kept (Kept.setRow _ _ _) (HY.out.notBox HB.out (by decide))
  have HK : Hid (Kept (Sg n0 g) w (w.setRow g #[.string (bs l), .slice wa s.ws.length wc, .int .i64 2, .int .i64 (s.fr : Int), .slice ba s.bt.length bc])) := HK.out.inRow (S := Sg n0 g) (Or.inl rfl) _
  have HB : Hid (Box (w.setRow g #[.string (bs l), .slice wa s.ws.length wc, .int .i64 2, .int .i64 (s.fr : Int), .slice ba s.bt.length bc]) g 40 #[.string (bs l), .slice wa s.ws.length wc, .int .i64 2, .int .i64 (s.fr : Int), .slice ba s.bt.length bc]) := HB.out.setRow _
  refine wp_storeW 38 _ _ rfl ⟨g, 2, none⟩ (.int .i64 2) (by kernel_rfl) (by kernel_rfl) (w.setRow g #[.string (bs l), .slice wa s.ws.length wc, .int .i64 2, .int .i64 (s.fr : Int), .slice ba s.bt.length bc]) hst (by kernel_rfl) ?_
  try simp only [pA, pB, p1, p2, p3]
  clear hst
  generalize w.setRow g #[.string (bs l), .slice wa s.ws.length wc, .int .i64 2, .int .i64 (s.fr : Int), .slice ba s.bt.length bc] = wk1 at HW HY HK HB ⊢
  refine tK (.pointer (some ⟨g, 0, none⟩)) ?_
  try simp only [pA, pB, p1, p2, p3]
  refine tK (.pointer (some ⟨g, 3, none⟩)) ?_
  try simp only [pA, pB, p1, p2, p3]
  have hst : (storeVar 3 ⟨g, 3, none⟩ (.int .i64 ((i + 1 : Nat) : Int))).run Try.prog wk1 = .ok () (wk1.setRow g #[.string (bs l), .slice wa s.ws.length wc, .int .i64 2, .int .i64 ((i + 1 : Nat) : Int), .slice ba s.bt.length bc]) := run_store_to (cur := [.string (bs l), .slice wa s.ws.length wc, .int .i64 2, .int .i64 (s.fr : Int), .slice ba s.bt.length bc]) (vs := [.int .i64 ((i + 1 : Nat) : Int)]) (new := [.string (bs l), .slice wa s.ws.length wc, .int .i64 2, .int .i64 ((i + 1 : Nat) : Int), .slice ba s.bt.length bc]) HB.out (by kernel_rfl) S3 (Nat.le_of_ble_eq_true (by kernel_rfl)) (by simp [Value.oneCell', strV, u8V]) (by kernel_rfl)
  have HW : Hid (Own 9 1 (wk1.setRow g #[.string (bs l), .slice wa s.ws.length wc, .int .i64 2, .int .i64 ((i + 1 : Nat) : Int), .slice ba s.bt.length bc]) n0 wa wc s.ws.length (s.ws.map strV)) := HW.out.kept (Kept.setRow _ _ _) (HW.out.notBox HB.out (by decide))
  have HY : Hid (Own 5 1 (wk1.setRow g #[.string (bs l), .slice wa s.ws.length wc, .int .i64 2, .int .i64 ((i + 1 : Nat) : Int), .slice ba s.bt.length bc]) n0 ba bc s.bt.length (s.bt.map u8V)) := HY.out.kept (Kept.setRow _ _ _) (HY.out.notBox HB.out (by decide))
  have HK : Hid (Kept (Sg n0 g) w (wk1.setRow g #[.string (bs l), .slice wa s.ws.length wc, .int .i64 2, .int .i64 ((i + 1 : Nat) : Int), .slice ba s.bt.length bc])) := HK.out.inRow (S := Sg n0 g) (Or.inl rfl) _
  have HB : Hid (Box (wk1.setRow g #[.string (bs l), .slice wa s.ws.length wc, .int .i64 2, .int .i64 ((i + 1 : Nat) : Int), .slice ba s.bt.length bc]) g 40 #[.string (bs l), .slice wa s.ws.length wc, .int .i64 2, .int .i64 ((i + 1 : Nat) : Int), .slice ba s.bt.length bc]) := HB.out.setRow _
  refine wp_storeW 3 _ _ rfl ⟨g, 3, none⟩ (.int .i64 ((i + 1 : Nat) : Int)) (by kernel_rfl) (by kernel_rfl) (wk1.setRow g #[.string (bs l), .slice wa s.ws.length wc, .int .i64 2, .int .i64 ((i + 1 : Nat) : Int), .slice ba s.bt.length bc]) hst (by kernel_rfl) ?_
  try simp only [pA, pB, p1, p2, p3]
  clear hst
  generalize wk1.setRow g #[.string (bs l), .slice wa s.ws.length wc, .int .i64 2, .int .i64 ((i + 1 : Nat) : Int), .slice ba s.bt.length bc] = wk2 at HW HY HK HB ⊢
  refine WL.nil ?_
  try simp only [pA, pB, p1, p2, p3]
  go_upto_region 1 with fail
  refine WL.start ?_
  refine tK (.int .i32 110) ?_
  try simp only [pA, pB, p1, p2, p3]
  refine WL.nil ?_
  try simp only [pA, pB, p1, p2, p3]
  go_upto_region 3 with fail
  refine WL.start ?_
  refine tK (.bool false) ?_
  try simp only [pA, pB, p1, p2, p3]
  refine tK (.bool false) ?_
  try simp only [pA, pB, p1, p2, p3]
  refine WL.nil ?_
  try simp only [pA, pB, p1, p2, p3]
  go_upto_region 4 with fail
  refine WL.start ?_
  refine tK (.bool false) ?_
  try simp only [pA, pB, p1, p2, p3]
  refine tK (.bool false) ?_
  try simp only [pA, pB, p1, p2, p3]
  refine WL.nil ?_
  try simp only [pA, pB, p1, p2, p3]
  go_upto_region 6 with fail
  refine WL.start ?_
  refine tK (.bool true) ?_
  try simp only [pA, pB, p1, p2, p3]
  refine tK (.bool true) ?_
  try simp only [pA, pB, p1, p2, p3]
  refine WL.nil ?_
  try simp only [pA, pB, p1, p2, p3]
  go_upto_region 7 with fail
  refine WL.start ?_
  refine tK (.pointer (some ⟨g, 0, none⟩)) ?_
  try simp only [pA, pB, p1, p2, p3]
  refine tK (.pointer (some ⟨g, 0, none⟩)) ?_
  try simp only [pA, pB, p1, p2, p3]
  refine tK (.pointer (some ⟨g, 0, none⟩)) ?_
  try simp only [pA, pB, p1, p2, p3]
  refine tK (.pointer (some ⟨g, 4, none⟩)) ?_
  try simp only [pA, pB, p1, p2, p3]
  refine tW (.slice ba s.bt.length bc) (exec_load 30 _ rfl ⟨g, 4, none⟩ (by kernel_rfl) (.slice ba s.bt.length bc) (load_one (HB.out.cell 4) U30 rfl)) ?_
  try simp only [pA, pB, p1, p2, p3]
  have HW : Hid (Own 9 1 (wk2.alloc (.cells [.int .u8 10].toArray 5)) n0 wa wc s.ws.length (s.ws.map strV)) := HW.out.no ((Kept.refl No _).alloc _)
  have HY : Hid (Own 5 1 (wk2.alloc (.cells [.int .u8 10].toArray 5)) n0 ba bc s.bt.length (s.bt.map u8V)) := HY.out.no ((Kept.refl No _).alloc _)
  have HK : Hid (Kept (Sg n0 g) w (wk2.alloc (.cells [.int .u8 10].toArray 5))) := HK.out.alloc _
  have HB : Hid (Box (wk2.alloc (.cells [.int .u8 10].toArray 5)) g 40 #[.string (bs l), .slice wa s.ws.length wc, .int .i64 2, .int .i64 ((i + 1 : Nat) : Int), .slice ba s.bt.length bc]) := HB.out.alloc _
  have HX : Hid (Box (wk2.alloc (.cells [.int .u8 10].toArray 5)) wk2.heap.size 5 [.int .u8 10].toArray) := Box.new _ _ _
  refine wp_runW (.slice (some ⟨wk2.heap.size, 0, none⟩) 1 1) (wk2.alloc (.cells [.int .u8 10].toArray 5)) (exec_built (by kernel_rfl)) (by kernel_rfl) ?_
  try simp only [pA, pB, p1, p2, p3]
  generalize wk2.alloc (.cells [.int .u8 10].toArray 5) = wk3 at HW HY HK HX HB ⊢
  generalize wk2.heap.size = gk4 at HX ⊢
  obtain ⟨a_4, c_4, w_4, hrun, ho, hc⟩ := run_app 30 5 1 _ U30 I5 rfl HY.out 30 ⟨gk4, 0, none⟩ 1 1 [.int .u8 10] rfl (box_news HX.out) (by simp [Value.oneCell', strV, u8V]) (by have h1 := HI.out; have h2 := HBd.out; have h3 := HWd.out; have h4 := cutL_len l s.fr i; omega) (by have h1 := HI.out; have h2 := HBd.out; have h3 := HWd.out; have h4 := cutL_len l s.fr i; omega) (Nat.le_trans HL.out HK.out.size)
  clear HX
  have HW : Hid (Own 9 1 w_4 n0 wa wc s.ws.length (s.ws.map strV)) := HW.out.kept hc (own_apart HW.out HY.out (by decide))
  have HK : Hid (Kept (Sg n0 g) w w_4) := HK.out.trans hc (fun _ e => e) (fun _ _ e => Or.inr (HY.out.base e))
  have HB : Hid (Box w_4 g 40 #[.string (bs l), .slice wa s.ws.length wc, .int .i64 2, .int .i64 ((i + 1 : Nat) : Int), .slice ba s.bt.length bc]) := HB.out.kept hc (HY.out.offBox HB.out (by decide))
  have HY : Hid (Own 5 1 w_4 n0 a_4 c_4 (s.bt.length + 1) (s.bt.map u8V ++ [.int .u8 10])) := ho
  refine wp_runW (.slice a_4 (s.bt.length + 1) c_4) (w_4) (exec_app _ _ 30 30 rfl _ _ _ (by kernel_rfl) (by kernel_rfl) hrun) (by kernel_rfl) ?_
  try simp only [pA, pB, p1, p2, p3]
  clear hrun ho hc
  refine tK (.pointer (some ⟨g, 0, none⟩)) ?_
  try simp only [pA, pB, p1, p2, p3]
  refine tK (.pointer (some ⟨g, 4, none⟩)) ?_
  try simp only [pA, pB, p1, p2, p3]
  have hst : (storeVar 30 ⟨g, 4, none⟩ (.slice a_4 (s.bt.length + 1) c_4)).run Try.prog w_4 = .ok () (w_4.setRow g #[.string (bs l), .slice wa s.ws.length wc, .int .i64 2, .int .i64 ((i + 1 : Nat) : Int), .slice a_4 (s.bt.length + 1) c_4]) := run_store_to (cur := [.string (bs l), .slice wa s.ws.length wc, .int .i64 2, .int .i64 ((i + 1 : Nat) : Int), .slice ba s.bt.length bc]) (vs := [.slice a_4 (s.bt.length + 1) c_4]) (new := [.string (bs l), .slice wa s.ws.length wc, .int .i64 2, .int .i64 ((i + 1 : Nat) : Int), .slice a_4 (s.bt.length + 1) c_4]) HB.out (by kernel_rfl) S30 (Nat.le_of_ble_eq_true (by kernel_rfl)) (by simp [Value.oneCell', strV, u8V]) (by kernel_rfl)
  have HW : Hid (Own 9 1 (w_4.setRow g #[.string (bs l), .slice wa s.ws.length wc, .int .i64 2, .int .i64 ((i + 1 : Nat) : Int), .slice a_4 (s.bt.length + 1) c_4]) n0 wa wc s.ws.length (s.ws.map strV)) := HW.out.kept (Kept.setRow _ _ _) (HW.out.notBox HB.out (by decide))
  have HY : Hid (Own 5 1 (w_4.setRow g #[.string (bs l), .slice wa s.ws.length wc, .int .i64 2, .int .i64 ((i + 1 : Nat) : Int), .slice a_4 (s.bt.length + 1) c_4]) n0 a_4 c_4 (s.bt.length + 1) (s.bt.map u8V ++ [.int .u8 10])) := HY.out.kept (Kept.setRow _ _ _) (HY.out.notBox HB.out (by decide))
  have HK : Hid (Kept (Sg n0 g) w (w_4.setRow g #[.string (bs l), .slice wa s.ws.length wc, .int .i64 2, .int .i64 ((i + 1 : Nat) : Int), .slice a_4 (s.bt.length + 1) c_4])) := HK.out.inRow (S := Sg n0 g) (Or.inl rfl) _
  have HB : Hid (Box (w_4.setRow g #[.string (bs l), .slice wa s.ws.length wc, .int .i64 2, .int .i64 ((i + 1 : Nat) : Int), .slice a_4 (s.bt.length + 1) c_4]) g 40 #[.string (bs l), .slice wa s.ws.length wc, .int .i64 2, .int .i64 ((i + 1 : Nat) : Int), .slice a_4 (s.bt.length + 1) c_4]) := HB.out.setRow _
  refine wp_storeW 30 _ _ rfl ⟨g, 4, none⟩ (.slice a_4 (s.bt.length + 1) c_4) (by kernel_rfl) (by kernel_rfl) (w_4.setRow g #[.string (bs l), .slice wa s.ws.length wc, .int .i64 2, .int .i64 ((i + 1 : Nat) : Int), .slice a_4 (s.bt.length + 1) c_4]) hst (by kernel_rfl) ?_
  try simp only [pA, pB, p1, p2, p3]
  clear hst
  generalize w_4.setRow g #[.string (bs l), .slice wa s.ws.length wc, .int .i64 2, .int .i64 ((i + 1 : Nat) : Int), .slice a_4 (s.bt.length + 1) c_4] = wk6 at HW HY HK HB ⊢
  refine WL.nil ?_
  try simp only [pA, pB, p1, p2, p3]
  go_wp2
  go_end0
  rw [HC.out]
  exact ⟨rfl, by rw [HS.out]; exact CutA.of _ HB.out HW.out HY.out (Nat.le_trans HL.out HK.out.size) (by simp [strV, u8V]) (by simp [strV, u8V]) (by simp [strV, u8V]) (by simp [strV, u8V]) (by simp [strV, u8V]) (by simp [strV, u8V]), HK.out⟩
set_option maxRecDepth 100000 in
set_option maxHeartbeats 4000000 in
theorem ese_t (n0 g : Nat) (l : List UInt8) (s : Cs) (i : Nat) (r : Int) (w : World) (hcut : CutA n0 w g l s) (hi : i < l.length) (hl : l.length ≤ 1000000000000) (hfr : s.fr ≤ i) (hws : s.ws.length ≤ 1000000000000) (hbt : s.bt.length ≤ 1000000000000) (hr : r = 116) : Calls Try.prog 16 #[.pointer (some ⟨g, 0, none⟩), .int .i64 (i : Int), .int .i32 r] w (fun e w' => e = .returned (.tuple #[]) ∧ CutA n0 w' g l (eseS s i r) ∧ Kept (Sg n0 g) w w') := by
  obtain ⟨C, hC⟩ : ∃ C : Ending → World → Prop, C = (fun e w' => e = .returned (.tuple #[]) ∧ CutA n0 w' g l (eseS s i r) ∧ Kept (Sg n0 g) w w') := ⟨_, rfl⟩
  have HC : Hid (C = (fun e w' => e = .returned (.tuple #[]) ∧ CutA n0 w' g l (eseS s i r) ∧ Kept (Sg n0 g) w w')) := hC
  rw [← hC]
  clear hC
  subst hr
  have HS : Hid (eseS s i 116 = { s with pl := 2, fr := i + 1, bt := s.bt ++ [9] }) := rfl
  obtain ⟨wa, wc, ba, bc, hC0⟩ := hcut
  have HB : Hid (Box w g 40 #[.string (bs l), .slice wa s.ws.length wc, .int .i64 (s.pl : Int), .int .i64 (s.fr : Int), .slice ba s.bt.length bc]) := hC0.box
  have HW : Hid (Own 9 1 w n0 wa wc s.ws.length (s.ws.map strV)) := hC0.hw
  have HY : Hid (Own 5 1 w n0 ba bc s.bt.length (s.bt.map u8V)) := hC0.hb
  have HL : Hid (n0 ≤ w.heap.size) := hC0.hn
  have HK : Hid (Kept (Sg n0 g) w w) := Kept.refl _ _
  clear hC0
  have HI : Hid (i < l.length ∧ l.length ≤ 1000000000000) := ⟨hi, hl⟩
  have HFr : Hid (s.fr ≤ i) := hfr
  have HWd : Hid (s.ws.length ≤ 1000000000000) := hws
  have HBd : Hid (s.bt.length ≤ 1000000000000) := hbt
  clear hi hl hfr hws hbt
  go_enter Try.func16, Try.ntmps16
  go_upto_region 0 with fail
  refine WL.start ?_
  refine tK (.pointer (some ⟨g, 0, none⟩)) ?_
  try simp only [pA, pB, p1, p2, p3]
  refine tK (.pointer (some ⟨g, 0, none⟩)) ?_
  try simp only [pA, pB, p1, p2, p3]
  refine tK (.int .i64 (i : Int)) ?_
  try simp only [pA, pB, p1, p2, p3]
  refine tW (.int .i64 ((i + 1 : Nat) : Int)) (exec_bin .add 3 _ _ _ rfl (.int .i64 (i : Int)) (.int .i64 1) (.int .i64 ((i + 1 : Nat) : Int)) (by kernel_rfl) (by kernel_rfl) (by kernel_rfl) (b_add1 i (by have := HI.out; omega) _)) ?_
  try simp only [pA, pB, p1, p2, p3]
  refine tK (.pointer (some ⟨g, 0, none⟩)) ?_
  try simp only [pA, pB, p1, p2, p3]
  refine tK (.pointer (some ⟨g, 2, none⟩)) ?_
  try simp only [pA, pB, p1, p2, p3]
  have hst : (storeVar 38 ⟨g, 2, none⟩ (.int .i64 2)).run Try.prog w = .ok () (w.setRow g #[.string (bs l), .slice wa s.ws.length wc, .int .i64 2, .int .i64 (s.fr : Int), .slice ba s.bt.length bc]) := run_store_to (cur := [.string (bs l), .slice wa s.ws.length wc, .int .i64 (s.pl : Int), .int .i64 (s.fr : Int), .slice ba s.bt.length bc]) (vs := [.int .i64 2]) (new := [.string (bs l), .slice wa s.ws.length wc, .int .i64 2, .int .i64 (s.fr : Int), .slice ba s.bt.length bc]) HB.out (by kernel_rfl) S38 (Nat.le_of_ble_eq_true (by kernel_rfl)) (by simp [Value.oneCell', strV, u8V]) (by kernel_rfl)
  have HW : Hid (Own 9 1 (w.setRow g #[.string (bs l), .slice wa s.ws.length wc, .int .i64 2, .int .i64 (s.fr : Int), .slice ba s.bt.length bc]) n0 wa wc s.ws.length (s.ws.map strV)) := HW.out.kept (Kept.setRow _ _ _) (HW.out.notBox HB.out (by decide))
  have HY : Hid (Own 5 1 (w.setRow g #[.string (bs l), .slice wa s.ws.length wc, .int .i64 2, .int .i64 (s.fr : Int), .slice ba s.bt.length bc]) n0 ba bc s.bt.length (s.bt.map u8V)) := HY.out.kept (Kept.setRow _ _ _) (HY.out.notBox HB.out (by decide))
  have HK : Hid (Kept (Sg n0 g) w (w.setRow g #[.string (bs l), .slice wa s.ws.length wc, .int .i64 2, .int .i64 (s.fr : Int), .slice ba s.bt.length bc])) := HK.out.inRow (S := Sg n0 g) (Or.inl rfl) _
  have HB : Hid (Box (w.setRow g #[.string (bs l), .slice wa s.ws.length wc, .int .i64 2, .int .i64 (s.fr : Int), .slice ba s.bt.length bc]) g 40 #[.string (bs l), .slice wa s.ws.length wc, .int .i64 2, .int .i64 (s.fr : Int), .slice ba s.bt.length bc]) := HB.out.setRow _
  refine wp_storeW 38 _ _ rfl ⟨g, 2, none⟩ (.int .i64 2) (by kernel_rfl) (by kernel_rfl) (w.setRow g #[.string (bs l), .slice wa s.ws.length wc, .int .i64 2, .int .i64 (s.fr : Int), .slice ba s.bt.length bc]) hst (by kernel_rfl) ?_
  try simp only [pA, pB, p1, p2, p3]
  clear hst
  generalize w.setRow g #[.string (bs l), .slice wa s.ws.length wc, .int .i64 2, .int .i64 (s.fr : Int), .slice ba s.bt.length bc] = wk1 at HW HY HK HB ⊢
  refine tK (.pointer (some ⟨g, 0, none⟩)) ?_
  try simp only [pA, pB, p1, p2, p3]
  refine tK (.pointer (some ⟨g, 3, none⟩)) ?_
  try simp only [pA, pB, p1, p2, p3]
  have hst : (storeVar 3 ⟨g, 3, none⟩ (.int .i64 ((i + 1 : Nat) : Int))).run Try.prog wk1 = .ok () (wk1.setRow g #[.string (bs l), .slice wa s.ws.length wc, .int .i64 2, .int .i64 ((i + 1 : Nat) : Int), .slice ba s.bt.length bc]) := run_store_to (cur := [.string (bs l), .slice wa s.ws.length wc, .int .i64 2, .int .i64 (s.fr : Int), .slice ba s.bt.length bc]) (vs := [.int .i64 ((i + 1 : Nat) : Int)]) (new := [.string (bs l), .slice wa s.ws.length wc, .int .i64 2, .int .i64 ((i + 1 : Nat) : Int), .slice ba s.bt.length bc]) HB.out (by kernel_rfl) S3 (Nat.le_of_ble_eq_true (by kernel_rfl)) (by simp [Value.oneCell', strV, u8V]) (by kernel_rfl)
  have HW : Hid (Own 9 1 (wk1.setRow g #[.string (bs l), .slice wa s.ws.length wc, .int .i64 2, .int .i64 ((i + 1 : Nat) : Int), .slice ba s.bt.length bc]) n0 wa wc s.ws.length (s.ws.map strV)) := HW.out.kept (Kept.setRow _ _ _) (HW.out.notBox HB.out (by decide))
  have HY : Hid (Own 5 1 (wk1.setRow g #[.string (bs l), .slice wa s.ws.length wc, .int .i64 2, .int .i64 ((i + 1 : Nat) : Int), .slice ba s.bt.length bc]) n0 ba bc s.bt.length (s.bt.map u8V)) := HY.out.kept (Kept.setRow _ _ _) (HY.out.notBox HB.out (by decide))
  have HK : Hid (Kept (Sg n0 g) w (wk1.setRow g #[.string (bs l), .slice wa s.ws.length wc, .int .i64 2, .int .i64 ((i + 1 : Nat) : Int), .slice ba s.bt.length bc])) := HK.out.inRow (S := Sg n0 g) (Or.inl rfl) _
  have HB : Hid (Box (wk1.setRow g #[.string (bs l), .slice wa s.ws.length wc, .int .i64 2, .int .i64 ((i + 1 : Nat) : Int), .slice ba s.bt.length bc]) g 40 #[.string (bs l), .slice wa s.ws.length wc, .int .i64 2, .int .i64 ((i + 1 : Nat) : Int), .slice ba s.bt.length bc]) := HB.out.setRow _
  refine wp_storeW 3 _ _ rfl ⟨g, 3, none⟩ (.int .i64 ((i + 1 : Nat) : Int)) (by kernel_rfl) (by kernel_rfl) (wk1.setRow g #[.string (bs l), .slice wa s.ws.length wc, .int .i64 2, .int .i64 ((i + 1 : Nat) : Int), .slice ba s.bt.length bc]) hst (by kernel_rfl) ?_
  try simp only [pA, pB, p1, p2, p3]
  clear hst
  generalize wk1.setRow g #[.string (bs l), .slice wa s.ws.length wc, .int .i64 2, .int .i64 ((i + 1 : Nat) : Int), .slice ba s.bt.length bc] = wk2 at HW HY HK HB ⊢
  refine WL.nil ?_
  try simp only [pA, pB, p1, p2, p3]
  go_upto_region 1 with fail
  refine WL.start ?_
  refine tK (.int .i32 116) ?_
  try simp only [pA, pB, p1, p2, p3]
  refine WL.nil ?_
  try simp only [pA, pB, p1, p2, p3]
  go_upto_region 3 with fail
  refine WL.start ?_
  refine tK (.bool false) ?_
  try simp only [pA, pB, p1, p2, p3]
  refine tK (.bool false) ?_
  try simp only [pA, pB, p1, p2, p3]
  refine WL.nil ?_
  try simp only [pA, pB, p1, p2, p3]
  go_upto_region 4 with fail
  refine WL.start ?_
  refine tK (.bool false) ?_
  try simp only [pA, pB, p1, p2, p3]
  refine tK (.bool false) ?_
  try simp only [pA, pB, p1, p2, p3]
  refine WL.nil ?_
  try simp only [pA, pB, p1, p2, p3]
  go_upto_region 6 with fail
  refine WL.start ?_
  refine tK (.bool false) ?_
  try simp only [pA, pB, p1, p2, p3]
  refine tK (.bool false) ?_
  try simp only [pA, pB, p1, p2, p3]
  refine WL.nil ?_
  try simp only [pA, pB, p1, p2, p3]
  go_upto_region 8 with fail
  refine WL.start ?_
  refine tK (.bool true) ?_
  try simp only [pA, pB, p1, p2, p3]
  refine tK (.bool true) ?_
  try simp only [pA, pB, p1, p2, p3]
  refine WL.nil ?_
  try simp only [pA, pB, p1, p2, p3]
  go_upto_region 9 with fail
  refine WL.start ?_
  refine tK (.pointer (some ⟨g, 0, none⟩)) ?_
  try simp only [pA, pB, p1, p2, p3]
  refine tK (.pointer (some ⟨g, 0, none⟩)) ?_
  try simp only [pA, pB, p1, p2, p3]
  refine tK (.pointer (some ⟨g, 0, none⟩)) ?_
  try simp only [pA, pB, p1, p2, p3]
  refine tK (.pointer (some ⟨g, 4, none⟩)) ?_
  try simp only [pA, pB, p1, p2, p3]
  refine tW (.slice ba s.bt.length bc) (exec_load 30 _ rfl ⟨g, 4, none⟩ (by kernel_rfl) (.slice ba s.bt.length bc) (load_one (HB.out.cell 4) U30 rfl)) ?_
  try simp only [pA, pB, p1, p2, p3]
  have HW : Hid (Own 9 1 (wk2.alloc (.cells [.int .u8 9].toArray 5)) n0 wa wc s.ws.length (s.ws.map strV)) := HW.out.no ((Kept.refl No _).alloc _)
  have HY : Hid (Own 5 1 (wk2.alloc (.cells [.int .u8 9].toArray 5)) n0 ba bc s.bt.length (s.bt.map u8V)) := HY.out.no ((Kept.refl No _).alloc _)
  have HK : Hid (Kept (Sg n0 g) w (wk2.alloc (.cells [.int .u8 9].toArray 5))) := HK.out.alloc _
  have HB : Hid (Box (wk2.alloc (.cells [.int .u8 9].toArray 5)) g 40 #[.string (bs l), .slice wa s.ws.length wc, .int .i64 2, .int .i64 ((i + 1 : Nat) : Int), .slice ba s.bt.length bc]) := HB.out.alloc _
  have HX : Hid (Box (wk2.alloc (.cells [.int .u8 9].toArray 5)) wk2.heap.size 5 [.int .u8 9].toArray) := Box.new _ _ _
  refine wp_runW (.slice (some ⟨wk2.heap.size, 0, none⟩) 1 1) (wk2.alloc (.cells [.int .u8 9].toArray 5)) (exec_built (by kernel_rfl)) (by kernel_rfl) ?_
  try simp only [pA, pB, p1, p2, p3]
  generalize wk2.alloc (.cells [.int .u8 9].toArray 5) = wk3 at HW HY HK HX HB ⊢
  generalize wk2.heap.size = gk4 at HX ⊢
  obtain ⟨a_4, c_4, w_4, hrun, ho, hc⟩ := run_app 30 5 1 _ U30 I5 rfl HY.out 30 ⟨gk4, 0, none⟩ 1 1 [.int .u8 9] rfl (box_news HX.out) (by simp [Value.oneCell', strV, u8V]) (by have h1 := HI.out; have h2 := HBd.out; have h3 := HWd.out; have h4 := cutL_len l s.fr i; omega) (by have h1 := HI.out; have h2 := HBd.out; have h3 := HWd.out; have h4 := cutL_len l s.fr i; omega) (Nat.le_trans HL.out HK.out.size)
  clear HX
  have HW : Hid (Own 9 1 w_4 n0 wa wc s.ws.length (s.ws.map strV)) := HW.out.kept hc (own_apart HW.out HY.out (by decide))
  have HK : Hid (Kept (Sg n0 g) w w_4) := HK.out.trans hc (fun _ e => e) (fun _ _ e => Or.inr (HY.out.base e))
  have HB : Hid (Box w_4 g 40 #[.string (bs l), .slice wa s.ws.length wc, .int .i64 2, .int .i64 ((i + 1 : Nat) : Int), .slice ba s.bt.length bc]) := HB.out.kept hc (HY.out.offBox HB.out (by decide))
  have HY : Hid (Own 5 1 w_4 n0 a_4 c_4 (s.bt.length + 1) (s.bt.map u8V ++ [.int .u8 9])) := ho
  refine wp_runW (.slice a_4 (s.bt.length + 1) c_4) (w_4) (exec_app _ _ 30 30 rfl _ _ _ (by kernel_rfl) (by kernel_rfl) hrun) (by kernel_rfl) ?_
  try simp only [pA, pB, p1, p2, p3]
  clear hrun ho hc
  refine tK (.pointer (some ⟨g, 0, none⟩)) ?_
  try simp only [pA, pB, p1, p2, p3]
  refine tK (.pointer (some ⟨g, 4, none⟩)) ?_
  try simp only [pA, pB, p1, p2, p3]
  have hst : (storeVar 30 ⟨g, 4, none⟩ (.slice a_4 (s.bt.length + 1) c_4)).run Try.prog w_4 = .ok () (w_4.setRow g #[.string (bs l), .slice wa s.ws.length wc, .int .i64 2, .int .i64 ((i + 1 : Nat) : Int), .slice a_4 (s.bt.length + 1) c_4]) := run_store_to (cur := [.string (bs l), .slice wa s.ws.length wc, .int .i64 2, .int .i64 ((i + 1 : Nat) : Int), .slice ba s.bt.length bc]) (vs := [.slice a_4 (s.bt.length + 1) c_4]) (new := [.string (bs l), .slice wa s.ws.length wc, .int .i64 2, .int .i64 ((i + 1 : Nat) : Int), .slice a_4 (s.bt.length + 1) c_4]) HB.out (by kernel_rfl) S30 (Nat.le_of_ble_eq_true (by kernel_rfl)) (by simp [Value.oneCell', strV, u8V]) (by kernel_rfl)
  have HW : Hid (Own 9 1 (w_4.setRow g #[.string (bs l), .slice wa s.ws.length wc, .int .i64 2, .int .i64 ((i + 1 : Nat) : Int), .slice a_4 (s.bt.length + 1) c_4]) n0 wa wc s.ws.length (s.ws.map strV)) := HW.out.kept (Kept.setRow _ _ _) (HW.out.notBox HB.out (by decide))
  have HY : Hid (Own 5 1 (w_4.setRow g #[.string (bs l), .slice wa s.ws.length wc, .int .i64 2, .int .i64 ((i + 1 : Nat) : Int), .slice a_4 (s.bt.length + 1) c_4]) n0 a_4 c_4 (s.bt.length + 1) (s.bt.map u8V ++ [.int .u8 9])) := HY.out.kept (Kept.setRow _ _ _) (HY.out.notBox HB.out (by decide))
  have HK : Hid (Kept (Sg n0 g) w (w_4.setRow g #[.string (bs l), .slice wa s.ws.length wc, .int .i64 2, .int .i64 ((i + 1 : Nat) : Int), .slice a_4 (s.bt.length + 1) c_4])) := HK.out.inRow (S := Sg n0 g) (Or.inl rfl) _
  have HB : Hid (Box (w_4.setRow g #[.string (bs l), .slice wa s.ws.length wc, .int .i64 2, .int .i64 ((i + 1 : Nat) : Int), .slice a_4 (s.bt.length + 1) c_4]) g 40 #[.string (bs l), .slice wa s.ws.length wc, .int .i64 2, .int .i64 ((i + 1 : Nat) : Int), .slice a_4 (s.bt.length + 1) c_4]) := HB.out.setRow _
  refine wp_storeW 30 _ _ rfl ⟨g, 4, none⟩ (.slice a_4 (s.bt.length + 1) c_4) (by kernel_rfl) (by kernel_rfl) (w_4.setRow g #[.string (bs l), .slice wa s.ws.length wc, .int .i64 2, .int .i64 ((i + 1 : Nat) : Int), .slice a_4 (s.bt.length + 1) c_4]) hst (by kernel_rfl) ?_
  try simp only [pA, pB, p1, p2, p3]
  clear hst
  generalize w_4.setRow g #[.string (bs l), .slice wa s.ws.length wc, .int .i64 2, .int .i64 ((i + 1 : Nat) : Int), .slice a_4 (s.bt.length + 1) c_4] = wk6 at HW HY HK HB ⊢
  refine WL.nil ?_
  try simp only [pA, pB, p1, p2, p3]
  go_wp2
  go_end0
  rw [HC.out]
  exact ⟨rfl, by rw [HS.out]; exact CutA.of _ HB.out HW.out HY.out (Nat.le_trans HL.out HK.out.size) (by simp [strV, u8V]) (by simp [strV, u8V]) (by simp [strV, u8V]) (by simp [strV, u8V]) (by simp [strV, u8V]) (by simp [strV, u8V]), HK.out⟩
set_option maxRecDepth 100000 in
set_option maxHeartbeats 4000000 in
theorem ese_x (n0 g : Nat) (l : List UInt8) (s : Cs) (i : Nat) (r : Int) (w : World) (hcut : CutA n0 w g l s) (hi : i < l.length) (hl : l.length ≤ 1000000000000) (hfr : s.fr ≤ i) (hws : s.ws.length ≤ 1000000000000) (hbt : s.bt.length ≤ 1000000000000) (hr : r = 120) : Calls Try.prog 16 #[.pointer (some ⟨g, 0, none⟩), .int .i64 (i : Int), .int .i32 r] w (fun e w' => e = .returned (.tuple #[]) ∧ CutA n0 w' g l (eseS s i r) ∧ Kept (Sg n0 g) w w') := by
  obtain ⟨C, hC⟩ : ∃ C : Ending → World → Prop, C = (fun e w' => e = .returned (.tuple #[]) ∧ CutA n0 w' g l (eseS s i r) ∧ Kept (Sg n0 g) w w') := ⟨_, rfl⟩
  have HC : Hid (C = (fun e w' => e = .returned (.tuple #[]) ∧ CutA n0 w' g l (eseS s i r) ∧ Kept (Sg n0 g) w w')) := hC
  rw [← hC]
  clear hC
  subst hr
  have HS : Hid (eseS s i 120 = { s with pl := 4, fr := i + 1, bt := s.bt ++ [0] }) := rfl
  obtain ⟨wa, wc, ba, bc, hC0⟩ := hcut
  have HB : Hid (Box w g 40 #[.string (bs l), .slice wa s.ws.length wc, .int .i64 (s.pl : Int), .int .i64 (s.fr : Int), .slice ba s.bt.length bc]) := hC0.box
  have HW : Hid (Own 9 1 w n0 wa wc s.ws.length (s.ws.map strV)) := hC0.hw
  have HY : Hid (Own 5 1 w n0 ba bc s.bt.length (s.bt.map u8V)) := hC0.hb
  have HL : Hid (n0 ≤ w.heap.size) := hC0.hn
  have HK : Hid (Kept (Sg n0 g) w w) := Kept.refl _ _
  clear hC0
  have HI : Hid (i < l.length ∧ l.length ≤ 1000000000000) := ⟨hi, hl⟩
  have HFr : Hid (s.fr ≤ i) := hfr
  have HWd : Hid (s.ws.length ≤ 1000000000000) := hws
  have HBd : Hid (s.bt.length ≤ 1000000000000) := hbt
  clear hi hl hfr hws hbt
  go_enter Try.func16, Try.ntmps16
  go_upto_region 0 with fail
  refine WL.start ?_
  refine tK (.pointer (some ⟨g, 0, none⟩)) ?_
  try simp only [pA, pB, p1, p2, p3]
  refine tK (.pointer (some ⟨g, 0, none⟩)) ?_
  try simp only [pA, pB, p1, p2, p3]
  refine tK (.int .i64 (i : Int)) ?_
  try simp only [pA, pB, p1, p2, p3]
  refine tW (.int .i64 ((i + 1 : Nat) : Int)) (exec_bin .add 3 _ _ _ rfl (.int .i64 (i : Int)) (.int .i64 1) (.int .i64 ((i + 1 : Nat) : Int)) (by kernel_rfl) (by kernel_rfl) (by kernel_rfl) (b_add1 i (by have := HI.out; omega) _)) ?_
  try simp only [pA, pB, p1, p2, p3]
  refine tK (.pointer (some ⟨g, 0, none⟩)) ?_
  try simp only [pA, pB, p1, p2, p3]
  refine tK (.pointer (some ⟨g, 2, none⟩)) ?_
  try simp only [pA, pB, p1, p2, p3]
  have hst : (storeVar 38 ⟨g, 2, none⟩ (.int .i64 2)).run Try.prog w = .ok () (w.setRow g #[.string (bs l), .slice wa s.ws.length wc, .int .i64 2, .int .i64 (s.fr : Int), .slice ba s.bt.length bc]) := run_store_to (cur := [.string (bs l), .slice wa s.ws.length wc, .int .i64 (s.pl : Int), .int .i64 (s.fr : Int), .slice ba s.bt.length bc]) (vs := [.int .i64 2]) (new := [.string (bs l), .slice wa s.ws.length wc, .int .i64 2, .int .i64 (s.fr : Int), .slice ba s.bt.length bc]) HB.out (by kernel_rfl) S38 (Nat.le_of_ble_eq_true (by kernel_rfl)) (by simp [Value.oneCell', strV, u8V]) (by kernel_rfl)
  have HW : Hid (Own 9 1 (w.setRow g #[.string (bs l), .slice wa s.ws.length wc, .int .i64 2, .int .i64 (s.fr : Int), .slice ba s.bt.length bc]) n0 wa wc s.ws.length (s.ws.map strV)) := HW.out.kept (Kept.setRow _ _ _) (HW.out.notBox HB.out (by decide))
  have HY : Hid (Own 5 1 (w.setRow g #[.string (bs l), .slice wa s.ws.length wc, .int .i64 2, .int .i64 (s.fr : Int), .slice ba s.bt.length bc]) n0 ba bc s.bt.length (s.bt.map u8V)) := HY.out.kept (Kept.setRow _ _ _) (HY.out.notBox HB.out (by decide))
  have HK : Hid (Kept (Sg n0 g) w (w.setRow g #[.string (bs l), .slice wa s.ws.length wc, .int .i64 2, .int .i64 (s.fr : Int), .slice ba s.bt.length bc])) := HK.out.inRow (S := Sg n0 g) (Or.inl rfl) _
  have HB : Hid (Box (w.setRow g #[.string (bs l), .slice wa s.ws.length wc, .int .i64 2, .int .i64 (s.fr : Int), .slice ba s.bt.length bc]) g 40 #[.string (bs l), .slice wa s.ws.length wc, .int .i64 2, .int .i64 (s.fr : Int), .slice ba s.bt.length bc]) := HB.out.setRow _
  refine wp_storeW 38 _ _ rfl ⟨g, 2, none⟩ (.int .i64 2) (by kernel_rfl) (by kernel_rfl) (w.setRow g #[.string (bs l), .slice wa s.ws.length wc, .int .i64 2, .int .i64 (s.fr : Int), .slice ba s.bt.length bc]) hst (by kernel_rfl) ?_
  try simp only [pA, pB, p1, p2, p3]
  clear hst
  generalize w.setRow g #[.string (bs l), .slice wa s.ws.length wc, .int .i64 2, .int .i64 (s.fr : Int), .slice ba s.bt.length bc] = wk1 at HW HY HK HB ⊢
  refine tK (.pointer (some ⟨g, 0, none⟩)) ?_
  try simp only [pA, pB, p1, p2, p3]
  refine tK (.pointer (some ⟨g, 3, none⟩)) ?_
  try simp only [pA, pB, p1, p2, p3]
  have hst : (storeVar 3 ⟨g, 3, none⟩ (.int .i64 ((i + 1 : Nat) : Int))).run Try.prog wk1 = .ok () (wk1.setRow g #[.string (bs l), .slice wa s.ws.length wc, .int .i64 2, .int .i64 ((i + 1 : Nat) : Int), .slice ba s.bt.length bc]) := run_store_to (cur := [.string (bs l), .slice wa s.ws.length wc, .int .i64 2, .int .i64 (s.fr : Int), .slice ba s.bt.length bc]) (vs := [.int .i64 ((i + 1 : Nat) : Int)]) (new := [.string (bs l), .slice wa s.ws.length wc, .int .i64 2, .int .i64 ((i + 1 : Nat) : Int), .slice ba s.bt.length bc]) HB.out (by kernel_rfl) S3 (Nat.le_of_ble_eq_true (by kernel_rfl)) (by simp [Value.oneCell', strV, u8V]) (by kernel_rfl)
  have HW : Hid (Own 9 1 (wk1.setRow g #[.string (bs l), .slice wa s.ws.length wc, .int .i64 2, .int .i64 ((i + 1 : Nat) : Int), .slice ba s.bt.length bc]) n0 wa wc s.ws.length (s.ws.map strV)) := HW.out.kept (Kept.setRow _ _ _) (HW.out.notBox HB.out (by decide))
  have HY : Hid (Own 5 1 (wk1.setRow g #[.string (bs l), .slice wa s.ws.length wc, .int .i64 2, .int .i64 ((i + 1 : Nat) : Int), .slice ba s.bt.length bc]) n0 ba bc s.bt.length (s.bt.map u8V)) := HY.out.kept (Kept.setRow _ _ _) (HY.out.notBox HB.out (by decide))
  have HK : Hid (Kept (Sg n0 g) w (wk1.setRow g #[.string (bs l), .slice wa s.ws.length wc, .int .i64 2, .int .i64 ((i + 1 : Nat) : Int), .slice ba s.bt.length bc])) := HK.out.inRow (S := Sg n0 g) (Or.inl rfl) _
  have HB : Hid (Box (wk1.setRow g #[.string (bs l), .slice wa s.ws.length wc, .int .i64 2, .int .i64 ((i + 1 : Nat) : Int), .slice ba s.bt.length bc]) g 40 #[.string (bs l), .slice wa s.ws.length wc, .int .i64 2, .int .i64 ((i + 1 : Nat) : Int), .slice ba s.bt.length bc]) := HB.out.setRow _
  refine wp_storeW 3 _ _ rfl ⟨g, 3, none⟩ (.int .i64 ((i + 1 : Nat) : Int)) (by kernel_rfl) (by kernel_rfl) (wk1.setRow g #[.string (bs l), .slice wa s.ws.length wc, .int .i64 2, .int .i64 ((i + 1 : Nat) : Int), .slice ba s.bt.length bc]) hst (by kernel_rfl) ?_
  try simp only [pA, pB, p1, p2, p3]
  clear hst
  generalize wk1.setRow g #[.string (bs l), .slice wa s.ws.length wc, .int .i64 2, .int .i64 ((i + 1 : Nat) : Int), .slice ba s.bt.length bc] = wk2 at HW HY HK HB ⊢
  refine WL.nil ?_
  try simp only [pA, pB, p1, p2, p3]
  go_upto_region 1 with fail
  refine WL.start ?_
  refine tK (.int .i32 120) ?_
  try simp only [pA, pB, p1, p2, p3]
  refine WL.nil ?_
  try simp only [pA, pB, p1, p2, p3]
  go_upto_region 3 with fail
  refine WL.start ?_
  refine tK (.bool false) ?_
  try simp only [pA, pB, p1, p2, p3]
  refine tK (.bool false) ?_
  try simp only [pA, pB, p1, p2, p3]
  refine WL.nil ?_
  try simp only [pA, pB, p1, p2, p3]
  go_upto_region 4 with fail
  refine WL.start ?_
  refine tK (.bool false) ?_
  try simp only [pA, pB, p1, p2, p3]
  refine tK (.bool false) ?_
  try simp only [pA, pB, p1, p2, p3]
  refine WL.nil ?_
  try simp only [pA, pB, p1, p2, p3]
  go_upto_region 6 with fail
  refine WL.start ?_
  refine tK (.bool false) ?_
  try simp only [pA, pB, p1, p2, p3]
  refine tK (.bool false) ?_
  try simp only [pA, pB, p1, p2, p3]
  refine WL.nil ?_
  try simp only [pA, pB, p1, p2, p3]
  go_upto_region 8 with fail
  refine WL.start ?_
  refine tK (.bool false) ?_
  try simp only [pA, pB, p1, p2, p3]
  refine tK (.bool false) ?_
  try simp only [pA, pB, p1, p2, p3]
  refine WL.nil ?_
  try simp only [pA, pB, p1, p2, p3]
  go_upto_region 10 with fail
  refine WL.start ?_
  refine tK (.bool true) ?_
  try simp only [pA, pB, p1, p2, p3]
  refine tK (.bool true) ?_
  try simp only [pA, pB, p1, p2, p3]
  refine WL.nil ?_
  try simp only [pA, pB, p1, p2, p3]
  go_upto_region 11 with fail
  refine WL.start ?_
  refine tK (.pointer (some ⟨g, 0, none⟩)) ?_
  try simp only [pA, pB, p1, p2, p3]
  refine tK (.pointer (some ⟨g, 0, none⟩)) ?_
  try simp only [pA, pB, p1, p2, p3]
  refine tK (.pointer (some ⟨g, 0, none⟩)) ?_
  try simp only [pA, pB, p1, p2, p3]
  refine tK (.pointer (some ⟨g, 0, none⟩)) ?_
  try simp only [pA, pB, p1, p2, p3]
  refine tK (.pointer (some ⟨g, 4, none⟩)) ?_
  try simp only [pA, pB, p1, p2, p3]
  refine tW (.slice ba s.bt.length bc) (exec_load 30 _ rfl ⟨g, 4, none⟩ (by kernel_rfl) (.slice ba s.bt.length bc) (load_one (HB.out.cell 4) U30 rfl)) ?_
  try simp only [pA, pB, p1, p2, p3]
  have HW : Hid (Own 9 1 (wk2.alloc (.cells [.int .u8 0].toArray 5)) n0 wa wc s.ws.length (s.ws.map strV)) := HW.out.no ((Kept.refl No _).alloc _)
  have HY : Hid (Own 5 1 (wk2.alloc (.cells [.int .u8 0].toArray 5)) n0 ba bc s.bt.length (s.bt.map u8V)) := HY.out.no ((Kept.refl No _).alloc _)
  have HK : Hid (Kept (Sg n0 g) w (wk2.alloc (.cells [.int .u8 0].toArray 5))) := HK.out.alloc _
  have HB : Hid (Box (wk2.alloc (.cells [.int .u8 0].toArray 5)) g 40 #[.string (bs l), .slice wa s.ws.length wc, .int .i64 2, .int .i64 ((i + 1 : Nat) : Int), .slice ba s.bt.length bc]) := HB.out.alloc _
  have HX : Hid (Box (wk2.alloc (.cells [.int .u8 0].toArray 5)) wk2.heap.size 5 [.int .u8 0].toArray) := Box.new _ _ _
  refine wp_runW (.slice (some ⟨wk2.heap.size, 0, none⟩) 1 1) (wk2.alloc (.cells [.int .u8 0].toArray 5)) (exec_built (by kernel_rfl)) (by kernel_rfl) ?_
  try simp only [pA, pB, p1, p2, p3]
  generalize wk2.alloc (.cells [.int .u8 0].toArray 5) = wk3 at HW HY HK HX HB ⊢
  generalize wk2.heap.size = gk4 at HX ⊢
  obtain ⟨a_4, c_4, w_4, hrun, ho, hc⟩ := run_app 30 5 1 _ U30 I5 rfl HY.out 30 ⟨gk4, 0, none⟩ 1 1 [.int .u8 0] rfl (box_news HX.out) (by simp [Value.oneCell', strV, u8V]) (by have h1 := HI.out; have h2 := HBd.out; have h3 := HWd.out; have h4 := cutL_len l s.fr i; omega) (by have h1 := HI.out; have h2 := HBd.out; have h3 := HWd.out; have h4 := cutL_len l s.fr i; omega) (Nat.le_trans HL.out HK.out.size)
  clear HX
  have HW : Hid (Own 9 1 w_4 n0 wa wc s.ws.length (s.ws.map strV)) := HW.out.kept hc (own_apart HW.out HY.out (by decide))
  have HK : Hid (Kept (Sg n0 g) w w_4) := HK.out.trans hc (fun _ e => e) (fun _ _ e => Or.inr (HY.out.base e))
  have HB : Hid (Box w_4 g 40 #[.string (bs l), .slice wa s.ws.length wc, .int .i64 2, .int .i64 ((i + 1 : Nat) : Int), .slice ba s.bt.length bc]) := HB.out.kept hc (HY.out.offBox HB.out (by decide))
  have HY : Hid (Own 5 1 w_4 n0 a_4 c_4 (s.bt.length + 1) (s.bt.map u8V ++ [.int .u8 0])) := ho
  refine wp_runW (.slice a_4 (s.bt.length + 1) c_4) (w_4) (exec_app _ _ 30 30 rfl _ _ _ (by kernel_rfl) (by kernel_rfl) hrun) (by kernel_rfl) ?_
  try simp only [pA, pB, p1, p2, p3]
  clear hrun ho hc
  refine tK (.pointer (some ⟨g, 0, none⟩)) ?_
  try simp only [pA, pB, p1, p2, p3]
  refine tK (.pointer (some ⟨g, 2, none⟩)) ?_
  try simp only [pA, pB, p1, p2, p3]
  have hst : (storeVar 38 ⟨g, 2, none⟩ (.int .i64 4)).run Try.prog w_4 = .ok () (w_4.setRow g #[.string (bs l), .slice wa s.ws.length wc, .int .i64 4, .int .i64 ((i + 1 : Nat) : Int), .slice ba s.bt.length bc]) := run_store_to (cur := [.string (bs l), .slice wa s.ws.length wc, .int .i64 2, .int .i64 ((i + 1 : Nat) : Int), .slice ba s.bt.length bc]) (vs := [.int .i64 4]) (new := [.string (bs l), .slice wa s.ws.length wc, .int .i64 4, .int .i64 ((i + 1 : Nat) : Int), .slice ba s.bt.length bc]) HB.out (by kernel_rfl) S38 (Nat.le_of_ble_eq_true (by kernel_rfl)) (by simp [Value.oneCell', strV, u8V]) (by kernel_rfl)
  have HW : Hid (Own 9 1 (w_4.setRow g #[.string (bs l), .slice wa s.ws.length wc, .int .i64 4, .int .i64 ((i + 1 : Nat) : Int), .slice ba s.bt.length bc]) n0 wa wc s.ws.length (s.ws.map strV)) := HW.out.kept (Kept.setRow _ _ _) (HW.out.notBox HB.out (by decide))
  have HY : Hid (Own 5 1 (w_4.setRow g #[.string (bs l), .slice wa s.ws.length wc, .int .i64 4, .int .i64 ((i + 1 : Nat) : Int), .slice ba s.bt.length bc]) n0 a_4 c_4 (s.bt.length + 1) (s.bt.map u8V ++ [.int .u8 0])) := HY.out.kept (Kept.setRow _ _ _) (HY.out.notBox HB.out (by decide))
  have HK : Hid (Kept (Sg n0 g) w (w_4.setRow g #[.string (bs l), .slice wa s.ws.length wc, .int .i64 4, .int .i64 ((i + 1 : Nat) : Int), .slice ba s.bt.length bc])) := HK.out.inRow (S := Sg n0 g) (Or.inl rfl) _
  have HB : Hid (Box (w_4.setRow g #[.string (bs l), .slice wa s.ws.length wc, .int .i64 4, .int .i64 ((i + 1 : Nat) : Int), .slice ba s.bt.length bc]) g 40 #[.string (bs l), .slice wa s.ws.length wc, .int .i64 4, .int .i64 ((i + 1 : Nat) : Int), .slice ba s.bt.length bc]) := HB.out.setRow _
  refine wp_storeW 38 _ _ rfl ⟨g, 2, none⟩ (.int .i64 4) (by kernel_rfl) (by kernel_rfl) (w_4.setRow g #[.string (bs l), .slice wa s.ws.length wc, .int .i64 4, .int .i64 ((i + 1 : Nat) : Int), .slice ba s.bt.length bc]) hst (by kernel_rfl) ?_
  try simp only [pA, pB, p1, p2, p3]
  clear hst
  generalize w_4.setRow g #[.string (bs l), .slice wa s.ws.length wc, .int .i64 4, .int .i64 ((i + 1 : Nat) : Int), .slice ba s.bt.length bc] = wk6 at HW HY HK HB ⊢
  refine tK (.pointer (some ⟨g, 0, none⟩)) ?_
  try simp only [pA, pB, p1, p2, p3]
  refine tK (.pointer (some ⟨g, 4, none⟩)) ?_
  try simp only [pA, pB, p1, p2, p3]
  have hst : (storeVar 30 ⟨g, 4, none⟩ (.slice a_4 (s.bt.length + 1) c_4)).run Try.prog wk6 = .ok () (wk6.setRow g #[.string (bs l), .slice wa s.ws.length wc, .int .i64 4, .int .i64 ((i + 1 : Nat) : Int), .slice a_4 (s.bt.length + 1) c_4]) := run_store_to (cur := [.string (bs l), .slice wa s.ws.length wc, .int .i64 4, .int .i64 ((i + 1 : Nat) : Int), .slice ba s.bt.length bc]) (vs := [.slice a_4 (s.bt.length + 1) c_4]) (new := [.string (bs l), .slice wa s.ws.length wc, .int .i64 4, .int .i64 ((i + 1 : Nat) : Int), .slice a_4 (s.bt.length + 1) c_4]) HB.out (by kernel_rfl) S30 (Nat.le_of_ble_eq_true (by kernel_rfl)) (by simp [Value.oneCell', strV, u8V]) (by kernel_rfl)
  have HW : Hid (Own 9 1 (wk6.setRow g #[.string (bs l), .slice wa s.ws.length wc, .int .i64 4, .int .i64 ((i + 1 : Nat) : Int), .slice a_4 (s.bt.length + 1) c_4]) n0 wa wc s.ws.length (s.ws.map strV)) := HW.out.kept (Kept.setRow _ _ _) (HW.out.notBox HB.out (by decide))
  have HY : Hid (Own 5 1 (wk6.setRow g #[.string (bs l), .slice wa s.ws.length wc, .int .i64 4, .int .i64 ((i + 1 : Nat) : Int), .slice a_4 (s.bt.length + 1) c_4]) n0 a_4 c_4 (s.bt.length + 1) (s.bt.map u8V ++ [.int .u8 0])) := HY.out.kept (Kept.setRow _ _ _) (HY.out.notBox HB.out (by decide))
  have HK : Hid (Kept (Sg n0 g) w (wk6.setRow g #[.string (bs l), .slice wa s.ws.length wc, .int .i64 4, .int .i64 ((i + 1 : Nat) : Int), .slice a_4 (s.bt.length + 1) c_4])) := HK.out.inRow (S := Sg n0 g) (Or.inl rfl) _
  have HB : Hid (Box (wk6.setRow g #[.string (bs l), .slice wa s.ws.length wc, .int .i64 4, .int .i64 ((i + 1 : Nat) : Int), .slice a_4 (s.bt.length + 1) c_4]) g 40 #[.string (bs l), .slice wa s.ws.length wc, .int .i64 4, .int .i64 ((i + 1 : Nat) : Int), .slice a_4 (s.bt.length + 1) c_4]) := HB.out.setRow _
  refine wp_storeW 30 _ _ rfl ⟨g, 4, none⟩ (.slice a_4 (s.bt.length + 1) c_4) (by kernel_rfl) (by kernel_rfl) (wk6.setRow g #[.string (bs l), .slice wa s.ws.length wc, .int .i64 4, .int .i64 ((i + 1 : Nat) : Int), .slice a_4 (s.bt.length + 1) c_4]) hst (by kernel_rfl) ?_
  try simp only [pA, pB, p1, p2, p3]
  clear hst
  generalize wk6.setRow g #[.string (bs l), .slice wa s.ws.length wc, .int .i64 4, .int .i64 ((i + 1 : Nat) : Int), .slice a_4 (s.bt.length + 1) c_4] = wk7 at HW HY HK HB ⊢
  refine WL.nil ?_
  try simp only [pA, pB, p1, p2, p3]
  go_wp2
  go_end0
  rw [HC.out]
  exact ⟨rfl, by rw [HS.out]; exact CutA.of _ HB.out HW.out HY.out (Nat.le_trans HL.out HK.out.size) (by simp [strV, u8V]) (by simp [strV, u8V]) (by simp [strV, u8V]) (by simp [strV, u8V]) (by simp [strV, u8V]) (by simp [strV, u8V]), HK.out⟩
set_option maxRecDepth 100000 in
set_option maxHeartbeats 4000000 in
theorem ese_w (n0 g : Nat) (l : List UInt8) (s : Cs) (i : Nat) (r : Int) (w : World) (hcut : CutA n0 w g l s) (hi : i < l.length) (hl : l.length ≤ 1000000000000) (hfr : s.fr ≤ i) (hws : s.ws.length ≤ 1000000000000) (hbt : s.bt.length ≤ 1000000000000) (hr34 : r ≠ 34) (hr92 : r ≠ 92) (hr110 : r ≠ 110) (hr116 : r ≠ 116) (hr120 : r ≠ 120) : Calls Try.prog 16 #[.pointer (some ⟨g, 0, none⟩), .int .i64 (i : Int), .int .i32 r] w (fun e w' => e = .returned (.tuple #[]) ∧ CutA n0 w' g l (eseS s i r) ∧ Kept (Sg n0 g) w w') := by
  obtain ⟨C, hC⟩ : ∃ C : Ending → World → Prop, C = (fun e w' => e = .returned (.tuple #[]) ∧ CutA n0 w' g l (eseS s i r) ∧ Kept (Sg n0 g) w w') := ⟨_, rfl⟩
  have HC : Hid (C = (fun e w' => e = .returned (.tuple #[]) ∧ CutA n0 w' g l (eseS s i r) ∧ Kept (Sg n0 g) w w')) := hC
  rw [← hC]
  clear hC
  have hne34 : (r == 34) = false := by simpa using hr34
  have hne92 : (r == 92) = false := by simpa using hr92
  have hne110 : (r == 110) = false := by simpa using hr110
  have hne116 : (r == 116) = false := by simpa using hr116
  have hne120 : (r == 120) = false := by simpa using hr120
  have HS : Hid (eseS s i r = { s with pl := 7, fr := i + 1 }) := by show _ = _; unfold eseS; simp [hr34, hr92, hr110, hr116, hr120]
  clear hr34 hr92 hr110 hr116 hr120
  obtain ⟨wa, wc, ba, bc, hC0⟩ := hcut
  have HB : Hid (Box w g 40 #[.string (bs l), .slice wa s.ws.length wc, .int .i64 (s.pl : Int), .int .i64 (s.fr : Int), .slice ba s.bt.length bc]) := hC0.box
  have HW : Hid (Own 9 1 w n0 wa wc s.ws.length (s.ws.map strV)) := hC0.hw
  have HY : Hid (Own 5 1 w n0 ba bc s.bt.length (s.bt.map u8V)) := hC0.hb
  have HL : Hid (n0 ≤ w.heap.size) := hC0.hn
  have HK : Hid (Kept (Sg n0 g) w w) := Kept.refl _ _
  clear hC0
  have HI : Hid (i < l.length ∧ l.length ≤ 1000000000000) := ⟨hi, hl⟩
  have HFr : Hid (s.fr ≤ i) := hfr
  have HWd : Hid (s.ws.length ≤ 1000000000000) := hws
  have HBd : Hid (s.bt.length ≤ 1000000000000) := hbt
  clear hi hl hfr hws hbt
  go_enter Try.func16, Try.ntmps16
  go_upto_region 0 with fail
  refine WL.start ?_
  refine tK (.pointer (some ⟨g, 0, none⟩)) ?_
  try simp only [pA, pB, p1, p2, p3]
  refine tK (.pointer (some ⟨g, 0, none⟩)) ?_
  try simp only [pA, pB, p1, p2, p3]
  refine tK (.int .i64 (i : Int)) ?_
  try simp only [pA, pB, p1, p2, p3]
  refine tW (.int .i64 ((i + 1 : Nat) : Int)) (exec_bin .add 3 _ _ _ rfl (.int .i64 (i : Int)) (.int .i64 1) (.int .i64 ((i + 1 : Nat) : Int)) (by kernel_rfl) (by kernel_rfl) (by kernel_rfl) (b_add1 i (by have := HI.out; omega) _)) ?_
  try simp only [pA, pB, p1, p2, p3]
  refine tK (.pointer (some ⟨g, 0, none⟩)) ?_
  try simp only [pA, pB, p1, p2, p3]
  refine tK (.pointer (some ⟨g, 2, none⟩)) ?_
  try simp only [pA, pB, p1, p2, p3]
  have hst : (storeVar 38 ⟨g, 2, none⟩ (.int .i64 2)).run Try.prog w = .ok () (w.setRow g #[.string (bs l), .slice wa s.ws.length wc, .int .i64 2, .int .i64 (s.fr : Int), .slice ba s.bt.length bc]) := run_store_to (cur := [.string (bs l), .slice wa s.ws.length wc, .int .i64 (s.pl : Int), .int .i64 (s.fr : Int), .slice ba s.bt.length bc]) (vs := [.int .i64 2]) (new := [.string (bs l), .slice wa s.ws.length wc, .int .i64 2, .int .i64 (s.fr : Int), .slice ba s.bt.length bc]) HB.out (by kernel_rfl) S38 (Nat.le_of_ble_eq_true (by kernel_rfl)) (by simp [Value.oneCell', strV, u8V]) (by kernel_rfl)
  have HW : Hid (Own 9 1 (w.setRow g #[.string (bs l), .slice wa s.ws.length wc, .int .i64 2, .int .i64 (s.fr : Int), .slice ba s.bt.length bc]) n0 wa wc s.ws.length (s.ws.map strV)) := HW.out.kept (Kept.setRow _ _ _) (HW.out.notBox HB.out (by decide))
  have HY : Hid (Own 5 1 (w.setRow g #[.string (bs l), .slice wa s.ws.length wc, .int .i64 2, .int .i64 (s.fr : Int), .slice ba s.bt.length bc]) n0 ba bc s.bt.length (s.bt.map u8V)) := HY.out.kept (Kept.setRow _ _ _) (HY.out.notBox HB.out (by decide))
  have HK : Hid (Kept (Sg n0 g) w (w.setRow g #[.string (bs l), .slice wa s.ws.length wc, .int .i64 2, .int .i64 (s.fr : Int), .slice ba s.bt.length bc])) := HK.out.inRow (S := Sg n0 g) (Or.inl rfl) _
  have HB : Hid (Box (w.setRow g #[.string (bs l), .slice wa s.ws.length wc, .int .i64 2, .int .i64 (s.fr : Int), .slice ba s.bt.length bc]) g 40 #[.string (bs l), .slice wa s.ws.length wc, .int .i64 2, .int .i64 (s.fr : Int), .slice ba s.bt.length bc]) := HB.out.setRow _
  refine wp_storeW 38 _ _ rfl ⟨g, 2, none⟩ (.int .i64 2) (by kernel_rfl) (by kernel_rfl) (w.setRow g #[.string (bs l), .slice wa s.ws.length wc, .int .i64 2, .int .i64 (s.fr : Int), .slice ba s.bt.length bc]) hst (by kernel_rfl) ?_
  try simp only [pA, pB, p1, p2, p3]
  clear hst
  generalize w.setRow g #[.string (bs l), .slice wa s.ws.length wc, .int .i64 2, .int .i64 (s.fr : Int), .slice ba s.bt.length bc] = wk1 at HW HY HK HB ⊢
  refine tK (.pointer (some ⟨g, 0, none⟩)) ?_
  try simp only [pA, pB, p1, p2, p3]
  refine tK (.pointer (some ⟨g, 3, none⟩)) ?_
  try simp only [pA, pB, p1, p2, p3]
  have hst : (storeVar 3 ⟨g, 3, none⟩ (.int .i64 ((i + 1 : Nat) : Int))).run Try.prog wk1 = .ok () (wk1.setRow g #[.string (bs l), .slice wa s.ws.length wc, .int .i64 2, .int .i64 ((i + 1 : Nat) : Int), .slice ba s.bt.length bc]) := run_store_to (cur := [.string (bs l), .slice wa s.ws.length wc, .int .i64 2, .int .i64 (s.fr : Int), .slice ba s.bt.length bc]) (vs := [.int .i64 ((i + 1 : Nat) : Int)]) (new := [.string (bs l), .slice wa s.ws.length wc, .int .i64 2, .int .i64 ((i + 1 : Nat) : Int), .slice ba s.bt.length bc]) HB.out (by kernel_rfl) S3 (Nat.le_of_ble_eq_true (by kernel_rfl)) (by simp [Value.oneCell', strV, u8V]) (by kernel_rfl)
  have HW : Hid (Own 9 1 (wk1.setRow g #[.string (bs l), .slice wa s.ws.length wc, .int .i64 2, .int .i64 ((i + 1 : Nat) : Int), .slice ba s.bt.length bc]) n0 wa wc s.ws.length (s.ws.map strV)) := HW.out.kept (Kept.setRow _ _ _) (HW.out.notBox HB.out (by decide))
  have HY : Hid (Own 5 1 (wk1.setRow g #[.string (bs l), .slice wa s.ws.length wc, .int .i64 2, .int .i64 ((i + 1 : Nat) : Int), .slice ba s.bt.length bc]) n0 ba bc s.bt.length (s.bt.map u8V)) := HY.out.kept (Kept.setRow _ _ _) (HY.out.notBox HB.out (by decide))
  have HK : Hid (Kept (Sg n0 g) w (wk1.setRow g #[.string (bs l), .slice wa s.ws.length wc, .int .i64 2, .int .i64 ((i + 1 : Nat) : Int), .slice ba s.bt.length bc])) := HK.out.inRow (S := Sg n0 g) (Or.inl rfl) _
  have HB : Hid (Box (wk1.setRow g #[.string (bs l), .slice wa s.ws.length wc, .int .i64 2, .int .i64 ((i + 1 : Nat) : Int), .slice ba s.bt.length bc]) g 40 #[.string (bs l), .slice wa s.ws.length wc, .int .i64 2, .int .i64 ((i + 1 : Nat) : Int), .slice ba s.bt.length bc]) := HB.out.setRow _
  refine wp_storeW 3 _ _ rfl ⟨g, 3, none⟩ (.int .i64 ((i + 1 : Nat) : Int)) (by kernel_rfl) (by kernel_rfl) (wk1.setRow g #[.string (bs l), .slice wa s.ws.length wc, .int .i64 2, .int .i64 ((i + 1 : Nat) : Int), .slice ba s.bt.length bc]) hst (by kernel_rfl) ?_
  try simp only [pA, pB, p1, p2, p3]
  clear hst
  generalize wk1.setRow g #[.string (bs l), .slice wa s.ws.length wc, .int .i64 2, .int .i64 ((i + 1 : Nat) : Int), .slice ba s.bt.length bc] = wk2 at HW HY HK HB ⊢
  refine WL.nil ?_
  try simp only [pA, pB, p1, p2, p3]
  go_upto_region 1 with fail
  refine WL.start ?_
  refine tK (.int .i32 r) ?_
  try simp only [pA, pB, p1, p2, p3]
  refine WL.nil ?_
  try simp only [pA, pB, p1, p2, p3]
  go_upto_region 3 with fail
  refine WL.start ?_
  refine tW (.bool false) (exec_bin .eql 21 _ _ _ rfl (.int .i32 r) (.int .i32 34) (.bool false) (by kernel_rfl) (by kernel_rfl) (by kernel_rfl) (by rw [b_eq21, hne34])) ?_
  try simp only [pA, pB, p1, p2, p3]
  refine tK (.bool false) ?_
  try simp only [pA, pB, p1, p2, p3]
  refine WL.nil ?_
  try simp only [pA, pB, p1, p2, p3]
  go_upto_region 4 with fail
  refine WL.start ?_
  refine tW (.bool false) (exec_bin .eql 21 _ _ _ rfl (.int .i32 r) (.int .i32 92) (.bool false) (by kernel_rfl) (by kernel_rfl) (by kernel_rfl) (by rw [b_eq21, hne92])) ?_
  try simp only [pA, pB, p1, p2, p3]
  refine tK (.bool false) ?_
  try simp only [pA, pB, p1, p2, p3]
  refine WL.nil ?_
  try simp only [pA, pB, p1, p2, p3]
  go_upto_region 6 with fail
  refine WL.start ?_
  refine tW (.bool false) (exec_bin .eql 21 _ _ _ rfl (.int .i32 r) (.int .i32 110) (.bool false) (by kernel_rfl) (by kernel_rfl) (by kernel_rfl) (by rw [b_eq21, hne110])) ?_
  try simp only [pA, pB, p1, p2, p3]
  refine tK (.bool false) ?_
  try simp only [pA, pB, p1, p2, p3]
  refine WL.nil ?_
  try simp only [pA, pB, p1, p2, p3]
  go_upto_region 8 with fail
  refine WL.start ?_
  refine tW (.bool false) (exec_bin .eql 21 _ _ _ rfl (.int .i32 r) (.int .i32 116) (.bool false) (by kernel_rfl) (by kernel_rfl) (by kernel_rfl) (by rw [b_eq21, hne116])) ?_
  try simp only [pA, pB, p1, p2, p3]
  refine tK (.bool false) ?_
  try simp only [pA, pB, p1, p2, p3]
  refine WL.nil ?_
  try simp only [pA, pB, p1, p2, p3]
  go_upto_region 10 with fail
  refine WL.start ?_
  refine tW (.bool false) (exec_bin .eql 21 _ _ _ rfl (.int .i32 r) (.int .i32 120) (.bool false) (by kernel_rfl) (by kernel_rfl) (by kernel_rfl) (by rw [b_eq21, hne120])) ?_
  try simp only [pA, pB, p1, p2, p3]
  refine tK (.bool false) ?_
  try simp only [pA, pB, p1, p2, p3]
  refine WL.nil ?_
  try simp only [pA, pB, p1, p2, p3]
  go_upto_region 2 with fail
  refine WL.start ?_
  refine tK (.pointer (some ⟨g, 0, none⟩)) ?_
  try simp only [pA, pB, p1, p2, p3]
  refine tK (.pointer (some ⟨g, 0, none⟩)) ?_
  try simp only [pA, pB, p1, p2, p3]
  refine tK (.pointer (some ⟨g, 2, none⟩)) ?_
  try simp only [pA, pB, p1, p2, p3]
  have hst : (storeVar 38 ⟨g, 2, none⟩ (.int .i64 7)).run Try.prog wk2 = .ok () (wk2.setRow g #[.string (bs l), .slice wa s.ws.length wc, .int .i64 7, .int .i64 ((i + 1 : Nat) : Int), .slice ba s.bt.length bc]) := run_store_to (cur := [.string (bs l), .slice wa s.ws.length wc, .int .i64 2, .int .i64 ((i + 1 : Nat) : Int), .slice ba s.bt.length bc]) (vs := [.int .i64 7]) (new := [.string (bs l), .slice wa s.ws.length wc, .int .i64 7, .int .i64 ((i + 1 : Nat) : Int), .slice ba s.bt.length bc]) HB.out (by kernel_rfl) S38 (Nat.le_of_ble_eq_true (by kernel_rfl)) (by simp [Value.oneCell', strV, u8V]) (by kernel_rfl)
  have HW : Hid (Own 9 1 (wk2.setRow g #[.string (bs l), .slice wa s.ws.length wc, .int .i64 7, .int .i64 ((i + 1 : Nat) : Int), .slice ba s.bt.length bc]) n0 wa wc s.ws.length (s.ws.map strV)) := HW.out.kept (Kept.setRow _ _ _) (HW.out.notBox HB.out (by decide))
  have HY : Hid (Own 5 1 (wk2.setRow g #[.string (bs l), .slice wa s.ws.length wc, .int .i64 7, .int .i64 ((i + 1 : Nat) : Int), .slice ba s.bt.length bc]) n0 ba bc s.bt.length (s.bt.map u8V)) := HY.out.kept (Kept.setRow _ _ _) (HY.out.notBox HB.out (by decide))
  have HK : Hid (Kept (Sg n0 g) w (wk2.setRow g #[.string (bs l), .slice wa s.ws.length wc, .int .i64 7, .int .i64 ((i + 1 : Nat) : Int), .slice ba s.bt.length bc])) := HK.out.inRow (S := Sg n0 g) (Or.inl rfl) _
  have HB : Hid (Box (wk2.setRow g #[.string (bs l), .slice wa s.ws.length wc, .int .i64 7, .int .i64 ((i + 1 : Nat) : Int), .slice ba s.bt.length bc]) g 40 #[.string (bs l), .slice wa s.ws.length wc, .int .i64 7, .int .i64 ((i + 1 : Nat) : Int), .slice ba s.bt.length bc]) := HB.out.setRow _
  refine wp_storeW 38 _ _ rfl ⟨g, 2, none⟩ (.int .i64 7) (by kernel_rfl) (by kernel_rfl) (wk2.setRow g #[.string (bs l), .slice wa s.ws.length wc, .int .i64 7, .int .i64 ((i + 1 : Nat) : Int), .slice ba s.bt.length bc]) hst (by kernel_rfl) ?_
  try simp only [pA, pB, p1, p2, p3]
  clear hst
  generalize wk2.setRow g #[.string (bs l), .slice wa s.ws.length wc, .int .i64 7, .int .i64 ((i + 1 : Nat) : Int), .slice ba s.bt.length bc] = wk3 at HW HY HK HB ⊢
  refine WL.nil ?_
  try simp only [pA, pB, p1, p2, p3]
  go_wp2
  go_end0
  rw [HC.out]
  exact ⟨rfl, by rw [HS.out]; exact CutA.of _ HB.out HW.out HY.out (Nat.le_trans HL.out HK.out.size) (by simp [strV, u8V]) (by simp [strV, u8V]) (by simp [strV, u8V]) (by simp [strV, u8V]) (by simp [strV, u8V]) (by simp [strV, u8V]), HK.out⟩
set_option maxRecDepth 100000 in
set_option maxHeartbeats 4000000 in
theorem beh_b (n0 g : Nat) (l : List UInt8) (s : Cs) (r : Int) (w : World) (hcut : CutA n0 w g l s) (hb : isB r = true) : Calls Try.prog 18 #[.pointer (some ⟨g, 0, none⟩), .int .i32 r] w (fun e w' => e = .returned (.tuple #[]) ∧ CutA n0 w' g l (behS s r) ∧ Kept (Sg n0 g) w w') := by
  obtain ⟨C, hC⟩ : ∃ C : Ending → World → Prop, C = (fun e w' => e = .returned (.tuple #[]) ∧ CutA n0 w' g l (behS s r) ∧ Kept (Sg n0 g) w w') := ⟨_, rfl⟩
  have HC : Hid (C = (fun e w' => e = .returned (.tuple #[]) ∧ CutA n0 w' g l (behS s r) ∧ Kept (Sg n0 g) w w')) := hC
  rw [← hC]
  clear hC
  have HS : Hid (behS s r = { s with pl := 0 }) := by show _ = _; unfold behS; rw [hb]; rfl
  obtain ⟨wa, wc, ba, bc, hC0⟩ := hcut
  have HB : Hid (Box w g 40 #[.string (bs l), .slice wa s.ws.length wc, .int .i64 (s.pl : Int), .int .i64 (s.fr : Int), .slice ba s.bt.length bc]) := hC0.box
  have HW : Hid (Own 9 1 w n0 wa wc s.ws.length (s.ws.map strV)) := hC0.hw
  have HY : Hid (Own 5 1 w n0 ba bc s.bt.length (s.bt.map u8V)) := hC0.hb
  have HL : Hid (n0 ≤ w.heap.size) := hC0.hn
  have HK : Hid (Kept (Sg n0 g) w w) := Kept.refl _ _
  clear hC0
  go_enter Try.func18, Try.ntmps18
  go_upto_region 0 with fail
  refine WL.start ?_
  refine tK (.pointer (some ⟨g, 0, none⟩)) ?_
  try simp only [pA, pB, p1, p2, p3]
  refine tK (.pointer (some ⟨g, 0, none⟩)) ?_
  try simp only [pA, pB, p1, p2, p3]
  refine tK (.pointer (some ⟨g, 2, none⟩)) ?_
  try simp only [pA, pB, p1, p2, p3]
  have hst : (storeVar 38 ⟨g, 2, none⟩ (.int .i64 7)).run Try.prog w = .ok () (w.setRow g #[.string (bs l), .slice wa s.ws.length wc, .int .i64 7, .int .i64 (s.fr : Int), .slice ba s.bt.length bc]) := run_store_to (cur := [.string (bs l), .slice wa s.ws.length wc, .int .i64 (s.pl : Int), .int .i64 (s.fr : Int), .slice ba s.bt.length bc]) (vs := [.int .i64 7]) (new := [.string (bs l), .slice wa s.ws.length wc, .int .i64 7, .int .i64 (s.fr : Int), .slice ba s.bt.length bc]) HB.out (by kernel_rfl) S38 (Nat.le_of_ble_eq_true (by kernel_rfl)) (by simp [Value.oneCell', strV, u8V]) (by kernel_rfl)
  have HW : Hid (Own 9 1 (w.setRow g #[.string (bs l), .slice wa s.ws.length wc, .int .i64 7, .int .i64 (s.fr : Int), .slice ba s.bt.length bc]) n0 wa wc s.ws.length (s.ws.map strV)) := HW.out.kept (Kept.setRow _ _ _) (HW.out.notBox HB.out (by decide))
  have HY : Hid (Own 5 1 (w.setRow g #[.string (bs l), .slice wa s.ws.length wc, .int .i64 7, .int .i64 (s.fr : Int), .slice ba s.bt.length bc]) n0 ba bc s.bt.length (s.bt.map u8V)) := HY.out.kept (Kept.setRow _ _ _) (HY.out.notBox HB.out (by decide))
  have HK : Hid (Kept (Sg n0 g) w (w.setRow g #[.string (bs l), .slice wa s.ws.length wc, .int .i64 7, .int .i64 (s.fr : Int), .slice ba s.bt.length bc])) := HK.out.inRow (S := Sg n0 g) (Or.inl rfl) _
  have HB : Hid (Box (w.setRow g #[.string (bs l), .slice wa s.ws.length wc, .int .i64 7, .int .i64 (s.fr : Int), .slice ba s.bt.length bc]) g 40 #[.string (bs l), .slice wa s.ws.length wc, .int .i64 7, .int .i64 (s.fr : Int), .slice ba s.bt.length bc]) := HB.out.setRow _
  refine wp_storeW 38 _ _ rfl ⟨g, 2, none⟩ (.int .i64 7) (by kernel_rfl) (by kernel_rfl) (w.setRow g #[.string (bs l), .slice wa s.ws.length wc, .int .i64 7, .int .i64 (s.fr : Int), .slice ba s.bt.length bc]) hst (by kernel_rfl) ?_
  try simp only [pA, pB, p1, p2, p3]
  clear hst
  generalize w.setRow g #[.string (bs l), .slice wa s.ws.length wc, .int .i64 7, .int .i64 (s.fr : Int), .slice ba s.bt.length bc] = wk1 at HW HY HK HB ⊢
  refine WL.nil ?_
  try simp only [pA, pB, p1, p2, p3]
  go_upto_region 1 with fail
  refine WL.start ?_
  refine tK (.int .i32 r) ?_
  try simp only [pA, pB, p1, p2, p3]
  refine wp_callW 22 #[.int .i32 r] (by kernel_rfl) _ (isBlank_any _ wk1) (by kernel_rfl) ?_
  rintro e wq ⟨rfl, hwq⟩
  rw [hwq]
  clear hwq wq
  refine ⟨.bool true, by rw [hb], ?_⟩
  try simp only [pA, pB, p1, p2, p3]
  refine WL.nil ?_
  try simp only [pA, pB, p1, p2, p3]
  go_upto_region 2 with fail
  refine WL.start ?_
  refine tK (.pointer (some ⟨g, 0, none⟩)) ?_
  try simp only [pA, pB, p1, p2, p3]
  refine tK (.pointer (some ⟨g, 0, none⟩)) ?_
  try simp only [pA, pB, p1, p2, p3]
  refine tK (.pointer (some ⟨g, 2, none⟩)) ?_
  try simp only [pA, pB, p1, p2, p3]
  have hst : (storeVar 38 ⟨g, 2, none⟩ (.int .i64 0)).run Try.prog wk1 = .ok () (wk1.setRow g #[.string (bs l), .slice wa s.ws.length wc, .int .i64 0, .int .i64 (s.fr : Int), .slice ba s.bt.length bc]) := run_store_to (cur := [.string (bs l), .slice wa s.ws.length wc, .int .i64 7, .int .i64 (s.fr : Int), .slice ba s.bt.length bc]) (vs := [.int .i64 0]) (new := [.string (bs l), .slice wa s.ws.length wc, .int .i64 0, .int .i64 (s.fr : Int), .slice ba s.bt.length bc]) HB.out (by kernel_rfl) S38 (Nat.le_of_ble_eq_true (by kernel_rfl)) (by simp [Value.oneCell', strV, u8V]) (by kernel_rfl)
  have HW : Hid (Own 9 1 (wk1.setRow g #[.string (bs l), .slice wa s.ws.length wc, .int .i64 0, .int .i64 (s.fr : Int), .slice ba s.bt.length bc]) n0 wa wc s.ws.length (s.ws.map strV)) := HW.out.kept (Kept.setRow _ _ _) (HW.out.notBox HB.out (by decide))
  have HY : Hid (Own 5 1 (wk1.setRow g #[.string (bs l), .slice wa s.ws.length wc, .int .i64 0, .int .i64 (s.fr : Int), .slice ba s.bt.length bc]) n0 ba bc s.bt.length (s.bt.map u8V)) := HY.out.kept (Kept.setRow _ _ _) (HY.out.notBox HB.out (by decide))
  have HK : Hid (Kept (Sg n0 g) w (wk1.setRow g #[.string (bs l), .slice wa s.ws.length wc, .int .i64 0, .int .i64 (s.fr : Int), .slice ba s.bt.length bc])) := HK.out.inRow (S := Sg n0 g) (Or.inl rfl) _
  have HB : Hid (Box (wk1.setRow g #[.string (bs l), .slice wa s.ws.length wc, .int .i64 0, .int .i64 (s.fr : Int), .slice ba s.bt.length bc]) g 40 #[.string (bs l), .slice wa s.ws.length wc, .int .i64 0, .int .i64 (s.fr : Int), .slice ba s.bt.length bc]) := HB.out.setRow _
  refine wp_storeW 38 _ _ rfl ⟨g, 2, none⟩ (.int .i64 0) (by kernel_rfl) (by kernel_rfl) (wk1.setRow g #[.string (bs l), .slice wa s.ws.length wc, .int .i64 0, .int .i64 (s.fr : Int), .slice ba s.bt.length bc]) hst (by kernel_rfl) ?_
  try simp only [pA, pB, p1, p2, p3]
  clear hst
  generalize wk1.setRow g #[.string (bs l), .slice wa s.ws.length wc, .int .i64 0, .int .i64 (s.fr : Int), .slice ba s.bt.length bc] = wk2 at HW HY HK HB ⊢
  refine WL.nil ?_
  try simp only [pA, pB, p1, p2, p3]
  go_wp2
  go_end0
  rw [HC.out]
  exact ⟨rfl, by rw [HS.out]; exact CutA.of _ HB.out HW.out HY.out (Nat.le_trans HL.out HK.out.size) (by simp [strV, u8V]) (by simp [strV, u8V]) (by simp [strV, u8V]) (by simp [strV, u8V]) (by simp [strV, u8V]) (by simp [strV, u8V]), HK.out⟩
set_option maxRecDepth 100000 in
set_option maxHeartbeats 4000000 in
theorem beh_n (n0 g : Nat) (l : List UInt8) (s : Cs) (r : Int) (w : World) (hcut : CutA n0 w g l s) (hb : isB r = false) : Calls Try.prog 18 #[.pointer (some ⟨g, 0, none⟩), .int .i32 r] w (fun e w' => e = .returned (.tuple #[]) ∧ CutA n0 w' g l (behS s r) ∧ Kept (Sg n0 g) w w') := by
  obtain ⟨C, hC⟩ : ∃ C : Ending → World → Prop, C = (fun e w' => e = .returned (.tuple #[]) ∧ CutA n0 w' g l (behS s r) ∧ Kept (Sg n0 g) w w') := ⟨_, rfl⟩
  have HC : Hid (C = (fun e w' => e = .returned (.tuple #[]) ∧ CutA n0 w' g l (behS s r) ∧ Kept (Sg n0 g) w w')) := hC
  rw [← hC]
  clear hC
  have HS : Hid (behS s r = { s with pl := 7 }) := by show _ = _; unfold behS; rw [hb]; rfl
  obtain ⟨wa, wc, ba, bc, hC0⟩ := hcut
  have HB : Hid (Box w g 40 #[.string (bs l), .slice wa s.ws.length wc, .int .i64 (s.pl : Int), .int .i64 (s.fr : Int), .slice ba s.bt.length bc]) := hC0.box
  have HW : Hid (Own 9 1 w n0 wa wc s.ws.length (s.ws.map strV)) := hC0.hw
  have HY : Hid (Own 5 1 w n0 ba bc s.bt.length (s.bt.map u8V)) := hC0.hb
  have HL : Hid (n0 ≤ w.heap.size) := hC0.hn
  have HK : Hid (Kept (Sg n0 g) w w) := Kept.refl _ _
  clear hC0
  go_enter Try.func18, Try.ntmps18
  go_upto_region 0 with fail
  refine WL.start ?_
  refine tK (.pointer (some ⟨g, 0, none⟩)) ?_
  try simp only [pA, pB, p1, p2, p3]
  refine tK (.pointer (some ⟨g, 0, none⟩)) ?_
  try simp only [pA, pB, p1, p2, p3]
  refine tK (.pointer (some ⟨g, 2, none⟩)) ?_
  try simp only [pA, pB, p1, p2, p3]
  have hst : (storeVar 38 ⟨g, 2, none⟩ (.int .i64 7)).run Try.prog w = .ok () (w.setRow g #[.string (bs l), .slice wa s.ws.length wc, .int .i64 7, .int .i64 (s.fr : Int), .slice ba s.bt.length bc]) := run_store_to (cur := [.string (bs l), .slice wa s.ws.length wc, .int .i64 (s.pl : Int), .int .i64 (s.fr : Int), .slice ba s.bt.length bc]) (vs := [.int .i64 7]) (new := [.string (bs l), .slice wa s.ws.length wc, .int .i64 7, .int .i64 (s.fr : Int), .slice ba s.bt.length bc]) HB.out (by kernel_rfl) S38 (Nat.le_of_ble_eq_true (by kernel_rfl)) (by simp [Value.oneCell', strV, u8V]) (by kernel_rfl)
  have HW : Hid (Own 9 1 (w.setRow g #[.string (bs l), .slice wa s.ws.length wc, .int .i64 7, .int .i64 (s.fr : Int), .slice ba s.bt.length bc]) n0 wa wc s.ws.length (s.ws.map strV)) := HW.out.kept (Kept.setRow _ _ _) (HW.out.notBox HB.out (by decide))
  have HY : Hid (Own 5 1 (w.setRow g #[.string (bs l), .slice wa s.ws.length wc, .int .i64 7, .int .i64 (s.fr : Int), .slice ba s.bt.length bc]) n0 ba bc s.bt.length (s.bt.map u8V)) := HY.out.kept (Kept.setRow _ _ _) (HY.out.notBox HB.out (by decide))
  have HK : Hid (Kept (Sg n0 g) w (w.setRow g #[.string (bs l), .slice wa s.ws.length wc, .int .i64 7, .int .i64 (s.fr : Int), .slice ba s.bt.length bc])) := HK.out.inRow (S := Sg n0 g) (Or.inl rfl) _
  have HB : Hid (Box (w.setRow g #[.string (bs l), .slice wa s.ws.length wc, .int .i64 7, .int .i64 (s.fr : Int), .slice ba s.bt.length bc]) g 40 #[.string (bs l), .slice wa s.ws.length wc, .int .i64 7, .int .i64 (s.fr : Int), .slice ba s.bt.length bc]) := HB.out.setRow _
  refine wp_storeW 38 _ _ rfl ⟨g, 2, none⟩ (.int .i64 7) (by kernel_rfl) (by kernel_rfl) (w.setRow g #[.string (bs l), .slice wa s.ws.length wc, .int .i64 7, .int .i64 (s.fr : Int), .slice ba s.bt.length bc]) hst (by kernel_rfl) ?_
  try simp only [pA, pB, p1, p2, p3]
  clear hst
  generalize w.setRow g #[.string (bs l), .slice wa s.ws.length wc, .int .i64 7, .int .i64 (s.fr : Int), .slice ba s.bt.length bc] = wk1 at HW HY HK HB ⊢
  refine WL.nil ?_
  try simp only [pA, pB, p1, p2, p3]
  go_upto_region 1 with fail
  refine WL.start ?_
  refine tK (.int .i32 r) ?_
  try simp only [pA, pB, p1, p2, p3]
  refine wp_callW 22 #[.int .i32 r] (by kernel_rfl) _ (isBlank_any _ wk1) (by kernel_rfl) ?_
  rintro e wq ⟨rfl, hwq⟩
  rw [hwq]
  clear hwq wq
  refine ⟨.bool false, by rw [hb], ?_⟩
  try simp only [pA, pB, p1, p2, p3]
  refine WL.nil ?_
  try simp only [pA, pB, p1, p2, p3]
  go_wp2
  go_end0
  rw [HC.out]
  exact ⟨rfl, by rw [HS.out]; exact CutA.of _ HB.out HW.out HY.out (Nat.le_trans HL.out HK.out.size) (by simp [strV, u8V]) (by simp [strV, u8V]) (by simp [strV, u8V]) (by simp [strV, u8V]) (by simp [strV, u8V]) (by simp [strV, u8V]), HK.out⟩
/-- The words that are told, or that they can't be. -/
def WsO (n0 : Nat) (w : World) (er : Int) (o : Option (List (List UInt8))) (e : Ending) : Prop :=
  match o with
  | some ws => ∃ a c, e = .returned (.tuple #[.slice a ws.length c, .int .i64 0]) ∧ Own 9 1 w n0 a c ws.length (ws.map strV)
  | none => e = .returned (.tuple #[.slice none 0 0, .int .i64 er])
set_option maxRecDepth 100000 in
set_option maxHeartbeats 4000000 in
theorem end_0 (n0 g : Nat) (l : List UInt8) (s : Cs) (w : World) (hcut : CutA n0 w g l s) (hi : s.fr ≤ l.length) (hl : l.length ≤ 1000000000000) (hws : s.ws.length ≤ 1000000000000) (h0 : s.pl = 0) : Calls Try.prog 19 #[.pointer (some ⟨g, 0, none⟩)] w (fun e w' => WsO n0 w' 200 (endC l s) e ∧ Kept (Sg n0 g) w w') := by
  obtain ⟨C, hC⟩ : ∃ C : Ending → World → Prop, C = (fun e w' => WsO n0 w' 200 (endC l s) e ∧ Kept (Sg n0 g) w w') := ⟨_, rfl⟩
  have HC : Hid (C = (fun e w' => WsO n0 w' 200 (endC l s) e ∧ Kept (Sg n0 g) w w')) := hC
  rw [← hC]
  clear hC
  have hp : ((s.pl : Int) == 0) = true := by rw [h0]; rfl
  have HS : Hid (endC l s = some s.ws) := by show _ = _; unfold endC; rw [if_pos (Or.inl h0)]
  clear h0
  obtain ⟨wa, wc, ba, bc, hC0⟩ := hcut
  have HB : Hid (Box w g 40 #[.string (bs l), .slice wa s.ws.length wc, .int .i64 (s.pl : Int), .int .i64 (s.fr : Int), .slice ba s.bt.length bc]) := hC0.box
  have HW : Hid (Own 9 1 w n0 wa wc s.ws.length (s.ws.map strV)) := hC0.hw
  have HY : Hid (Own 5 1 w n0 ba bc s.bt.length (s.bt.map u8V)) := hC0.hb
  have HL : Hid (n0 ≤ w.heap.size) := hC0.hn
  have HK : Hid (Kept (Sg n0 g) w w) := Kept.refl _ _
  clear hC0
  have HI : Hid (s.fr ≤ l.length ∧ l.length ≤ 1000000000000) := ⟨hi, hl⟩
  have HWd : Hid (s.ws.length ≤ 1000000000000) := hws
  clear hi hl hws
  go_enter Try.func19, Try.ntmps19
  go_upto_region 0 with fail
  refine WL.start ?_
  refine tK (.slice none 0 0) ?_
  try simp only [pA, pB, p1, p2, p3]
  refine tK (.int .i64 0) ?_
  try simp only [pA, pB, p1, p2, p3]
  refine WL.nil ?_
  try simp only [pA, pB, p1, p2, p3]
  go_upto_region 1 with fail
  refine WL.start ?_
  refine tK (.pointer (some ⟨g, 0, none⟩)) ?_
  try simp only [pA, pB, p1, p2, p3]
  refine tK (.pointer (some ⟨g, 0, none⟩)) ?_
  try simp only [pA, pB, p1, p2, p3]
  refine tK (.pointer (some ⟨g, 2, none⟩)) ?_
  try simp only [pA, pB, p1, p2, p3]
  refine tW (.int .i64 (s.pl : Int)) (exec_load 38 _ rfl ⟨g, 2, none⟩ (by kernel_rfl) (.int .i64 (s.pl : Int)) (load_one (HB.out.cell 2) U38 rfl)) ?_
  try simp only [pA, pB, p1, p2, p3]
  refine WL.nil ?_
  try simp only [pA, pB, p1, p2, p3]
  go_upto_region 2 with fail
  refine WL.start ?_
  refine tW (.bool true) (exec_bin .eql 38 _ _ _ rfl (.int .i64 (s.pl : Int)) (.int .i64 0) (.bool true) (by kernel_rfl) (by kernel_rfl) (by kernel_rfl) (by rw [b_eq38, hp])) ?_
  try simp only [pA, pB, p1, p2, p3]
  refine tK (.bool true) ?_
  try simp only [pA, pB, p1, p2, p3]
  refine WL.nil ?_
  try simp only [pA, pB, p1, p2, p3]
  go_upto_region 4 with fail
  refine WL.start ?_
  refine tK (.pointer (some ⟨g, 0, none⟩)) ?_
  try simp only [pA, pB, p1, p2, p3]
  refine tK (.pointer (some ⟨g, 0, none⟩)) ?_
  try simp only [pA, pB, p1, p2, p3]
  refine tK (.pointer (some ⟨g, 1, none⟩)) ?_
  try simp only [pA, pB, p1, p2, p3]
  refine tW (.slice wa s.ws.length wc) (exec_load 22 _ rfl ⟨g, 1, none⟩ (by kernel_rfl) (.slice wa s.ws.length wc) (load_one (HB.out.cell 1) U22 rfl)) ?_
  try simp only [pA, pB, p1, p2, p3]
  refine tK (.slice wa s.ws.length wc) ?_
  try simp only [pA, pB, p1, p2, p3]
  refine tK (.int .i64 0) ?_
  try simp only [pA, pB, p1, p2, p3]
  refine WL.nil ?_
  try simp only [pA, pB, p1, p2, p3]
  go_wp2
  rw [HC.out]
  exact ⟨by rw [HS.out]; exact ⟨wa, wc, rfl, HW.out⟩, HK.out⟩
set_option maxRecDepth 100000 in
set_option maxHeartbeats 4000000 in
theorem end_6 (n0 g : Nat) (l : List UInt8) (s : Cs) (w : World) (hcut : CutA n0 w g l s) (hi : s.fr ≤ l.length) (hl : l.length ≤ 1000000000000) (hws : s.ws.length ≤ 1000000000000) (h0 : s.pl = 6) : Calls Try.prog 19 #[.pointer (some ⟨g, 0, none⟩)] w (fun e w' => WsO n0 w' 200 (endC l s) e ∧ Kept (Sg n0 g) w w') := by
  obtain ⟨C, hC⟩ : ∃ C : Ending → World → Prop, C = (fun e w' => WsO n0 w' 200 (endC l s) e ∧ Kept (Sg n0 g) w w') := ⟨_, rfl⟩
  have HC : Hid (C = (fun e w' => WsO n0 w' 200 (endC l s) e ∧ Kept (Sg n0 g) w w')) := hC
  rw [← hC]
  clear hC
  have hp : ((s.pl : Int) == 0) = false := by rw [h0]; rfl
  have hp6 : ((s.pl : Int) == 6) = true := by rw [h0]; rfl
  have HS : Hid (endC l s = some s.ws) := by show _ = _; unfold endC; rw [if_pos (Or.inr h0)]
  clear h0
  obtain ⟨wa, wc, ba, bc, hC0⟩ := hcut
  have HB : Hid (Box w g 40 #[.string (bs l), .slice wa s.ws.length wc, .int .i64 (s.pl : Int), .int .i64 (s.fr : Int), .slice ba s.bt.length bc]) := hC0.box
  have HW : Hid (Own 9 1 w n0 wa wc s.ws.length (s.ws.map strV)) := hC0.hw
  have HY : Hid (Own 5 1 w n0 ba bc s.bt.length (s.bt.map u8V)) := hC0.hb
  have HL : Hid (n0 ≤ w.heap.size) := hC0.hn
  have HK : Hid (Kept (Sg n0 g) w w) := Kept.refl _ _
  clear hC0
  have HI : Hid (s.fr ≤ l.length ∧ l.length ≤ 1000000000000) := ⟨hi, hl⟩
  have HWd : Hid (s.ws.length ≤ 1000000000000) := hws
  clear hi hl hws
  go_enter Try.func19, Try.ntmps19
  go_upto_region 0 with fail
  refine WL.start ?_
  refine tK (.slice none 0 0) ?_
  try simp only [pA, pB, p1, p2, p3]
  refine tK (.int .i64 0) ?_
  try simp only [pA, pB, p1, p2, p3]
  refine WL.nil ?_
  try simp only [pA, pB, p1, p2, p3]
  go_upto_region 1 with fail
  refine WL.start ?_
  refine tK (.pointer (some ⟨g, 0, none⟩)) ?_
  try simp only [pA, pB, p1, p2, p3]
  refine tK (.pointer (some ⟨g, 0, none⟩)) ?_
  try simp only [pA, pB, p1, p2, p3]
  refine tK (.pointer (some ⟨g, 2, none⟩)) ?_
  try simp only [pA, pB, p1, p2, p3]
  refine tW (.int .i64 (s.pl : Int)) (exec_load 38 _ rfl ⟨g, 2, none⟩ (by kernel_rfl) (.int .i64 (s.pl : Int)) (load_one (HB.out.cell 2) U38 rfl)) ?_
  try simp only [pA, pB, p1, p2, p3]
  refine WL.nil ?_
  try simp only [pA, pB, p1, p2, p3]
  go_upto_region 2 with fail
  refine WL.start ?_
  refine tW (.bool false) (exec_bin .eql 38 _ _ _ rfl (.int .i64 (s.pl : Int)) (.int .i64 0) (.bool false) (by kernel_rfl) (by kernel_rfl) (by kernel_rfl) (by rw [b_eq38, hp])) ?_
  try simp only [pA, pB, p1, p2, p3]
  refine tK (.bool false) ?_
  try simp only [pA, pB, p1, p2, p3]
  refine WL.nil ?_
  try simp only [pA, pB, p1, p2, p3]
  go_upto_region 3 with fail
  refine WL.start ?_
  refine tW (.bool true) (exec_bin .eql 38 _ _ _ rfl (.int .i64 (s.pl : Int)) (.int .i64 6) (.bool true) (by kernel_rfl) (by kernel_rfl) (by kernel_rfl) (by rw [b_eq38, hp6])) ?_
  try simp only [pA, pB, p1, p2, p3]
  refine tK (.bool true) ?_
  try simp only [pA, pB, p1, p2, p3]
  refine WL.nil ?_
  try simp only [pA, pB, p1, p2, p3]
  go_upto_region 4 with fail
  refine WL.start ?_
  refine tK (.pointer (some ⟨g, 0, none⟩)) ?_
  try simp only [pA, pB, p1, p2, p3]
  refine tK (.pointer (some ⟨g, 0, none⟩)) ?_
  try simp only [pA, pB, p1, p2, p3]
  refine tK (.pointer (some ⟨g, 1, none⟩)) ?_
  try simp only [pA, pB, p1, p2, p3]
  refine tW (.slice wa s.ws.length wc) (exec_load 22 _ rfl ⟨g, 1, none⟩ (by kernel_rfl) (.slice wa s.ws.length wc) (load_one (HB.out.cell 1) U22 rfl)) ?_
  try simp only [pA, pB, p1, p2, p3]
  refine tK (.slice wa s.ws.length wc) ?_
  try simp only [pA, pB, p1, p2, p3]
  refine tK (.int .i64 0) ?_
  try simp only [pA, pB, p1, p2, p3]
  refine WL.nil ?_
  try simp only [pA, pB, p1, p2, p3]
  go_wp2
  rw [HC.out]
  exact ⟨by rw [HS.out]; exact ⟨wa, wc, rfl, HW.out⟩, HK.out⟩
set_option maxRecDepth 100000 in
set_option maxHeartbeats 4000000 in
theorem end_1 (n0 g : Nat) (l : List UInt8) (s : Cs) (w : World) (hcut : CutA n0 w g l s) (hi : s.fr ≤ l.length) (hl : l.length ≤ 1000000000000) (hws : s.ws.length ≤ 1000000000000) (h0 : s.pl = 1) : Calls Try.prog 19 #[.pointer (some ⟨g, 0, none⟩)] w (fun e w' => WsO n0 w' 200 (endC l s) e ∧ Kept (Sg n0 g) w w') := by
  obtain ⟨C, hC⟩ : ∃ C : Ending → World → Prop, C = (fun e w' => WsO n0 w' 200 (endC l s) e ∧ Kept (Sg n0 g) w w') := ⟨_, rfl⟩
  have HC : Hid (C = (fun e w' => WsO n0 w' 200 (endC l s) e ∧ Kept (Sg n0 g) w w')) := hC
  rw [← hC]
  clear hC
  have hp : ((s.pl : Int) == 0) = false := by rw [h0]; rfl
  have hp6 : ((s.pl : Int) == 6) = false := by rw [h0]; rfl
  have hp1 : ((s.pl : Int) == 1) = true := by rw [h0]; rfl
  have HS : Hid (endC l s = some (s.ws ++ [l.drop s.fr])) := by show _ = _; unfold endC; rw [if_neg (by omega), if_pos h0]
  clear h0
  obtain ⟨wa, wc, ba, bc, hC0⟩ := hcut
  have HB : Hid (Box w g 40 #[.string (bs l), .slice wa s.ws.length wc, .int .i64 (s.pl : Int), .int .i64 (s.fr : Int), .slice ba s.bt.length bc]) := hC0.box
  have HW : Hid (Own 9 1 w n0 wa wc s.ws.length (s.ws.map strV)) := hC0.hw
  have HY : Hid (Own 5 1 w n0 ba bc s.bt.length (s.bt.map u8V)) := hC0.hb
  have HL : Hid (n0 ≤ w.heap.size) := hC0.hn
  have HK : Hid (Kept (Sg n0 g) w w) := Kept.refl _ _
  clear hC0
  have HI : Hid (s.fr ≤ l.length ∧ l.length ≤ 1000000000000) := ⟨hi, hl⟩
  have HWd : Hid (s.ws.length ≤ 1000000000000) := hws
  clear hi hl hws
  go_enter Try.func19, Try.ntmps19
  go_upto_region 0 with fail
  refine WL.start ?_
  refine tK (.slice none 0 0) ?_
  try simp only [pA, pB, p1, p2, p3]
  refine tK (.int .i64 0) ?_
  try simp only [pA, pB, p1, p2, p3]
  refine WL.nil ?_
  try simp only [pA, pB, p1, p2, p3]
  go_upto_region 1 with fail
  refine WL.start ?_
  refine tK (.pointer (some ⟨g, 0, none⟩)) ?_
  try simp only [pA, pB, p1, p2, p3]
  refine tK (.pointer (some ⟨g, 0, none⟩)) ?_
  try simp only [pA, pB, p1, p2, p3]
  refine tK (.pointer (some ⟨g, 2, none⟩)) ?_
  try simp only [pA, pB, p1, p2, p3]
  refine tW (.int .i64 (s.pl : Int)) (exec_load 38 _ rfl ⟨g, 2, none⟩ (by kernel_rfl) (.int .i64 (s.pl : Int)) (load_one (HB.out.cell 2) U38 rfl)) ?_
  try simp only [pA, pB, p1, p2, p3]
  refine WL.nil ?_
  try simp only [pA, pB, p1, p2, p3]
  go_upto_region 2 with fail
  refine WL.start ?_
  refine tW (.bool false) (exec_bin .eql 38 _ _ _ rfl (.int .i64 (s.pl : Int)) (.int .i64 0) (.bool false) (by kernel_rfl) (by kernel_rfl) (by kernel_rfl) (by rw [b_eq38, hp])) ?_
  try simp only [pA, pB, p1, p2, p3]
  refine tK (.bool false) ?_
  try simp only [pA, pB, p1, p2, p3]
  refine WL.nil ?_
  try simp only [pA, pB, p1, p2, p3]
  go_upto_region 3 with fail
  refine WL.start ?_
  refine tW (.bool false) (exec_bin .eql 38 _ _ _ rfl (.int .i64 (s.pl : Int)) (.int .i64 6) (.bool false) (by kernel_rfl) (by kernel_rfl) (by kernel_rfl) (by rw [b_eq38, hp6])) ?_
  try simp only [pA, pB, p1, p2, p3]
  refine tK (.bool false) ?_
  try simp only [pA, pB, p1, p2, p3]
  refine WL.nil ?_
  try simp only [pA, pB, p1, p2, p3]
  go_upto_region 5 with fail
  refine WL.start ?_
  refine tW (.bool true) (exec_bin .eql 38 _ _ _ rfl (.int .i64 (s.pl : Int)) (.int .i64 1) (.bool true) (by kernel_rfl) (by kernel_rfl) (by kernel_rfl) (by rw [b_eq38, hp1])) ?_
  try simp only [pA, pB, p1, p2, p3]
  refine tK (.bool true) ?_
  try simp only [pA, pB, p1, p2, p3]
  refine WL.nil ?_
  try simp only [pA, pB, p1, p2, p3]
  go_upto_region 6 with fail
  have HW : Hid (Own 9 1 w.drew n0 wa wc s.ws.length (s.ws.map strV)) := HW.out.no (Kept.refl No _).drew
  have HY : Hid (Own 5 1 w.drew n0 ba bc s.bt.length (s.bt.map u8V)) := HY.out.no (Kept.refl No _).drew
  have HK : Hid (Kept (Sg n0 g) w w.drew) := HK.out.drew
  have HB : Hid (Box w.drew g 40 #[.string (bs l), .slice wa s.ws.length wc, .int .i64 (s.pl : Int), .int .i64 (s.fr : Int), .slice ba s.bt.length bc]) := HB.out.kept (Kept.refl No _).drew (fun e => e)
  refine wp_region_held_drew (S := fun w' => w'.cell? ⟨g, 0, none⟩ = some (.string (bs l)) ∧ w'.cell? ⟨g, 1, none⟩ = some (.slice wa s.ws.length wc) ∧ w'.cell? ⟨g, 3, none⟩ = some (.int .i64 (s.fr : Int))) rfl ⟨(HB.out.cell 0), (HB.out.cell 1), (HB.out.cell 3)⟩ (fun hH => ?_)
  generalize w.drew = wk1 at HW HY HK HB hH ⊢
  refine aT (i := 0) (oi := { dst := some 17, op := Op.move (Operand.tmp 0), type := 50, pos := "word.go:142", after := #[], guard := none }) (v := .pointer (some ⟨g, 0, none⟩)) (fun _ _ => by kernel_rfl) hH ?_
  try simp only [pA, pB, p1, p2, p3]
  refine aT (i := 1) (oi := { dst := some 18, op := Op.nilCheck (Operand.tmp 17), type := 0, pos := "word.go:142", after := #[{ on := 0, ground := Ground.data }], guard := none }) (v := .pointer (some ⟨g, 0, none⟩)) (fun _ _ => by kernel_rfl) hH ?_
  try simp only [pA, pB, p1, p2, p3]
  refine aT (i := 2) (oi := { dst := some 19, op := Op.fieldAddr 40 (Operand.tmp 18) 1, type := 0, pos := "word.go:142", after := #[{ on := 1, ground := Ground.data }], guard := none }) (v := .pointer (some ⟨g, 1, none⟩)) (fun _ _ => by kernel_rfl) hH ?_
  try simp only [pA, pB, p1, p2, p3]
  refine aT (i := 3) (oi := { dst := some 20, op := Op.load 22 (Operand.tmp 19), type := 22, pos := "word.go:142", after := #[{ on := 2, ground := Ground.data }], guard := none }) (v := .slice wa s.ws.length wc) (fun w' hw => exec_load 22 _ rfl ⟨g, 1, none⟩ (by kernel_rfl) (.slice wa s.ws.length wc) (load_one hw.2.1 U22 rfl)) hH ?_
  try simp only [pA, pB, p1, p2, p3]
  refine aT (i := 4) (oi := { dst := some 21, op := Op.move (Operand.tmp 0), type := 50, pos := "word.go:142", after := #[], guard := none }) (v := .pointer (some ⟨g, 0, none⟩)) (fun _ _ => by kernel_rfl) hH ?_
  try simp only [pA, pB, p1, p2, p3]
  refine aT (i := 5) (oi := { dst := some 22, op := Op.nilCheck (Operand.tmp 21), type := 0, pos := "word.go:142", after := #[{ on := 4, ground := Ground.data }], guard := none }) (v := .pointer (some ⟨g, 0, none⟩)) (fun _ _ => by kernel_rfl) hH ?_
  try simp only [pA, pB, p1, p2, p3]
  refine aT (i := 6) (oi := { dst := some 23, op := Op.fieldAddr 40 (Operand.tmp 22) 0, type := 0, pos := "word.go:142", after := #[{ on := 5, ground := Ground.data }], guard := none }) (v := .pointer (some ⟨g, 0, none⟩)) (fun _ _ => by kernel_rfl) hH ?_
  try simp only [pA, pB, p1, p2, p3]
  refine aT (i := 7) (oi := { dst := some 24, op := Op.load 9 (Operand.tmp 23), type := 9, pos := "word.go:142", after := #[{ on := 6, ground := Ground.data }], guard := none }) (v := .string (bs l)) (fun w' hw => exec_load 9 _ rfl ⟨g, 0, none⟩ (by kernel_rfl) (.string (bs l)) (load_one hw.1 U9 rfl)) hH ?_
  try simp only [pA, pB, p1, p2, p3]
  refine aT (i := 8) (oi := { dst := some 25, op := Op.move (Operand.tmp 0), type := 50, pos := "word.go:142", after := #[], guard := none }) (v := .pointer (some ⟨g, 0, none⟩)) (fun _ _ => by kernel_rfl) hH ?_
  try simp only [pA, pB, p1, p2, p3]
  refine aT (i := 9) (oi := { dst := some 26, op := Op.nilCheck (Operand.tmp 25), type := 0, pos := "word.go:142", after := #[{ on := 8, ground := Ground.data }], guard := none }) (v := .pointer (some ⟨g, 0, none⟩)) (fun _ _ => by kernel_rfl) hH ?_
  try simp only [pA, pB, p1, p2, p3]
  refine aT (i := 10) (oi := { dst := some 27, op := Op.fieldAddr 40 (Operand.tmp 26) 3, type := 0, pos := "word.go:142", after := #[{ on := 9, ground := Ground.data }], guard := none }) (v := .pointer (some ⟨g, 3, none⟩)) (fun _ _ => by kernel_rfl) hH ?_
  try simp only [pA, pB, p1, p2, p3]
  refine aT (i := 11) (oi := { dst := some 28, op := Op.load 3 (Operand.tmp 27), type := 3, pos := "word.go:142", after := #[{ on := 10, ground := Ground.data }], guard := none }) (v := .int .i64 (s.fr : Int)) (fun w' hw => exec_load 3 _ rfl ⟨g, 3, none⟩ (by kernel_rfl) (.int .i64 (s.fr : Int)) (load_one hw.2.2 U3 rfl)) hH ?_
  try simp only [pA, pB, p1, p2, p3]
  refine aT (i := 12) (oi := { dst := some 29, op := Op.slice 9 (Operand.tmp 24) (some (Operand.tmp 28)) none none, type := 9, pos := "word.go:142", after := #[{ on := 7, ground := Ground.data }, { on := 11, ground := Ground.data }], guard := none }) (v := .string (bs (l.drop s.fr))) (fun w' hw => exec_sl _ _ _ rfl (.string (bs l)) (.string (bs (l.drop s.fr))) (some (.int .i64 (s.fr : Int))) none (by kernel_rfl) (by kernel_rfl) rfl (run_cutE l s.fr (by have := HI.out; omega))) hH ?_
  try simp only [pA, pB, p1, p2, p3]
  have HW : Hid (Own 9 1 (wk1.alloc (.cells [.string (bs (l.drop s.fr))].toArray 9)) n0 wa wc s.ws.length (s.ws.map strV)) := HW.out.no ((Kept.refl No _).alloc _)
  have HY : Hid (Own 5 1 (wk1.alloc (.cells [.string (bs (l.drop s.fr))].toArray 9)) n0 ba bc s.bt.length (s.bt.map u8V)) := HY.out.no ((Kept.refl No _).alloc _)
  have HK : Hid (Kept (Sg n0 g) w (wk1.alloc (.cells [.string (bs (l.drop s.fr))].toArray 9))) := HK.out.alloc _
  have HB : Hid (Box (wk1.alloc (.cells [.string (bs (l.drop s.fr))].toArray 9)) g 40 #[.string (bs l), .slice wa s.ws.length wc, .int .i64 (s.pl : Int), .int .i64 (s.fr : Int), .slice ba s.bt.length bc]) := HB.out.alloc _
  have HX : Hid (Box (wk1.alloc (.cells [.string (bs (l.drop s.fr))].toArray 9)) wk1.heap.size 9 [.string (bs (l.drop s.fr))].toArray) := Box.new _ _ _
  refine any_step (i := 13) (o := { dst := some 30, op := Op.buildSlice 22 1 #[(0, Operand.tmp 29)], type := 22, pos := "word.go:142", after := #[{ on := 12, ground := Ground.data }], guard := none }) (v := .slice (some ⟨wk1.heap.size, 0, none⟩) 1 1) (w' := wk1.alloc (.cells [.string (bs (l.drop s.fr))].toArray 9)) rfl (by kernel_rfl) (by kernel_rfl) (exec_built (by kernel_rfl)) ⟨(HB.out.cell 0), (HB.out.cell 1), (HB.out.cell 3)⟩ (fun hH => ?_)
  try simp only [pA, pB, p1, p2, p3]
  generalize wk1.alloc (.cells [.string (bs (l.drop s.fr))].toArray 9) = wk2 at HW HY HK HX HB hH ⊢
  generalize wk1.heap.size = gk3 at HX ⊢
  obtain ⟨a_3, c_3, w_3, hrun, ho, hc⟩ := run_app 22 9 16 _ U22 I9 rfl HW.out 22 ⟨gk3, 0, none⟩ 1 1 [.string (bs (l.drop s.fr))] rfl (box_news HX.out) (by simp [Value.oneCell', strV, u8V]) (by have h1 := HI.out; have h3 := HWd.out; omega) (by have h1 := HI.out; have h3 := HWd.out; omega) (Nat.le_trans HL.out HK.out.size)
  clear HX
  have HY : Hid (Own 5 1 w_3 n0 ba bc s.bt.length (s.bt.map u8V)) := HY.out.kept hc (own_apart HY.out HW.out (by decide))
  have HK : Hid (Kept (Sg n0 g) w w_3) := HK.out.trans hc (fun _ e => e) (fun _ _ e => Or.inr (HW.out.base e))
  have HB : Hid (Box w_3 g 40 #[.string (bs l), .slice wa s.ws.length wc, .int .i64 (s.pl : Int), .int .i64 (s.fr : Int), .slice ba s.bt.length bc]) := HB.out.kept hc (HW.out.offBox HB.out (by decide))
  have HW : Hid (Own 9 1 w_3 n0 a_3 c_3 (s.ws.length + 1) (s.ws.map strV ++ [.string (bs (l.drop s.fr))])) := ho
  refine any_step (i := 14) (o := { dst := some 31, op := Op.call { callee := Callee.builtin Builtin.append, args := #[Operand.tmp 20, Operand.tmp 30], argTypes := #[22, 22] }, type := 22, pos := "word.go:142", after := #[{ on := 3, ground := Ground.data }, { on := 13, ground := Ground.data }], guard := none }) (v := .slice a_3 (s.ws.length + 1) c_3) (w' := w_3) rfl (by kernel_rfl) (by kernel_rfl) (exec_app _ _ 22 22 rfl _ _ _ (by kernel_rfl) (by kernel_rfl) hrun) ⟨(HB.out.cell 0), (HB.out.cell 1), (HB.out.cell 3)⟩ (fun hH => ?_)
  try simp only [pA, pB, p1, p2, p3]
  clear hrun ho hc
  refine aT (i := 15) (oi := { dst := some 2, op := Op.assign (Operand.tmp 31), type := 22, pos := "word.go:142", after := #[{ on := 14, ground := Ground.data }, { on := 14, ground := Ground.chain }, { on := 0, ground := Ground.phase }, { on := 1, ground := Ground.phase }, { on := 2, ground := Ground.phase }, { on := 3, ground := Ground.phase }, { on := 4, ground := Ground.phase }, { on := 5, ground := Ground.phase }, { on := 6, ground := Ground.phase }, { on := 7, ground := Ground.phase }, { on := 8, ground := Ground.phase }, { on := 9, ground := Ground.phase }, { on := 10, ground := Ground.phase }, { on := 11, ground := Ground.phase }, { on := 12, ground := Ground.phase }, { on := 13, ground := Ground.phase }, { on := 14, ground := Ground.phase }], guard := none }) (v := .slice a_3 (s.ws.length + 1) c_3) (fun _ _ => by kernel_rfl) hH ?_
  try simp only [pA, pB, p1, p2, p3]
  refine aT (i := 16) (oi := { dst := some 3, op := Op.assign (Operand.const (Value.int IntKind.i64 0)), type := 23, pos := "word.go:142", after := #[{ on := 15, ground := Ground.chain }, { on := 0, ground := Ground.phase }, { on := 1, ground := Ground.phase }, { on := 2, ground := Ground.phase }, { on := 3, ground := Ground.phase }, { on := 4, ground := Ground.phase }, { on := 5, ground := Ground.phase }, { on := 6, ground := Ground.phase }, { on := 7, ground := Ground.phase }, { on := 8, ground := Ground.phase }, { on := 9, ground := Ground.phase }, { on := 10, ground := Ground.phase }, { on := 11, ground := Ground.phase }, { on := 12, ground := Ground.phase }, { on := 13, ground := Ground.phase }, { on := 14, ground := Ground.phase }, { on := 15, ground := Ground.phase }], guard := none }) (v := .int .i64 0) (fun _ _ => by kernel_rfl) hH ?_
  try simp only [pA, pB, p1, p2, p3]
  refine wpAnyH_done (by kernel_rfl) ?_ _
  try simp only [pA, pB, p1, p2, p3]
  clear hH
  go_wp2
  rw [HC.out]
  exact ⟨by rw [HS.out]; exact ⟨a_3, c_3, by simp, by have h := HW.out; simpa [strV] using h⟩, HK.out⟩
set_option maxRecDepth 100000 in
set_option maxHeartbeats 4000000 in
theorem end_n (n0 g : Nat) (l : List UInt8) (s : Cs) (w : World) (hcut : CutA n0 w g l s) (hi : s.fr ≤ l.length) (hl : l.length ≤ 1000000000000) (hws : s.ws.length ≤ 1000000000000) (h0 : s.pl ≠ 0) (h6 : s.pl ≠ 6) (h1 : s.pl ≠ 1) : Calls Try.prog 19 #[.pointer (some ⟨g, 0, none⟩)] w (fun e w' => WsO n0 w' 200 (endC l s) e ∧ Kept (Sg n0 g) w w') := by
  obtain ⟨C, hC⟩ : ∃ C : Ending → World → Prop, C = (fun e w' => WsO n0 w' 200 (endC l s) e ∧ Kept (Sg n0 g) w w') := ⟨_, rfl⟩
  have HC : Hid (C = (fun e w' => WsO n0 w' 200 (endC l s) e ∧ Kept (Sg n0 g) w w')) := hC
  rw [← hC]
  clear hC
  have hp : ((s.pl : Int) == 0) = false := by simpa using h0
  have hp6 : ((s.pl : Int) == 6) = false := by simp; omega
  have hp1 : ((s.pl : Int) == 1) = false := by simp; omega
  have HS : Hid (endC l s = none) := by show _ = _; unfold endC; rw [if_neg (by omega), if_neg h1]
  clear h0 h6 h1
  obtain ⟨wa, wc, ba, bc, hC0⟩ := hcut
  have HB : Hid (Box w g 40 #[.string (bs l), .slice wa s.ws.length wc, .int .i64 (s.pl : Int), .int .i64 (s.fr : Int), .slice ba s.bt.length bc]) := hC0.box
  have HW : Hid (Own 9 1 w n0 wa wc s.ws.length (s.ws.map strV)) := hC0.hw
  have HY : Hid (Own 5 1 w n0 ba bc s.bt.length (s.bt.map u8V)) := hC0.hb
  have HL : Hid (n0 ≤ w.heap.size) := hC0.hn
  have HK : Hid (Kept (Sg n0 g) w w) := Kept.refl _ _
  clear hC0
  have HI : Hid (s.fr ≤ l.length ∧ l.length ≤ 1000000000000) := ⟨hi, hl⟩
  have HWd : Hid (s.ws.length ≤ 1000000000000) := hws
  clear hi hl hws
  go_enter Try.func19, Try.ntmps19
  go_upto_region 0 with fail
  refine WL.start ?_
  refine tK (.slice none 0 0) ?_
  try simp only [pA, pB, p1, p2, p3]
  refine tK (.int .i64 0) ?_
  try simp only [pA, pB, p1, p2, p3]
  refine WL.nil ?_
  try simp only [pA, pB, p1, p2, p3]
  go_upto_region 1 with fail
  refine WL.start ?_
  refine tK (.pointer (some ⟨g, 0, none⟩)) ?_
  try simp only [pA, pB, p1, p2, p3]
  refine tK (.pointer (some ⟨g, 0, none⟩)) ?_
  try simp only [pA, pB, p1, p2, p3]
  refine tK (.pointer (some ⟨g, 2, none⟩)) ?_
  try simp only [pA, pB, p1, p2, p3]
  refine tW (.int .i64 (s.pl : Int)) (exec_load 38 _ rfl ⟨g, 2, none⟩ (by kernel_rfl) (.int .i64 (s.pl : Int)) (load_one (HB.out.cell 2) U38 rfl)) ?_
  try simp only [pA, pB, p1, p2, p3]
  refine WL.nil ?_
  try simp only [pA, pB, p1, p2, p3]
  go_upto_region 2 with fail
  refine WL.start ?_
  refine tW (.bool false) (exec_bin .eql 38 _ _ _ rfl (.int .i64 (s.pl : Int)) (.int .i64 0) (.bool false) (by kernel_rfl) (by kernel_rfl) (by kernel_rfl) (by rw [b_eq38, hp])) ?_
  try simp only [pA, pB, p1, p2, p3]
  refine tK (.bool false) ?_
  try simp only [pA, pB, p1, p2, p3]
  refine WL.nil ?_
  try simp only [pA, pB, p1, p2, p3]
  go_upto_region 3 with fail
  refine WL.start ?_
  refine tW (.bool false) (exec_bin .eql 38 _ _ _ rfl (.int .i64 (s.pl : Int)) (.int .i64 6) (.bool false) (by kernel_rfl) (by kernel_rfl) (by kernel_rfl) (by rw [b_eq38, hp6])) ?_
  try simp only [pA, pB, p1, p2, p3]
  refine tK (.bool false) ?_
  try simp only [pA, pB, p1, p2, p3]
  refine WL.nil ?_
  try simp only [pA, pB, p1, p2, p3]
  go_upto_region 5 with fail
  refine WL.start ?_
  refine tW (.bool false) (exec_bin .eql 38 _ _ _ rfl (.int .i64 (s.pl : Int)) (.int .i64 1) (.bool false) (by kernel_rfl) (by kernel_rfl) (by kernel_rfl) (by rw [b_eq38, hp1])) ?_
  try simp only [pA, pB, p1, p2, p3]
  refine tK (.bool false) ?_
  try simp only [pA, pB, p1, p2, p3]
  refine WL.nil ?_
  try simp only [pA, pB, p1, p2, p3]
  go_upto_region 7 with fail
  refine WL.start ?_
  refine tK (.slice none 0 0) ?_
  try simp only [pA, pB, p1, p2, p3]
  refine tK (.int .i64 200) ?_
  try simp only [pA, pB, p1, p2, p3]
  refine WL.nil ?_
  try simp only [pA, pB, p1, p2, p3]
  go_wp2
  rw [HC.out]
  exact ⟨by rw [HS.out]; exact rfl, HK.out⟩

end Go.Proofs.Ytgnfeegnhdbnkaa
