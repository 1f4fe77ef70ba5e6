import Derived.Test.YtgdnofacgfjaeabGreatZb
import Derived.Lib.QuietBelow
namespace Go.Proofs.YtgdnofacgfjaeabGreat
open Go.RowKit
set_option linter.unusedVariables false

section
variable {ops : Array Oper} {rest : List Oper} {o : Oper} {a : Act} {w : World} {Q : Exit → Act → World → Prop}
/-- A struct is laid into a block of its own. -/
theorem wp_boxV (hg : o.guard = none) (t : TypeId) (x : Operand) (ho : o.op = .box t x) (cs : Array Value) (hx : a.eval x = .agg cs) (N : Nat) (hN : w.heap.size = N)
    (h : wpList Tryz.prog ops Q rest (a.put o.dst (.pointer (some ⟨N, 0, none⟩))) (w.alloc (.cells cs t))) : wpList Tryz.prog ops Q (o :: rest) a w := by
  subst hN
  refine wp_runTo hg _ (w.alloc (.cells cs t)) ?_ h
  simp only [execOp, ho, hx, Instr.box, Sem.run_bind, Result.andThen_ok, newVar, newRow, run_newObj_alloc, Sem.run_pure]
  rfl
theorem Tryz.size71 : (Tryz.prog.info? 71).map (·.size) = some 30 := by kernel_rfl
/-- A message is read whole. -/
theorem wp_loadM (hg : o.guard = none) (x : Operand) (ho : o.op = .load 71 x) (g : Nat) (cs : Array Value) (hx : a.eval x = .pointer (some ⟨g, 0, none⟩)) (hl : cs.size = 30) {t : TypeId} (hb : Box w g t cs)
    (h : wpList Tryz.prog ops Q rest (a.put o.dst (.agg cs)) w) : wpList Tryz.prog ops Q (o :: rest) a w :=
  wpList_load_row hg 71 x ho g hx t cs (0, 0) _ hb Tryz.underlying71 rfl (by rw [hl]; exact Tryz.size71) h
end

/-- .. within a region that draws, whose operations only read. -/
theorem quiet_loadM {ops : Array Oper} {C : World → Prop} {Q : Act → Prop} {a : Act} {o : Oper} {rest : List Oper} (hw : Region.wanted o (yielded ops a.tmps) = true) (x : Operand) (ho : o.op = .load 71 x) (g : Nat) (cs : Array Value) (hx : a.eval x = .pointer (some ⟨g, 0, none⟩)) (hl : cs.size = 30) {t : TypeId}
    (hb : ∀ w, C w → Box w g t cs) (h : wpQuiet Tryz.prog ops C Q rest (a.put o.dst (.agg cs))) : wpQuiet Tryz.prog ops C Q (o :: rest) a := by
  refine wpQuiet_step (fun K hK => ?_)
  rw [if_pos hw]
  refine ⟨.agg cs, fun w hC => ?_, hK _ h⟩
  unfold Oper.quietAt execOp
  simp only [ho, hx, Instr.loadAt, Instr.sureAddr, Sem.run_bind, Sem.run_pure, Result.andThen_ok, run_loadVar_row w g t 71 cs (0, 0) _ (hb w hC) Tryz.underlying71 rfl (by rw [hl]; exact Tryz.size71)]
  exact ⟨rfl, rfl⟩

/-- A message's fields: what stands in its cells. -/
structure MsgD where
  kind : Int
  fc : Bool
  fi : Int
  tc : Bool
  ti : Int
  op : Int
  rd : Int
  kk : Int
  ka : Int
  kb : Int
  kc : Int
  sn : Int
  sc : Int
  hn : Int
  hc : Int
  ba : Option Addr
  bl : Nat
  bp : Nat
  ck : Int
  cc : Int
  co : Int
  cn : ByteArray
  fc1 : Int
  fo1 : Int
  fc2 : Int
  fo2 : Int
  cz : Int
  up : Int
  ea : Option Addr
  el : Nat
  ep : Nat
  la : Option Addr
  ll : Nat
  lp : Nat
  xa : Option Addr
  xl : Nat
  xp : Nat
  more : Bool
def MsgD.cells (m : MsgD) : Array Value := #[.int .i64 m.kind, .bool m.fc, .int .i64 m.fi, .bool m.tc, .int .i64 m.ti, .int .i64 m.op, .int .i64 m.rd, .int .i64 m.kk, .int .i64 m.ka, .int .i64 m.kb, .int .i64 m.kc, .int .i64 m.sn, .int .i64 m.sc, .int .i64 m.hn, .int .i64 m.hc, .slice m.ba m.bl m.bp, .int .i64 m.ck, .int .i64 m.cc, .int .i64 m.co, .string m.cn, .int .i64 m.fc1, .int .i64 m.fo1, .int .i64 m.fc2, .int .i64 m.fo2, .int .i64 m.cz, .int .i64 m.up, .slice m.ea m.el m.ep, .slice m.la m.ll m.lp, .slice m.xa m.xl m.xp, .bool m.more]
theorem MsgD.size (m : MsgD) : m.cells.size = 30 := rfl

/-- A message in a block. -/
structure MsgAt (w : World) (g : Nat) (m : MsgD) : Prop where
  box : Box w g 71 m.cells
theorem MsgAt.kept {S : Nat → Prop} {w w' : World} {g : Nat} {m : MsgD} (h : MsgAt w g m) (hk : Kept S w w') (hS : ¬ S g) : MsgAt w' g m := ⟨h.box.kept hk hS⟩
theorem MsgAt.no {w w' : World} {g : Nat} {m : MsgD} (h : MsgAt w g m) (hk : Kept No w w') : MsgAt w' g m := h.kept hk (fun e => e)
theorem MsgAt.new (w : World) (m : MsgD) : MsgAt (w.alloc (.cells m.cells 71)) w.heap.size m := ⟨Box.new _ _ _⟩
theorem MsgAt.ends {w : World} {g : Nat} {m : MsgD} (h : MsgAt w g m) : w.cell? ⟨g, 0, none⟩ = some (.int .i64 m.kind) ∧ w.cell? ⟨g, 1, none⟩ = some (.bool m.fc) ∧ w.cell? ⟨g, 2, none⟩ = some (.int .i64 m.fi) ∧ w.cell? ⟨g, 3, none⟩ = some (.bool m.tc) ∧ w.cell? ⟨g, 4, none⟩ = some (.int .i64 m.ti) ∧ w.cell? ⟨g, 5, none⟩ = some (.int .i64 m.op) ∧ w.cell? ⟨g, 6, none⟩ = some (.int .i64 m.rd) :=
  ⟨h.box.cell 0, h.box.cell 1, h.box.cell 2, h.box.cell 3, h.box.cell 4, h.box.cell 5, h.box.cell 6⟩
theorem MsgAt.key {w : World} {g : Nat} {m : MsgD} (h : MsgAt w g m) : w.cell? ⟨g, 7, none⟩ = some (.int .i64 m.kk) ∧ w.cell? ⟨g, 8, none⟩ = some (.int .i64 m.ka) ∧ w.cell? ⟨g, 9, none⟩ = some (.int .i64 m.kb) ∧ w.cell? ⟨g, 10, none⟩ = some (.int .i64 m.kc) :=
  ⟨h.box.cell 7, h.box.cell 8, h.box.cell 9, h.box.cell 10⟩
theorem MsgAt.rest {w : World} {g : Nat} {m : MsgD} (h : MsgAt w g m) : w.cell? ⟨g, 11, none⟩ = some (.int .i64 m.sn) ∧ w.cell? ⟨g, 12, none⟩ = some (.int .i64 m.sc) ∧ w.cell? ⟨g, 13, none⟩ = some (.int .i64 m.hn) ∧ w.cell? ⟨g, 14, none⟩ = some (.int .i64 m.hc) ∧ w.cell? ⟨g, 15, none⟩ = some (.slice m.ba m.bl m.bp) ∧ w.cell? ⟨g, 28, none⟩ = some (.slice m.xa m.xl m.xp) ∧ w.cell? ⟨g, 29, none⟩ = some (.bool m.more) :=
  ⟨h.box.cell 11, h.box.cell 12, h.box.cell 13, h.box.cell 14, h.box.cell 15, h.box.cell 28, h.box.cell 29⟩
theorem MsgAt.cmd {w : World} {g : Nat} {m : MsgD} (h : MsgAt w g m) : w.cell? ⟨g, 16, none⟩ = some (.int .i64 m.ck) ∧ w.cell? ⟨g, 17, none⟩ = some (.int .i64 m.cc) ∧ w.cell? ⟨g, 18, none⟩ = some (.int .i64 m.co) ∧ w.cell? ⟨g, 19, none⟩ = some (.string m.cn) ∧ w.cell? ⟨g, 20, none⟩ = some (.int .i64 m.fc1) ∧ w.cell? ⟨g, 21, none⟩ = some (.int .i64 m.fo1) ∧ w.cell? ⟨g, 22, none⟩ = some (.int .i64 m.fc2) ∧ w.cell? ⟨g, 23, none⟩ = some (.int .i64 m.fo2) ∧ w.cell? ⟨g, 24, none⟩ = some (.int .i64 m.cz) :=
  ⟨h.box.cell 16, h.box.cell 17, h.box.cell 18, h.box.cell 19, h.box.cell 20, h.box.cell 21, h.box.cell 22, h.box.cell 23, h.box.cell 24⟩
theorem MsgAt.bkt {w : World} {g : Nat} {m : MsgD} (h : MsgAt w g m) : w.cell? ⟨g, 25, none⟩ = some (.int .i64 m.up) ∧ w.cell? ⟨g, 26, none⟩ = some (.slice m.ea m.el m.ep) ∧ w.cell? ⟨g, 27, none⟩ = some (.slice m.la m.ll m.lp) :=
  ⟨h.box.cell 25, h.box.cell 26, h.box.cell 27⟩

/-- Among them. -/
def hasB (zs : List Int) (v : Int) : Bool := decide (v ∈ zs)
theorem mem_getD {zs : List Int} {v : Int} : v ∈ zs ↔ ∃ m, m < zs.length ∧ zs[m]?.getD 0 = v := by
  constructor
  · intro h
    obtain ⟨m, hm⟩ := List.mem_iff_getElem?.1 h
    exact ⟨m, (List.getElem?_eq_some_iff.1 hm).1, by rw [hm]; rfl⟩
  · rintro ⟨m, hm, e⟩
    rw [List.getElem?_eq_getElem hm] at e
    have e' : zs[m] = v := e
    rw [← e']; exact List.getElem_mem hm
def IxP (zs : List Int) (v : Int) (e : Ending) : Prop := ∃ r : Int, e = .returned (.int .i64 r) ∧ (0 ≤ r ↔ v ∈ zs)
theorem ixp_yes {zs : List Int} {v : Int} {k : Nat} (hk : k < zs.length) (h : zs[k]?.getD 0 = v) : IxP zs v (.returned (.int .i64 (k : Int))) :=
  ⟨(k : Int), rfl, ⟨fun _ => mem_getD.2 ⟨k, hk, h⟩, fun _ => by omega⟩⟩
theorem ixp_no {zs : List Int} {v : Int} (h : ∀ m, m < zs.length → zs[m]?.getD 0 ≠ v) : IxP zs v (.returned (.int .i64 (-1))) :=
  ⟨-1, rfl, ⟨fun e => by omega, fun e => by obtain ⟨m, hm, e'⟩ := mem_getD.1 e; exact absurd e' (h m hm)⟩⟩

set_option maxHeartbeats 400000 in
theorem index_any (a : Option Addr) (cap : Nat) (zs : List Int) (v : Int) (w : World) (hm : zs.length ≤ 17592186043904) (hb : Nums .i64 w a zs) :
    Calls Tryz.prog 211 #[.slice a zs.length cap, .int .i64 v] w fun e w' => IxP zs v e ∧ w' = w := by
  have HB : Hid (Nums .i64 w a zs) := hb
  clear hb
  go_enter Tryz.func211, Tryz.ntmps211
  go_wp2
  go_loopw [8] (fun i wr => ∃ k : Nat, k ≤ zs.length ∧ i = .int .i64 (k : Int) ∧ Hid (∀ m, m < k → zs[m]?.getD 0 ≠ v) ∧ wr = w) (fun i _ => zs.length - (intOf i).toNat)
  case atStart => exact ⟨0, Nat.zero_le _, rfl, fun j hj => absurd hj (Nat.not_lt_zero _), rfl⟩
  case round =>
    obtain ⟨k, hk, rfl, HE, rfl⟩ := hrel
    by_cases hlt : k < zs.length
    · obtain ⟨b, off, rfl, hc⟩ := HB.out k hlt
      obtain ⟨z, hz⟩ : ∃ z, zs[k]?.getD 0 = z := ⟨_, rfl⟩
      rw [hz] at hc
      have HZ : Hid (zs[k]?.getD 0 = z) := hz
      clear hz
      by_cases hv : v = z
      · subst hv
        go_wp2
        go_ret
        exact ⟨ixp_yes hlt HZ.out, rfl⟩
      · have hv' : (v == z) = false := by simpa using hv
        have HE2 : Hid (∀ m, m < k + 1 → zs[m]?.getD 0 ≠ v) := fun m hm e => by
          by_cases em : m = k
          · subst em; rw [HZ.out] at e; exact hv e.symm
          · exact HE.out m (by omega) e
        clear HE hv
        go_wp2
        go_roundw
        case rel => exact ⟨k + 1, by omega, by go_num, HE2, trivial⟩
        case measure => simp [intOf]; omega
    · obtain rfl : k = zs.length := by omega
      go_wp2
      go_ret
      exact ⟨ixp_no HE.out, rfl⟩
set_option maxHeartbeats 400000 in
theorem indexF_any (a : Option Addr) (cap : Nat) (zs : List Int) (v : Int) (w : World) (hm : zs.length ≤ 17592186043904) (hb : Nums .i64 w a zs) :
    Calls Tryz.prog 181 #[.slice a zs.length cap, .int .i64 v] w fun e w' => IxP zs v e ∧ w' = w := by
  have HB : Hid (Nums .i64 w a zs) := hb
  clear hb
  go_enter Tryz.func181, Tryz.ntmps181
  go_wp2
  go_loopw [8] (fun i wr => ∃ k : Nat, k ≤ zs.length ∧ i = .int .i64 (k : Int) ∧ Hid (∀ m, m < k → zs[m]?.getD 0 ≠ v) ∧ wr = w) (fun i _ => zs.length - (intOf i).toNat)
  case atStart => exact ⟨0, Nat.zero_le _, rfl, fun j hj => absurd hj (Nat.not_lt_zero _), rfl⟩
  case round =>
    obtain ⟨k, hk, rfl, HE, rfl⟩ := hrel
    by_cases hlt : k < zs.length
    · obtain ⟨b, off, rfl, hc⟩ := HB.out k hlt
      obtain ⟨z, hz⟩ : ∃ z, zs[k]?.getD 0 = z := ⟨_, rfl⟩
      rw [hz] at hc
      have HZ : Hid (zs[k]?.getD 0 = z) := hz
      clear hz
      by_cases hv : v = z
      · subst hv
        go_wp2
        go_ret
        exact ⟨ixp_yes hlt HZ.out, rfl⟩
      · have hv' : (v == z) = false := by simpa using hv
        have HE2 : Hid (∀ m, m < k + 1 → zs[m]?.getD 0 ≠ v) := fun m hm e => by
          by_cases em : m = k
          · subst em; rw [HZ.out] at e; exact hv e.symm
          · exact HE.out m (by omega) e
        clear HE hv
        go_wp2
        go_roundw
        case rel => exact ⟨k + 1, by omega, by go_num, HE2, trivial⟩
        case measure => simp [intOf]; omega
    · obtain rfl : k = zs.length := by omega
      go_wp2
      go_ret
      exact ⟨ixp_no HE.out, rfl⟩
theorem contains_any (a : Option Addr) (cap : Nat) (zs : List Int) (v : Int) (w : World) (hm : zs.length ≤ 17592186043904) (hb : Nums .i64 w a zs) :
    Calls Tryz.prog 179 #[.slice a zs.length cap, .int .i64 v] w fun e w' => e = .returned (.bool (hasB zs v)) ∧ w' = w := by
  have HB : Hid (Nums .i64 w a zs) := hb
  clear hb
  go_enter Tryz.func179, Tryz.ntmps179
  go_wp2_with fail
  refine (index_any a cap zs v w hm HB.out).mono ?_
  rintro e w1 ⟨⟨r, rfl, hr⟩, rfl⟩
  have HR : Hid (0 ≤ r ↔ v ∈ zs) := hr
  clear hr
  go_wp2
  go_ret
  refine ⟨ret_bool ?_, rfl⟩
  unfold hasB
  rw [Bool.eq_iff_iff]
  simpa using HR.out
theorem containsF_any (a : Option Addr) (cap : Nat) (zs : List Int) (v : Int) (w : World) (hm : zs.length ≤ 17592186043904) (hb : Nums .i64 w a zs) :
    Calls Tryz.prog 146 #[.slice a zs.length cap, .int .i64 v] w fun e w' => e = .returned (.bool (hasB zs v)) ∧ w' = w := by
  have HB : Hid (Nums .i64 w a zs) := hb
  clear hb
  go_enter Tryz.func146, Tryz.ntmps146
  go_wp2_with fail
  refine (indexF_any a cap zs v w hm HB.out).mono ?_
  rintro e w1 ⟨⟨r, rfl, hr⟩, rfl⟩
  have HR : Hid (0 ≤ r ↔ v ∈ zs) := hr
  clear hr
  go_wp2
  go_ret
  refine ⟨ret_bool ?_, rfl⟩
  unfold hasB
  rw [Bool.eq_iff_iff]
  simpa using HR.out

end Go.Proofs.YtgdnofacgfjaeabGreat
