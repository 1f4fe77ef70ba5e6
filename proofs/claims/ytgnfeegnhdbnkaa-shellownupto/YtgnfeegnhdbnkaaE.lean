import Derived.Test.YtgnfeegnhdbnkaaCc
namespace Go.Proofs.Ytgnfeegnhdbnkaa
open Go.RowKit Go.Lib
set_option linter.unusedVariables false
set_option linter.unusedSimpArgs false

theorem run_store_to {w : World} {g off : Nat} {T ty : TypeId} {cur vs new : List Value} {v : Value} (hb : Box w g T cur.toArray) (hv : v.cells = vs.toArray) (hi : (Try.prog.info? ty).map (·.size) = some vs.length)
    (hl : off + vs.length ≤ cur.length) (h1 : ∀ x ∈ vs, x.oneCell' = true) (hn : putL cur off vs = new) : (storeVar ty ⟨g, off, none⟩ v).run Try.prog w = .ok () (w.setRow g new.toArray) := by
  rw [run_store_at hb hv hi hl h1, hn]
theorem exec_built {o : Oper} {a : Act} {w w' : World} {v : Value} (h : (execOp a.eval o).run Try.prog w = .ok (.value v) w') : (execOp a.eval o).run Try.prog w = .ok (.value v) w' := h
theorem box_news {w : World} {g : Nat} {t : TypeId} {vs : List Value} (h : Box w g t vs.toArray) : ∀ (j : Nat) u, vs[j]? = some u → w.cell? ((⟨g, 0, none⟩ : Addr).add j) = some u := fun j u hu => by
  rw [addr_add, Nat.zero_add, h.cell]
  simpa using hu
theorem exec_sl {o : Oper} {a : Act} {w : World} (x : Operand) (lo hi : Option Operand) (ho : o.op = .slice 9 x lo hi none) (vx v : Value) (vl vh : Option Value) (hx : a.eval x = vx) (hl : lo.map a.eval = vl) (hh : hi.map a.eval = vh)
    (hrun : (Instr.slice 9 vx vl vh none).run Try.prog w = .ok v w) : (execOp a.eval o).run Try.prog w = .ok (.value v) w := by
  simp [execOp, ho, hx, hl, hh, Sem.run_bind, run_sliceAt_string (P := Try.prog) (w := w) 9 vx vl vh none U9, hrun, Result.andThen]
theorem b_eq21 (a b : Int) (w : World) : (binOp .eql 21 (.int .i32 a) (.int .i32 b)).run Try.prog w = .ok (.bool (a == b)) w := by kernel_rfl
theorem b_eq38 (a b : Int) (w : World) : (binOp .eql 38 (.int .i64 a) (.int .i64 b)).run Try.prog w = .ok (.bool (a == b)) w := by kernel_rfl
theorem b_eq3 (a b : Int) (w : World) : (binOp .eql 3 (.int .i64 a) (.int .i64 b)).run Try.prog w = .ok (.bool (a == b)) w := by kernel_rfl
theorem b_eq5 (a b : Int) (w : World) : (binOp .eql 5 (.int .u8 a) (.int .u8 b)).run Try.prog w = .ok (.bool (a == b)) w := by kernel_rfl
theorem b_add (x y z : Int) (h : IntKind.i64.wrap (x + y) = z) (w : World) : (binOp .add 3 (.int .i64 x) (.int .i64 y)).run Try.prog w = .ok (.int .i64 z) w := by rw [← h]; kernel_rfl
theorem b_sub (x y z : Int) (h : IntKind.i64.wrap (x - y) = z) (w : World) : (binOp .sub 3 (.int .i64 x) (.int .i64 y)).run Try.prog w = .ok (.int .i64 z) w := by rw [← h]; kernel_rfl
theorem b_lss (x y : Int) (w : World) : (binOp .lss 3 (.int .i64 x) (.int .i64 y)).run Try.prog w = .ok (.bool (decide (x < y))) w := by kernel_rfl
theorem wrap_id (x : Int) (h0 : -9223372036854775808 ≤ x) (h1 : x ≤ 9223372036854775807) : IntKind.i64.wrap x = x := by
  unfold IntKind.wrap
  simp [IntKind.bits, IntKind.signed] 
  omega
theorem b_add1 (i : Nat) (h : i ≤ 140737488355328) (w : World) : (binOp .add 3 (.int .i64 (i : Int)) (.int .i64 1)).run Try.prog w = .ok (.int .i64 ((i + 1 : Nat) : Int)) w := b_add _ _ _ (by rw [wrap_id _ (by omega) (by omega)]; omega) w
theorem b_sub1 (i : Nat) (h : i < 140737488355328) (w : World) : (binOp .sub 3 (.int .i64 ((i + 1 : Nat) : Int)) (.int .i64 1)).run Try.prog w = .ok (.int .i64 (i : Int)) w := b_sub _ _ _ (by rw [wrap_id _ (by omega) (by omega)]; omega) w
/-- What the cutter may write: its block g, and what lies from n on. -/
def Sg (n g : Nat) : Nat → Prop := fun k => k = g ∨ n ≤ k
/-- The cutter in memory. -/
structure Cut (n0 : Nat) (w : World) (g : Nat) (l : List UInt8) (s : Cs) (wa : Option Addr) (wc : Nat) (ba : Option Addr) (bc : Nat) : Prop where
  box : Box w g 40 #[strV l, .slice wa s.ws.length wc, .int .i64 (s.pl : Int), .int .i64 (s.fr : Int), .slice ba s.bt.length bc]
  hw : Own 9 1 w n0 wa wc s.ws.length (s.ws.map strV)
  hb : Own 5 1 w n0 ba bc s.bt.length (s.bt.map u8V)
  hn : n0 ≤ w.heap.size
def CutA (n0 : Nat) (w : World) (g : Nat) (l : List UInt8) (s : Cs) : Prop := ∃ wa wc ba bc, Cut n0 w g l s wa wc ba bc
theorem CutA.of {n0 : Nat} {w : World} {g : Nat} {l : List UInt8} {wa ba : Option Addr} {wc bc n m : Nat} {vs us : List Value} {pl fr : Int} (s : Cs) (hB : Box w g 40 #[strV l, .slice wa n wc, .int .i64 pl, .int .i64 fr, .slice ba m bc]) (hw : Own 9 1 w n0 wa wc n vs) (hb : Own 5 1 w n0 ba bc m us) (hn : n0 ≤ w.heap.size)
    (h1 : n = s.ws.length) (h2 : vs = s.ws.map strV) (h3 : pl = (s.pl : Int)) (h4 : fr = (s.fr : Int)) (h5 : m = s.bt.length) (h6 : us = s.bt.map u8V) : CutA n0 w g l s := by
  subst h1 h2 h3 h4 h5 h6
  exact ⟨wa, wc, ba, bc, hB, hw, hb, hn⟩
theorem CutA.no {n0 : Nat} {w w' : World} {g : Nat} {l : List UInt8} {s : Cs} (h : CutA n0 w g l s) (hk : Kept No w w') : CutA n0 w' g l s := by
  obtain ⟨wa, wc, ba, bc, h⟩ := h
  exact ⟨wa, wc, ba, bc, h.box.kept hk (fun e => e), h.hw.no hk, h.hb.no hk, Nat.le_trans h.hn hk.size⟩
theorem Z40 : (Try.prog.info? 40).bind (·.zero) = some (.agg #[.string ⟨#[]⟩, .slice none 0 0, .int .i64 0, .int .i64 0, .slice none 0 0]) := by kernel_rfl
theorem Z46 : (Try.prog.info? 46).bind (·.zero) = some (.agg #[.int .i64 0, .slice none 0 0, .slice none 0 0, .int .i64 0, .bool false]) := by kernel_rfl
theorem Own.set1 {t : TypeId} {w : World} {base : Nat} {a : Option Addr} {cap n : Nat} {vs : List Value} (h : Own t 1 w base a cap n vs) {i g : Nat} (hi : i < n) (ha : a = some ⟨g, 0, none⟩) {v : Value} (hv : v.cells = #[v]) (h1 : v.oneCell' = true) (hz : (Try.prog.info? t).map (·.size) = some 1) :
    ∃ cs', (storeVar t ⟨g, i, none⟩ v).run Try.prog w = .ok () (w.setRow g cs') ∧ Own t 1 (w.setRow g cs') base a cap n (vs.set i v) := by
  subst ha
  obtain ⟨hl, hr⟩ := h
  rcases hr with ⟨hv2, hn⟩ | ⟨g', cap', cur, hv2, hb, hg, hle, hm, hs, ht⟩
  · omega
  · simp only [Value.slice.injEq, Option.some.injEq, Addr.mk.injEq, and_true, true_and] at hv2
    obtain ⟨rfl, rfl⟩ := hv2
    obtain ⟨cur, rfl⟩ : ∃ l : List Value, cur = l.toArray := ⟨cur.toList, by simp⟩
    have hbox : Box w g t cur.toArray := hg
    have hs' : cur.length = cap := by simpa using hs
    have ht' : cur.take n = vs := by simpa using ht
    have hp : putL cur i [v] = cur.set i v := by
      unfold putL
      rw [List.set_eq_take_append_cons_drop, if_pos (by omega)]
      rfl
    refine ⟨(cur.set i v).toArray, run_store_to hbox (vs := [v]) (by rw [hv]) (by rw [hz]; rfl) (by simp; omega) (by simpa using h1) hp, by simpa using hl, .inr ⟨g, cap, (cur.set i v).toArray, rfl, hb, hbox.setRow _, hle, hm, by simpa using hs', ?_⟩⟩
    simp only [Nat.mul_one]
    rw [← ht', List.take_set]
end Go.Proofs.Ytgnfeegnhdbnkaa
