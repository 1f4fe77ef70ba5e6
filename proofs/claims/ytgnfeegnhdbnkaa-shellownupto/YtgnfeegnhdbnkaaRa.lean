import Derived.Test.YtgnfeegnhdbnkaaQ
import Derived.Laws.MakeOwn
namespace Go.Proofs.Ytgnfeegnhdbnkaa
open Go.RowKit Go.Lib
set_option linter.unusedVariables false
set_option linter.unusedSimpArgs false

theorem add_zero (a : Addr) : a.add 0 = a := by
  obtain ⟨b, o, s⟩ := a
  unfold Addr.add
  cases s <;> simp
theorem sliced_0 (a : Option Addr) (h m s : Nat) : sliced a 0 h m s = .slice a h m := by
  unfold sliced
  simp only [Nat.zero_mul, Nat.sub_zero]
  split
  · rfl
  · cases a with
    | none => rfl
    | some x => simp [add_zero]
/-- b[:k]. -/
theorem exec_slT {o : Oper} {a : Act} {w : World} (T E : TypeId) (hT : Try.prog.underlying T = some (.slice (Try.prog.elem T))) (hz : (Try.prog.info? (Try.prog.elem T)).map (·.size) = some 1) (x : Operand) (hi : Option Operand) (ho : o.op = .slice T x none hi none) (sa : Option Addr) (n cap k : Nat) (hx : a.eval x = .slice sa n cap) (hh : hi.map a.eval = some (.int .i64 (k : Int))) (hk : k ≤ cap) : (execOp a.eval o).run Try.prog w = .ok (.value (.slice sa k cap)) w := by
  have hrun : (Instr.sliceAt T (.slice sa n cap) none (some (.int .i64 (k : Int))) none).run Try.prog w = .ok (.slice sa k cap) w := by
    rw [run_sliceAt_slice (P := Try.prog) (w := w) T _ _ _ _ hT, run_slice_h (P := Try.prog) (w := w) T sa n cap hT .i64 (k : Int) (by omega) (by omega)]
    cases hq : Try.prog.info? (Try.prog.elem T) with
    | none => rw [hq] at hz; cases hz
    | some i => simp [sizeOf, typeInfo, hq, sliced_0, Result.andThen]
  simp only [execOp, ho, hx, Option.map_none, hh, Sem.run_bind, hrun, Result.andThen_ok, Sem.run_pure]
theorem exec_slS {o : Oper} {a : Act} {w : World} (x : Operand) (hi : Option Operand) (ho : o.op = .slice 9 x none hi none) (l : List UInt8) (k : Nat) (hx : a.eval x = .string (bs l)) (hh : hi.map a.eval = some (.int .i64 (k : Int))) (hk : k ≤ l.length) : (execOp a.eval o).run Try.prog w = .ok (.value (.string (bs (l.take k)))) w := by
  have hrun : (Instr.sliceAt 9 (.string (bs l)) none (some (.int .i64 (k : Int))) none).run Try.prog w = .ok (.string (bs (l.take k))) w := by
    rw [run_sliceAt_string (P := Try.prog) (w := w) 9 _ _ _ _ U9]
    have := run_slice_string (P := Try.prog) w 9 (bs l) .i64 .i64 0 (k : Int) U9 (by omega) (by omega) (by rw [bs_size]; omega)
    have e : (Instr.slice 9 (.string (bs l)) none (some (.int .i64 (k : Int))) none).run Try.prog w = (Instr.slice 9 (.string (bs l)) (some (.int .i64 0)) (some (.int .i64 (k : Int))) none).run Try.prog w := by
      kernel_rfl
    rw [e, this]
    simp [bs, ByteArray.extract_mk]
  simp only [execOp, ho, hx, Option.map_none, hh, Sem.run_bind, hrun, Result.andThen_ok, Sem.run_pure]
theorem made_u8 (n : Nat) : madeCells (Value.int .u8 0).cells (n * 1) = (List.replicate n (u8V 0)).toArray := by
  apply Array.ext
  · simp [size_madeCells]
  · intro i h1 h2
    simp [madeCells, Value.cells, Nat.mod_one, u8V]
theorem exec_mk {o : Oper} {a : Act} {w : World} (x y : Operand) (ho : o.op = .makeSlice 30 x y) (n : Nat) (hx : a.eval x = .int .i64 (n : Int)) (hy : a.eval y = .int .i64 (n : Int)) (hn : n ≤ 1000000000000) : (execOp a.eval o).run Try.prog w = .ok (.value (.slice (some ⟨w.heap.size, 0, none⟩) n n)) (w.alloc (.cells (List.replicate n (u8V 0)).toArray 5)) := by
  obtain ⟨i0, hi, hz0, hz1, hz2⟩ := info_parts I5
  have h := run_make (P := Try.prog) w 30 5 i0 (.int .u8 0) U30 hi hz0 .i64 .i64 (n : Int) (n : Int) (by omega) (Int.le_refl _) (by rw [hz2]; omega) (by omega)
  rw [Int.toNat_natCast, hz1, made_u8] at h
  simp only [execOp, ho, hx, hy, Sem.run_bind, h, Result.andThen_ok, Sem.run_pure]
theorem size_of {t c : Nat} (hs : (Try.prog.info? t).map (·.size) = some c) (w : World) : (sizeOf t).run Try.prog w = .ok c w := by
  cases hq : Try.prog.info? t with
  | none => rw [hq] at hs; cases hs
  | some i =>
    rw [hq] at hs
    simp at hs
    simp [sizeOf, typeInfo, hq, hs]
theorem src_of {w : World} {a : Option Addr} {l : List UInt8} (h : Nums .u8 w a (l.map bi)) (h0 : 0 < l.length) : ∃ ad, a = some ad ∧ ∀ (j : Nat) v, (l.map u8V)[j]? = some v → w.cell? (ad.add j) = some v := by
  have := Nums.src h (by simpa using h0)
  rw [List.map_map] at this
  exact this
/-- copy(room, b), room made anew. -/
theorem run_cp {w : World} {g N n cap : Nat} {sa : Option Addr} {l : List UInt8} (hn : l.length = n) (hN : n ≤ N) (hb : Box w g 5 (List.replicate N (u8V 0)).toArray) (hs : Nums .u8 w sa (l.map bi)) :
    ∃ w', (∀ ty, (Builtin.copy_ #[30, 30] ty #[.slice (some ⟨g, 0, none⟩) N N, .slice sa n cap]).run Try.prog w = .ok (goInt n) w') ∧ Box w' g 5 (l.map u8V ++ List.replicate (N - n) (u8V 0)).toArray ∧ Kept (Only g) w w' := by
  by_cases h0 : n = 0
  · have hl : l = [] := List.eq_nil_of_length_eq_zero (by omega)
    subst hl
    refine ⟨w, fun ty => ?_, by simpa [h0] using hb, Kept.refl _ _⟩
    have hr := run_copy_none (P := Try.prog) w 30 30 ty 5 (some ⟨g, 0, none⟩) sa N N n cap U30 S5 (by rw [h0]; exact Nat.zero_min _)
    rw [h0] at hr ⊢
    exact hr
  · obtain ⟨ad, rfl, hsrc⟩ := src_of hs (by omega)
    have hf := run_firstCells_some (P := Try.prog) w 1 n ad n cap (l.map u8V) (by simp; omega) hsrc
    have hst := run_storeCells_at g 0 5 (l.map u8V) 0 (List.replicate N (u8V 0)) w hb (by simp; omega) (by intro v hv; obtain ⟨c, _, rfl⟩ := List.mem_map.1 hv; rfl)
    simp only [Nat.add_zero] at hst
    have hp : putL (List.replicate N (u8V 0)) 0 (l.map u8V) = l.map u8V ++ List.replicate (N - n) (u8V 0) := by
      unfold putL
      simp [hn]
    rw [hp] at hst
    have hk' : Nat.min n N = n := Nat.min_eq_left hN
    refine ⟨_, fun ty => ?_, hb.setRow _, Kept.setRow _ _ _⟩
    simp [Builtin.copy_, run_underlying U30, Builtin.lenOf, size_of S5, hk', hf, hst]
theorem exec_cp {o : Oper} {a : Act} {w w' : World} (x y : Operand) (ho : o.op = .call { callee := .builtin .copy, args := #[x, y], argTypes := #[30, 30] }) (vx vy v : Value) (hx : a.eval x = vx) (hy : a.eval y = vy) (hr : ∀ ty, (Builtin.copy_ #[30, 30] ty #[vx, vy]).run Try.prog w = .ok v w') : (execOp a.eval o).run Try.prog w = .ok (.value v) w' := by
  simp [execOp, ho, resolve, invoke, builtin, hx, hy, hr, Result.andThen]
/-- The room: b's bytes, so many marks, so many zeros. -/
def roomL (l : List UInt8) (i : Nat) : List Value := l.map u8V ++ (List.replicate (i - l.length) (u8V 7) ++ List.replicate (l.length + 70 - i) (u8V 0))
theorem roomL_len (l : List UInt8) (i : Nat) (h : l.length ≤ i) (h2 : i ≤ l.length + 70) : (roomL l i).length = l.length + 70 := by
  unfold roomL
  simp
  omega
theorem roomL_set (l : List UInt8) (i : Nat) (h : l.length ≤ i) (h2 : i < l.length + 70) : (roomL l i).set i (u8V 7) = roomL l (i + 1) := by
  unfold roomL
  rw [List.set_append_right _ _ (by simp; omega), List.set_append_right _ _ (by simp)]
  congr 1
  rw [show i + 1 - l.length = (i - l.length) + 1 by omega, List.replicate_succ', List.append_assoc]
  congr 1
  rw [show l.length + 70 - i = (l.length + 70 - (i + 1)) + 1 by omega, List.replicate_succ]
  simp
theorem st_room {w : World} {g : Nat} {l : List UInt8} {i : Nat} (h : l.length ≤ i) (h2 : i < l.length + 70) (hb : Box w g 5 (roomL l i).toArray) : (storeVar 5 ⟨g, 0 + i * 1, none⟩ (.int .u8 7)).run Try.prog w = .ok () (w.setRow g (roomL l (i + 1)).toArray) := by
  have hl := roomL_len l i h (by omega)
  refine run_store_to hb (vs := [.int .u8 7]) (by kernel_rfl) S5 (by simp; omega) (by simp [Value.oneCell']) ?_
  rw [Nat.zero_add, Nat.mul_one, ← roomL_set l i h h2]
  unfold putL
  rw [List.set_eq_take_append_cons_drop, if_pos (by omega)]
  rfl
theorem room_at {w : World} {g : Nat} {l : List UInt8} {i : Nat} (h : l.length ≤ i) (h2 : i < l.length + 70) (hb : Box w g 5 (roomL l (l.length + 70)).toArray) : w.cell? ⟨g, 0 + i * 1, none⟩ = some (.int .u8 7) := by
  rw [hb.cell, Nat.zero_add, Nat.mul_one, List.getElem?_toArray]
  unfold roomL
  rw [List.getElem?_append_right (by rw [List.length_map]; omega), List.getElem?_append_left (by rw [List.length_map, List.length_replicate]; omega), List.getElem?_replicate, if_pos (by rw [List.length_map]; omega)]
  rfl
theorem Box.nums8 {w : World} {g : Nat} {l : List UInt8} {r : List Value} (hb : Box w g 5 (l.map u8V ++ r).toArray) : Nums .u8 w (some ⟨g, 0, none⟩) (l.map bi) := by
  intro i hi
  refine ⟨g, 0, rfl, ?_⟩
  simp at hi
  rw [Nat.zero_add, hb.cell, List.getElem?_toArray]
  simp [List.getElem?_append_left, hi, u8V, bi]
/-- string(b), b what can be read. -/
theorem run_convR {w : World} {n cap : Nat} {sa : Option Addr} {l : List UInt8} (h : Nums .u8 w sa (l.map bi)) (hl : l.length = n) : (convert 30 9 (.slice sa n cap)).run Try.prog w = .ok (.string (bs l)) w := by
  subst hl
  cases sa with
  | none =>
    have : l = [] := by
      cases l with
      | nil => rfl
      | cons c l => obtain ⟨b, o, e, _⟩ := h 0 (by simp); cases e
    subst this
    rw [run_convert_bytes_string w 30 9 5 none _ cap U30 U5 U9]
    rfl
  | some ad =>
    refine run_convert_bytes_back w 30 9 5 ad cap l U30 U5 U9 (fun j hj => ?_)
    obtain ⟨ad', e, hs⟩ := src_of h (by omega)
    cases e
    rw [hs j (u8V (l[j]'hj)) (by simp [hj])]
    rfl
theorem Own.nums8 {w : World} {base cap n : Nat} {a : Option Addr} {vs : List Value} (h : Own 5 1 w base a cap n vs) {l : List UInt8} {r : List Value} (hv : vs = l.map u8V ++ r) : Nums .u8 w a (l.map bi) := by
  subst hv
  rcases h.cases h.1 with ⟨rfl, _, h0⟩ | ⟨g, rfl, _, _, sp, hg, _⟩
  · have := h.1
    intro i hi
    simp at this hi
    omega
  · intro i hi
    refine ⟨g, 0, rfl, ?_⟩
    simp at hi
    rw [Nat.zero_add, cell_of_row w g i _ 5 (0, 0) hg]
    simp [List.getElem?_append_left, hi, u8V, bi]
theorem Nums.take {w : World} {a : Option Addr} {l : List UInt8} (h : Nums .u8 w a (l.map bi)) (k : Nat) : Nums .u8 w a ((l.take k).map bi) := fun i hi => by
  simp at hi
  obtain ⟨b, o, e, hc⟩ := h i (by simp; omega)
  refine ⟨b, o, e, ?_⟩
  rw [hc]
  simp [List.getElem?_take, show i < k by omega]
end Go.Proofs.Ytgnfeegnhdbnkaa
