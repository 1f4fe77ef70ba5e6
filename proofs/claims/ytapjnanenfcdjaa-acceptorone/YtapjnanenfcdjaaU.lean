import Derived.Test.YtapjnanenfcdjaaT
import Derived.Test.YtapjnanenfcdjaaP
import Derived.Maps.AppendAt
import Derived.Great.BuildSlice
namespace Go.Proofs.Ytapjnanenfcdjaa
open Go.RowKit
set_option linter.unusedVariables false
set_option linter.unusedSimpArgs false

/-- Rows of one length, one behind the other. -/
theorem flat_len {n : Nat} : ∀ {l : List (List Value)}, (∀ r ∈ l, r.length = n) → l.flatten.length = l.length * n
  | [], _ => by simp
  | r :: l, h => by
    rw [List.flatten_cons, List.length_append, flat_len (fun x hx => h x (by simp [hx])), h r (by simp), List.length_cons, Nat.succ_mul]; omega
theorem flat_get {n : Nat} : ∀ {l : List (List Value)}, (∀ r ∈ l, r.length = n) → ∀ {k : Nat} {r : List Value}, l[k]? = some r → ∀ {j : Nat} {v : Value}, r[j]? = some v → l.flatten[k * n + j]? = some v
  | [], _, k, r, hk, j, v, hv => by simp at hk
  | r0 :: l, h, 0, r, hk, j, v, hv => by
    simp at hk
    subst hk
    have := (List.getElem?_eq_some_iff.1 hv).1
    rw [List.flatten_cons, Nat.zero_mul, Nat.zero_add, List.getElem?_append_left this]; exact hv
  | r0 :: l, h, k + 1, r, hk, j, v, hv => by
    have e := h r0 (by simp)
    rw [List.flatten_cons, List.getElem?_append_right (by rw [e, Nat.succ_mul]; omega), e, show (k + 1) * n + j - n = k * n + j by rw [Nat.succ_mul]; omega]
    exact flat_get (fun x hx => h x (by simp [hx])) (by simpa using hk) hv
theorem flat_put {n : Nat} {q : List Value} (hq : q.length = n) (sp : List Value) : ∀ {l : List (List Value)}, (∀ r ∈ l, r.length = n) → ∀ {k : Nat}, k < l.length → putL (l.flatten ++ sp) (k * n) q = (l.set k q).flatten ++ sp
  | [], _, k, hk => by simp at hk
  | r0 :: l, h, 0, hk => by
    have e := h r0 (by simp)
    simp [putL, List.flatten_cons, hq, ← e]
  | r0 :: l, h, k + 1, hk => by
    have e := h r0 (by simp)
    have ih := flat_put hq sp (l := l) (fun x hx => h x (by simp [hx])) (k := k) (by simpa using hk)
    unfold putL at ih ⊢
    rw [List.flatten_cons, List.set_cons_succ, List.flatten_cons, List.append_assoc, List.append_assoc, ← ih]
    rw [show (k + 1) * n = r0.length + k * n by rw [Nat.succ_mul, e]; omega]
    rw [List.take_append, List.drop_append, List.take_of_length_le (by omega), List.drop_eq_nil_of_le (by omega)]
    simp [Nat.add_assoc]

/-- A proposal in memory: where its two lists lie. -/
structure Px where
  v : Pv
  pa : Option Addr
  pc : Nat
  aa : Option Addr
  ac : Nat
def Px.cs (x : Px) : List Value := [.int .i64 x.v.b.n, .int .i64 x.v.b.c, .slice x.pa x.v.pr.length x.pc, .int .i64 x.v.h.n, .int .i64 x.v.h.c] ++ (x.v.c.cs ++ [.bool x.v.ch, .slice x.aa x.v.ac.length x.ac])
def Px.cells (x : Px) : Array Value := x.cs.toArray
theorem Px.len (x : Px) : x.cs.length = 16 := rfl
theorem Px.one (x : Px) : x.cells.all (·.oneCell') = true := by simp [Px.cells, Px.cs, Cm.cs, Value.oneCell']
def prZ : Px := ⟨⟨sZ, [], sZ, cZ, false, []⟩, none, 0, none, 0⟩
theorem zero87 : (Try.prog.info? 87).bind (·.zero) = some (.agg prZ.cells) := by kernel_rfl
theorem Try.und87 : Try.prog.underlying 87 = some (.struct (Try.prog.fieldsOf 87)) := by kernel_rfl
theorem Try.size87 : (Try.prog.info? 87).map (·.size) = some 16 := by kernel_rfl
theorem Try.und66 : Try.prog.underlying 66 = some (.slice 29) := by kernel_rfl
theorem Try.und67 : Try.prog.underlying 67 = some (.slice 87) := by kernel_rfl
theorem Try.und33 : Try.prog.underlying 33 = some (.slice 3) := by kernel_rfl
theorem Try.und66e : Try.prog.underlying 66 = some (.slice (Try.prog.elem 66)) := by kernel_rfl
theorem Try.und67e : Try.prog.underlying 67 = some (.slice (Try.prog.elem 67)) := by kernel_rfl
theorem Try.size66e : (Try.prog.info? (Try.prog.elem 66)).map (·.size) = some 14 := by kernel_rfl
theorem Try.size67e : (Try.prog.info? (Try.prog.elem 67)).map (·.size) = some 16 := by kernel_rfl
theorem Try.info3 : (Try.prog.info? 3).map (fun i => (i.zero, i.size, i.bytes)) = some (some (.int .i64 0), 1, 8) := by kernel_rfl
theorem Try.info87 : (Try.prog.info? 87).map (fun i => (i.zero, i.size, i.bytes)) = some (some (.agg prZ.cells), 16, 168) := by kernel_rfl
theorem Try.size33 : (Try.prog.info? 33).map (·.size) = some 1 := by kernel_rfl
theorem Try.size67 : (Try.prog.info? 67).map (·.size) = some 1 := by kernel_rfl
theorem Try.size4 : (Try.prog.info? 4).map (·.size) = some 1 := by kernel_rfl
theorem Px.partB (x : Px) : Part x.cs 0 [.int .i64 x.v.b.n, .int .i64 x.v.b.c] := fun j v h => by
  match j, h with
  | 0, h => exact h
  | 1, h => exact h
theorem Px.partH (x : Px) : Part x.cs 3 [.int .i64 x.v.h.n, .int .i64 x.v.h.c] := fun j v h => by
  match j, h with
  | 0, h => exact h
  | 1, h => exact h
theorem Px.partC (x : Px) : Part x.cs 5 x.v.c.cs := Part.mid _ _ _ rfl
theorem load_P {w : World} {g : Nat} {x : Px} (hb : Box w g 87 x.cells) : (loadVar 87 ⟨g, 0, none⟩).run Try.prog w = .ok (.agg x.cells) w := run_load_part hb (Part.all _) Try.und87 rfl Try.size87
theorem load_PC {w : World} {g : Nat} {x : Px} (hb : Box w g 87 x.cells) : (loadVar 27 ⟨g, 5, none⟩).run Try.prog w = .ok (.agg x.v.c.cells) w := run_load_part hb x.partC Try.und27 rfl Try.size27
theorem store_P {w : World} {g : Nat} {x : Px} {cur : Array Value} (hb : Box w g 87 cur) (hl : cur.size = 16) : (storeVar 87 ⟨g, 0, none⟩ (.agg x.cells)).run Try.prog w = .ok () (w.setRow g x.cells) :=
  run_storeVar_row w g 87 87 cur x.cells hb Try.size87 (by rw [hl]; rfl) x.one
theorem list_one {x : List Value} {l : List Value} (h : l.toArray.all (·.oneCell') = true) : ∀ v ∈ l, v.oneCell' = true := by
  intro v hv
  simp at h
  exact h v hv

/-- A play in memory. -/
def playC (f : Nat) (bI m : Nat) (la : Option Addr) (ln lc : Nat) (d : Cm) : List Value := [.int .i64 f, .slice (some ⟨bI, 0, none⟩) m m, .slice la ln lc] ++ (d.cs ++ [])
theorem playC_len (f bI m : Nat) (la : Option Addr) (ln lc : Nat) (d : Cm) : (playC f bI m la ln lc d).length = 12 := rfl
theorem playC_partD (f bI m : Nat) (la : Option Addr) (ln lc : Nat) (d : Cm) : Part (playC f bI m la ln lc d) 3 d.cs := Part.mid _ _ _ rfl
abbrev ints (l : List Int) : List Value := l.map (Value.int .i64)
structure PM (w0 w : World) (p bI : Nat) (la : Option Addr) (lc : Nat) (st : PS) (xs : List Px) (hole : Option (Nat × Bool)) : Prop where
  box : Box w p 69 (playC st.f bI st.is.length la xs.length lc st.dec).toArray
  ins : Box w bI 29 (st.is.map In.cs).flatten.toArray
  vals : xs.map Px.v = st.ls
  row : Own 87 16 w w0.heap.size la lc xs.length (xs.map Px.cs).flatten
  pown : ∀ (k : Nat) (x : Px), xs[k]? = some x → hole ≠ some (k, false) → Own 3 1 w w0.heap.size x.pa x.pc x.v.pr.length (ints x.v.pr)
  aown : ∀ (k : Nat) (x : Px), xs[k]? = some x → hole ≠ some (k, true) → Own 3 1 w w0.heap.size x.aa x.ac x.v.ac.length (ints x.v.ac)
  ap : ∀ (i j : Nat) (x y : Px), xs[i]? = some x → xs[j]? = some y → ∀ g, (At x.pa g → At y.pa g → i = j) ∧ (At x.aa g → At y.aa g → i = j) ∧ (At x.pa g → ¬ At y.aa g)
  np : w0.heap.size ≤ p
  ni : w0.heap.size ≤ bI
theorem PM.no {w0 w w' : World} {p bI : Nat} {la : Option Addr} {lc : Nat} {st : PS} {xs : List Px} {hole : Option (Nat × Bool)} (h : PM w0 w p bI la lc st xs hole) (hk : Kept No w w') : PM w0 w' p bI la lc st xs hole :=
  ⟨h.box.kept hk (fun e => e), h.ins.kept hk (fun e => e), h.vals, h.row.no hk, fun k x hx hh => (h.pown k x hx hh).no hk, fun k x hx hh => (h.aown k x hx hh).no hk, h.ap, h.np, h.ni⟩

/-- An append, as the operation's own run. -/
theorem info_parts {t : TypeId} {z : Option Value} {s b : Nat} (h : (Try.prog.info? t).map (fun i => (i.zero, i.size, i.bytes)) = some (z, s, b)) : ∃ i, Try.prog.info? t = some i ∧ i.zero = z ∧ i.size = s ∧ i.bytes = b := by
  cases hi : Try.prog.info? t with
  | none => rw [hi] at h; cases h
  | some i => rw [hi] at h; simp at h; exact ⟨i, rfl, h.1, h.2.1, h.2.2⟩
theorem exec_append {o : Oper} {a : Act} {w : World} (s x : Operand) (T E : TypeId) (c by' : Nat) (z : Value) (ht : Try.prog.underlying T = some (.slice E))
    (hinf : (Try.prog.info? E).map (fun i => (i.zero, i.size, i.bytes)) = some (some z, c, by')) (hzc : z.cells.size = c) (hc0 : 0 < c) (ho : o.op = .call { callee := Callee.builtin Builtin.append, args := #[s, x], argTypes := #[T, T] })
    (base n cap : Nat) (sa : Option Addr) (vs : List Value) (hs : a.eval s = .slice sa n cap) (hown : Own E c w base sa cap n vs) (ad : Addr) (cc : Nat) (news : List Value) (hx : a.eval x = .slice (some ad) 1 cc) (hl : news.length = c) (hnews : ∀ j u, news[j]? = some u → w.cell? (ad.add j) = some u) (h1 : ∀ u ∈ news, u.oneCell' = true) (hbd : (n + 1) * by' ≤ 140737488355328) (hb63 : n + 1 ≤ 1000000) (hbase : base ≤ w.heap.size) :
    ∃ g' cap' w', (execOp a.eval o).run Try.prog w = .ok (.value (.slice (some ⟨g', 0, none⟩) (n + 1) cap')) w' ∧ Own E c w' base (some ⟨g', 0, none⟩) cap' (n + 1) (vs ++ news) ∧ Kept (At sa) w w' ∧ (At sa g' ∨ g' = w.heap.size) := by
  obtain ⟨i0, hi, hz0, hz1, hz2⟩ := info_parts hinf
  obtain ⟨v', w', hrun, r1, r2, _, r4⟩ := run_append_own_at (P := Try.prog) (w := w) base T o.type E i0 z c by' ht hi hz0 hz1 hz2 hzc hc0 (.slice sa n cap) n vs hown ad 1 cc news (by omega) hnews h1 (by unfold maxLen; omega) hbd hbase
  have hk : Kept (At sa) w w' := (Kept.refl (At sa) w).grown r2 (fun k e hk => by
    cases sa with
    | none => cases e
    | some ad' => simp only [Value.ownBlock, Option.some.injEq] at e; exact ⟨ad', rfl, e⟩)
  rcases r1.2 with ⟨e, h0⟩ | ⟨g, cap', cur, e, _⟩
  · omega
  · subst e
    have h4 : At sa g ∨ g = w.heap.size := by
      rcases r4 with e | e
      · left
        cases sa with
        | none => simp [Value.ownBlock] at e
        | some ad' => simp only [Value.ownBlock, Option.some.injEq] at e; exact ⟨ad', rfl, e.symm⟩
      · right; simpa [Value.ownBlock] using e
    refine ⟨g, cap', w', ?_, r1, hk, h4⟩
    simp [execOp, ho, resolve, invoke, builtin, hs, hx, hrun, Result.andThen]
/-- A slice of one, made anew. -/
theorem exec_slice1 {o : Oper} {a : Act} {w : World} (t e : TypeId) (parts : Array (Nat × Operand)) (ho : o.op = .buildSlice t 1 parts) (cells : Array Value) (hrun : (Instr.buildSlice t 1 (parts.map fun (i, x) => (i, a.eval x))).run Try.prog w = .ok (.slice (some ⟨w.heap.size, 0, none⟩) 1 1) (w.alloc (.cells cells e))) : (execOp a.eval o).run Try.prog w = .ok (.value (.slice (some ⟨w.heap.size, 0, none⟩) 1 1)) (w.alloc (.cells cells e)) := by
  simp only [execOp, ho, Sem.run_bind, hrun, Result.andThen_ok, Sem.run_pure]

end Go.Proofs.Ytapjnanenfcdjaa
