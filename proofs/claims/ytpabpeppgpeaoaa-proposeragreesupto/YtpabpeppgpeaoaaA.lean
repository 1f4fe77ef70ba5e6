import Derived.Test.YtpabpeppgpeaoaaGu
import Derived.Test.YtpabpeppgpeaoaaGv
import Derived.Laws.Rows
import Derived.Laws.Tables
import Derived.Laws.StructEq
import Derived.Deep.Cut
import Derived.Deep.LoopGhost
import Derived.Deep.RegionHeld3
namespace Go.Proofs.Ytpabpeppgpeaoaa
open Go.RowKit
set_option linter.unusedVariables false
set_option linter.unusedSimpArgs false

/-- A stamp, a command, an instance, and what a server answers. -/
structure Sp where
  n : Int
  c : Int
structure Cm where
  k : Int
  cl : Int
  op : Int
  nm : ByteArray
  f0 : Int
  f1 : Int
  g0 : Int
  g1 : Int
  sz : Int
structure In where
  p : Sp
  a : Sp
  c : Cm
  d : Bool
structure Mg where
  k : Int
  s : Sp
  h : Sp
  c : Cm
def sZ : Sp := ⟨0, 0⟩
def cZ : Cm := ⟨0, 0, 0, ⟨#[]⟩, 0, 0, 0, 0, 0⟩
def iZ : In := ⟨sZ, sZ, cZ, false⟩
instance : Inhabited In := ⟨iZ⟩
def Sp.cs (s : Sp) : List Value := [.int .i64 s.n, .int .i64 s.c]
def Cm.cs (c : Cm) : List Value := [.int .i64 c.k, .int .i64 c.cl, .int .i64 c.op, .string c.nm, .int .i64 c.f0, .int .i64 c.f1, .int .i64 c.g0, .int .i64 c.g1, .int .i64 c.sz]
def In.cs (i : In) : List Value := [.int .i64 i.p.n, .int .i64 i.p.c, .int .i64 i.a.n, .int .i64 i.a.c] ++ (i.c.cs ++ [.bool i.d])
def Mg.cs (m : Mg) : List Value := [.int .i64 m.k, .bool false, .int .i64 0, .bool false, .int .i64 0, .int .i64 0, .int .i64 0, .int .i64 0, .int .i64 0, .int .i64 0, .int .i64 0, .int .i64 m.s.n, .int .i64 m.s.c, .int .i64 m.h.n, .int .i64 m.h.c, .slice none 0 0] ++ (m.c.cs ++ [.int .i64 0, .slice none 0 0, .slice none 0 0, .slice none 0 0, .bool false])
def Cm.cells (c : Cm) : Array Value := c.cs.toArray
def In.cells (i : In) : Array Value := i.cs.toArray
def Mg.cells (m : Mg) : Array Value := m.cs.toArray
theorem Cm.size (c : Cm) : c.cells.size = 9 := rfl
theorem In.size (i : In) : i.cells.size = 14 := rfl
theorem Mg.size (m : Mg) : m.cells.size = 30 := rfl
theorem Cm.len (c : Cm) : c.cs.length = 9 := rfl
theorem In.len (i : In) : i.cs.length = 14 := rfl
theorem Mg.len (m : Mg) : m.cs.length = 30 := rfl
theorem Cm.one (c : Cm) : c.cells.all (·.oneCell') = true := by simp [Cm.cells, Cm.cs, Value.oneCell']
theorem In.one (i : In) : i.cells.all (·.oneCell') = true := by simp [In.cells, In.cs, Cm.cs, Value.oneCell']
theorem Mg.one (m : Mg) : m.cells.all (·.oneCell') = true := by simp [Mg.cells, Mg.cs, Cm.cs, Value.oneCell']

/-- What stands within a row from a place on. -/
def Part (cs : List Value) (off : Nat) (sub : List Value) : Prop := ∀ (j : Nat) v, sub[j]? = some v → cs[off + j]? = some v
theorem Part.all (cs : List Value) : Part cs 0 cs := fun j v h => by rwa [Nat.zero_add]
theorem Part.mid (a b c : List Value) {n : Nat} (hn : a.length = n) : Part (a ++ (b ++ c)) n b := fun j v h => by
  have hj := (List.getElem?_eq_some_iff.1 h).1
  rw [List.getElem?_append_right (by omega), show n + j - a.length = j by omega, List.getElem?_append_left hj, h]
theorem Part.trans {a b c : List Value} {n m : Nat} (h : Part a n b) (k : Part b m c) : Part a (n + m) c := fun j v e => by
  rw [Nat.add_assoc]; exact h _ _ (k _ _ e)
theorem In.partC (i : In) : Part i.cs 4 i.c.cs := Part.mid _ _ _ rfl
theorem Mg.partC (m : Mg) : Part m.cs 16 m.c.cs := Part.mid _ _ _ rfl

theorem Try.und39 : Try.prog.underlying 39 = some (.struct (Try.prog.fieldsOf 39)) := by kernel_rfl
theorem Try.und26 : Try.prog.underlying 26 = some (.struct (Try.prog.fieldsOf 26)) := by kernel_rfl
theorem Try.und28 : Try.prog.underlying 28 = some (.struct (Try.prog.fieldsOf 28)) := by kernel_rfl
theorem Try.und142 : Try.prog.underlying 142 = some (.struct (Try.prog.fieldsOf 142)) := by kernel_rfl
theorem Try.und47 : Try.prog.underlying 47 = some (.struct (Try.prog.fieldsOf 47)) := by kernel_rfl
theorem Try.size39 : (Try.prog.info? 39).map (·.size) = some 2 := by kernel_rfl
theorem Try.size28 : (Try.prog.info? 28).map (·.size) = some 9 := by kernel_rfl
theorem Try.size47 : (Try.prog.info? 47).map (·.size) = some 30 := by kernel_rfl
theorem Try.und4 : Try.prog.underlying 4 = some .bool := by kernel_rfl
theorem Try.und9 : Try.prog.underlying 9 = some .string := by kernel_rfl

/-- A row is read out of a block. -/
theorem run_load_part {w : World} {g off : Nat} {T t : TypeId} {cs sub : List Value} {d : TypeDesc} (hb : Box w g T cs.toArray) (hp : Part cs off sub)
    (hu : Try.prog.underlying t = some d) (hd : (match d with | .struct _ | .array _ _ => true | _ => false) = true) (hi : (Try.prog.info? t).map (·.size) = some sub.length) :
    (loadVar t ⟨g, off, none⟩).run Try.prog w = .ok (.agg sub.toArray) w := by
  have hl : (loadCells ⟨g, off, none⟩ sub.length).run Try.prog w = .ok sub.toArray w :=
    run_loadCells_list (P := Try.prog) w ⟨g, off, none⟩ sub (fun j v hv => by
      rw [addr_add, hb.cell, List.getElem?_toArray]
      exact hp j v hv)
  cases hq : Try.prog.info? t with
  | none => simp [hq] at hi
  | some i =>
    have hs : i.size = sub.length := by simpa [hq] using hi
    have hagg : (isAgg t).run Try.prog w = .ok true w := by
      unfold isAgg
      rw [Sem.run_bind, run_underlying hu w]
      cases d <;> simp_all
    simp [loadVar, Sem.run_bind, hagg, sizeOf, typeInfo, hq, hs, hl]
theorem load_C {w : World} {g : Nat} {c : Cm} (hb : Box w g 28 c.cells) : (loadVar 28 ⟨g, 0, none⟩).run Try.prog w = .ok (.agg c.cells) w :=
  run_load_part hb (Part.all _) Try.und28 rfl Try.size28
/-- A row is laid into a block from a place on. -/
def putL (l : List Value) (k : Nat) (vs : List Value) : List Value := l.take k ++ (vs ++ l.drop (k + vs.length))
theorem run_storeCells_at (g off : Nat) (t : TypeId) : ∀ (vs : List Value) (i : Nat) (cur : List Value) (w : World), Box w g t cur.toArray → off + i + vs.length ≤ cur.length → (∀ v ∈ vs, v.oneCell' = true) →
    (storeCells ⟨g, off, none⟩ vs i).run Try.prog w = .ok () (w.setRow g (putL cur (off + i) vs).toArray)
  | [], i, cur, w, hg, hl, _ => by
    have e : putL cur (off + i) [] = cur := by simp [putL]
    rw [e]
    have hlt : g < w.heap.size := hg.lt
    have hv : w.heap[g] = .cells cur.toArray t (0, 0) := (Array.getElem?_eq_some_iff.1 hg).2
    simp only [storeCells]
    show Result.ok () w = _
    congr 1
    unfold World.setRow
    cases w with
    | mk heap tape drawn os output =>
      congr 1
      apply Array.ext
      · simp
      · intro k h1 h2
        simp only [Array.getElem_modify]
        split
        · rename_i hk; subst hk; simp at hv; simp [hv]
        · rfl
  | v :: rest, i, cur, w, hg, hl, h1 => by
    simp only [List.length_cons] at hl
    have hi : off + i < cur.length := by omega
    have hcell : w.cell? ⟨g, off + i, none⟩ = some cur[off + i] := by rw [hg.cell, List.getElem?_toArray, List.getElem?_eq_getElem hi]
    have hst : (store ((⟨g, off, none⟩ : Addr).add i) v).run Try.prog w = .ok () (w.setRow g (cur.set (off + i) v).toArray) := by
      rw [addr_add, run_store Try.prog w _ v _ (h1 v (by simp)), hcell]
      have := setCell_eq_setRow w g (off + i) cur.toArray t (0, 0) v hg
      simp only [List.setIfInBounds_toArray] at this
      simp [hg.frozen, this]
    have hb2 : Box (w.setRow g (cur.set (off + i) v).toArray) g t (cur.set (off + i) v).toArray := setRow_heap w g _ _ t _ hg
    have ih := run_storeCells_at g off t rest (i + 1) (cur.set (off + i) v) (w.setRow g (cur.set (off + i) v).toArray) hb2 (by simp; omega) (fun x hx => h1 x (by simp [hx]))
    simp only [storeCells, Sem.run_bind, hst, Result.andThen_ok, ih, setRow_setRow]
    congr 3
    unfold putL
    apply List.ext_getElem?
    intro k
    simp only [List.getElem?_append, List.length_take, List.length_set, List.getElem?_take, List.getElem?_set, List.getElem?_drop, List.length_cons]
    by_cases hk : k < off + i
    · have q1 : min (off + (i + 1)) cur.length = off + (i + 1) := by omega
      have q2 : min (off + i) cur.length = off + i := by omega
      simp [q1, q2, hk, show k < off + (i + 1) by omega, show off + i ≠ k by omega]
    · have q1 : min (off + (i + 1)) cur.length = off + (i + 1) := by omega
      have q2 : min (off + i) cur.length = off + i := by omega
      by_cases hk2 : k = off + i
      · subst hk2
        simp [q1, q2, hi, show off + i < off + (i + 1) by omega]
      · simp only [q1, q2, hk, show ¬ k < off + (i + 1) by omega, if_false]
        have e1 : k - (off + i) = (k - (off + (i + 1))) + 1 := by omega
        rw [e1]
        simp only [List.getElem?_cons_succ]
        by_cases hk3 : k - (off + (i + 1)) < rest.length
        · simp [hk3]
        · have e2 : off + (i + 1) + rest.length + (k - (off + (i + 1)) - rest.length) = off + i + (rest.length + 1) + (k - (off + (i + 1)) - rest.length) := by omega
          have e3 : off + i ≠ off + (i + 1) + rest.length + (k - (off + (i + 1)) - rest.length) := by omega
          have e4 : k - (off + (i + 1)) + 1 - (rest.length + 1) = k - (off + (i + 1)) - rest.length := by omega
          simp [hk3, e3, e4, e2]
          intro h
          omega
theorem run_store_at {w : World} {g off : Nat} {T ty : TypeId} {cur vs : List Value} {v : Value} (hb : Box w g T cur.toArray) (hv : v.cells = vs.toArray) (hi : (Try.prog.info? ty).map (·.size) = some vs.length)
    (hl : off + vs.length ≤ cur.length) (h1 : ∀ x ∈ vs, x.oneCell' = true) : (storeVar ty ⟨g, off, none⟩ v).run Try.prog w = .ok () (w.setRow g (putL cur off vs).toArray) := by
  have := run_storeCells_at g off T vs 0 cur w hb (by omega) h1
  cases hq : Try.prog.info? ty with
  | none => simp [hq] at hi
  | some i =>
    have hs : vs.length = i.size := by simp [hq] at hi; omega
    simp only [Nat.add_zero] at this
    simp [storeVar, sizeOf, typeInfo, hq, hv, hs, this]
theorem store_C {w : World} {g : Nat} {c : Cm} {cur : Array Value} (hb : Box w g 28 cur) (hl : cur.size = 9) : (storeVar 28 ⟨g, 0, none⟩ (.agg c.cells)).run Try.prog w = .ok () (w.setRow g c.cells) :=
  run_storeVar_row w g 28 28 cur c.cells hb Try.size28 (by rw [hl]; rfl) c.one

theorem Box.setRow {w : World} {g : Nat} {t : TypeId} {old : Array Value} (h : Box w g t old) (cs : Array Value) : Box (w.setRow g cs) g t cs := setRow_heap w g old cs t (0, 0) h
theorem Kept.setRow (w : World) (g : Nat) (cs : Array Value) : Kept (Only g) w (w.setRow g cs) :=
  ⟨rfl, rfl, rfl, by simp [World.setRow], fun k _ hk => setRow_other w g k cs hk⟩
theorem Box.rowNe {w : World} {g g' : Nat} {t : TypeId} {cs : Array Value} (h : Box w g t cs) (hne : g ≠ g') (cs' : Array Value) : Box (w.setRow g' cs') g t cs := h.kept (Kept.setRow _ _ _) (fun e => hne e)
/-- A row laid into a block that is new since then. -/
theorem Kept.newRow {a w : World} (h : Kept No a w) {g : Nat} (hg : a.heap.size ≤ g) (cs : Array Value) : Kept No a (w.setRow g cs) :=
  h.trans (Kept.setRow _ _ _) (fun _ e => e) (fun i hi e => by have : i = g := e; omega)
theorem box_ne {w : World} {g g' : Nat} {t t' : TypeId} {cs cs' : Array Value} (h : Box w g t cs) (h' : Box w g' t' cs') (ht : t ≠ t') : g ≠ g' := by
  rintro rfl
  unfold Box at h h'
  rw [h] at h'
  simp at h'
  exact ht h'.2

/-- Like, by all that is in them. -/
def eqS (a b : Sp) : Bool := a.n == b.n && a.c == b.c
def eqC (a b : Cm) : Bool := a.k == b.k && (a.cl == b.cl && (a.op == b.op && (a.nm.toList == b.nm.toList && ((a.f0 == b.f0 && a.f1 == b.f1) && ((a.g0 == b.g0 && a.g1 == b.g1) && a.sz == b.sz)))))
def eqI (a b : In) : Bool := eqS a.p b.p && (eqS a.a b.a && (eqC a.c b.c && a.d == b.d))
theorem eqS_refl (a : Sp) : eqS a a = true := by simp [eqS]
theorem eqC_refl (a : Cm) : eqC a a = true := by simp [eqC]
theorem eqS_eq {a b : Sp} (h : eqS a b = true) : a = b := by
  cases a; cases b; simp [eqS] at h; simp [h.1, h.2]

def fld (n : String) (t : TypeId) (o : Nat) (b : Nat) : Field := { name := n, type := t, offset := o, embedded := false, tag := "", pkgPath := "", byteOffset := b }
theorem flds39 : (Try.prog.fieldsOf 39).toList = [fld "N" 3 0 0, fld "Client" 3 1 8] := by kernel_rfl
theorem flds26 : (Try.prog.fieldsOf 26).toList = [fld "Client" 3 0 0, fld "Op" 3 1 8] := by kernel_rfl
theorem flds28 : (Try.prog.fieldsOf 28).toList = [fld "Kind" 3 0 0, fld "Client" 3 1 8, fld "Op" 3 2 16, fld "Name" 9 3 24, fld "File" 26 4 40, fld "New" 26 6 56, fld "Size" 3 8 72] := by kernel_rfl
theorem flds142 : (Try.prog.fieldsOf 142).toList = [fld "Promised" 39 0 0, fld "Accepted" 39 2 16, fld "Command" 28 4 32, fld "Decided" 4 13 112] := by kernel_rfl
theorem eqInt (d : Nat) (a b : Int) (w : World) : (Op.equalIn (d + 1) 3 (.int .i64 a) (.int .i64 b)).run Try.prog w = .ok (a == b) w := run_equalIn_int w d 3 .i64 .i64 a b Try.und3
theorem eq39 (d : Nat) (n c m e : Int) (w : World) : (Op.equalIn (d + 2) 39 (.agg #[.int .i64 n, .int .i64 c]) (.agg #[.int .i64 m, .int .i64 e])).run Try.prog w = .ok (n == m && c == e) w := by
  have h0 : ∀ (a c : Int) (w : World), (part 3 #[.int .i64 a, .int .i64 c] 0).run Try.prog w = .ok (.int .i64 a) w := fun a c w => by kernel_rfl
  have h1 : ∀ (a c : Int) (w : World), (part 3 #[.int .i64 a, .int .i64 c] 1).run Try.prog w = .ok (.int .i64 c) w := fun a c w => by kernel_rfl
  rw [show d + 2 = (d + 1) + 1 from rfl, run_equalIn_struct w (d + 1) 39 _ _ Try.und39 (by kernel_rfl), flds39]
  cases h : n == m <;> cases h' : c == e <;> simp [Op.eqFields, fld, h0, h1, eqInt, h, h', Result.andThen]
theorem eq26 (d : Nat) (n c m e : Int) (w : World) : (Op.equalIn (d + 2) 26 (.agg #[.int .i64 n, .int .i64 c]) (.agg #[.int .i64 m, .int .i64 e])).run Try.prog w = .ok (n == m && c == e) w := by
  have h0 : ∀ (a c : Int) (w : World), (part 3 #[.int .i64 a, .int .i64 c] 0).run Try.prog w = .ok (.int .i64 a) w := fun a c w => by kernel_rfl
  have h1 : ∀ (a c : Int) (w : World), (part 3 #[.int .i64 a, .int .i64 c] 1).run Try.prog w = .ok (.int .i64 c) w := fun a c w => by kernel_rfl
  rw [show d + 2 = (d + 1) + 1 from rfl, run_equalIn_struct w (d + 1) 26 _ _ Try.und26 (by kernel_rfl), flds26]
  cases h : n == m <;> cases h' : c == e <;> simp [Op.eqFields, fld, h0, h1, eqInt, h, h', Result.andThen]
theorem eq28 (d : Nat) (a b : Cm) (w : World) : (Op.equalIn (d + 3) 28 (.agg a.cells) (.agg b.cells)).run Try.prog w = .ok (eqC a b) w := by
  have h0 : ∀ (a : Cm) (w : World), (part 3 a.cells 0).run Try.prog w = .ok (.int .i64 a.k) w := fun a w => by kernel_rfl
  have h1 : ∀ (a : Cm) (w : World), (part 3 a.cells 1).run Try.prog w = .ok (.int .i64 a.cl) w := fun a w => by kernel_rfl
  have h2 : ∀ (a : Cm) (w : World), (part 3 a.cells 2).run Try.prog w = .ok (.int .i64 a.op) w := fun a w => by kernel_rfl
  have h3 : ∀ (a : Cm) (w : World), (part 9 a.cells 3).run Try.prog w = .ok (.string a.nm) w := fun a w => by kernel_rfl
  have h4 : ∀ (a : Cm) (w : World), (part 26 a.cells 4).run Try.prog w = .ok (.agg #[.int .i64 a.f0, .int .i64 a.f1]) w := fun a w => by kernel_rfl
  have h5 : ∀ (a : Cm) (w : World), (part 26 a.cells 6).run Try.prog w = .ok (.agg #[.int .i64 a.g0, .int .i64 a.g1]) w := fun a w => by kernel_rfl
  have h6 : ∀ (a : Cm) (w : World), (part 3 a.cells 8).run Try.prog w = .ok (.int .i64 a.sz) w := fun a w => by kernel_rfl
  have hI : ∀ (a b : Int) (w : World), (Op.equalIn (d + 2) 3 (.int .i64 a) (.int .i64 b)).run Try.prog w = .ok (a == b) w := eqInt (d + 1)
  have hS : ∀ (a b : ByteArray) (w : World), (Op.equalIn (d + 2) 9 (.string a) (.string b)).run Try.prog w = .ok (a.toList == b.toList) w := fun a b w => run_equalIn_string w (d + 1) 9 a b Try.und9
  have hF : ∀ (n c m e : Int) (w : World), (Op.equalIn (d + 2) 26 (.agg #[.int .i64 n, .int .i64 c]) (.agg #[.int .i64 m, .int .i64 e])).run Try.prog w = .ok (n == m && c == e) w := eq26 d
  rw [show d + 3 = (d + 2) + 1 from rfl, run_equalIn_struct w (d + 2) 28 _ _ Try.und28 (by kernel_rfl), flds28]
  unfold eqC
  generalize e1 : (a.k == b.k) = q1
  generalize e2 : (a.cl == b.cl) = q2
  generalize e3 : (a.op == b.op) = q3
  generalize e4 : (a.nm.toList == b.nm.toList) = q4
  generalize e5 : (a.f0 == b.f0 && a.f1 == b.f1) = q5
  generalize e6 : (a.g0 == b.g0 && a.g1 == b.g1) = q6
  generalize e7 : (a.sz == b.sz) = q7
  cases q1
  · simp [Op.eqFields, fld, h0, hI, e1, Result.andThen]
  cases q2
  · simp [Op.eqFields, fld, h0, h1, hI, e1, e2, Result.andThen]
  cases q3
  · simp [Op.eqFields, fld, h0, h1, h2, hI, e1, e2, e3, Result.andThen]
  cases q4
  · simp [Op.eqFields, fld, h0, h1, h2, h3, hI, hS, e1, e2, e3, e4, Result.andThen]
  cases q5
  · simp [Op.eqFields, fld, h0, h1, h2, h3, h4, hI, hS, hF, e1, e2, e3, e4, e5, Result.andThen]
  cases q6
  · simp [Op.eqFields, fld, h0, h1, h2, h3, h4, h5, hI, hS, hF, e1, e2, e3, e4, e5, e6, Result.andThen]
  cases q7
  · simp [Op.eqFields, fld, h0, h1, h2, h3, h4, h5, h6, hI, hS, hF, e1, e2, e3, e4, e5, e6, e7, Result.andThen]
  · simp [Op.eqFields, fld, h0, h1, h2, h3, h4, h5, h6, hI, hS, hF, e1, e2, e3, e4, e5, e6, e7, Result.andThen]
theorem eq142 (d : Nat) (a b : In) (w : World) : (Op.equalIn (d + 4) 142 (.agg a.cells) (.agg b.cells)).run Try.prog w = .ok (eqI a b) w := by
  have h0 : ∀ (a : In) (w : World), (part 39 a.cells 0).run Try.prog w = .ok (.agg #[.int .i64 a.p.n, .int .i64 a.p.c]) w := fun a w => by kernel_rfl
  have h1 : ∀ (a : In) (w : World), (part 39 a.cells 2).run Try.prog w = .ok (.agg #[.int .i64 a.a.n, .int .i64 a.a.c]) w := fun a w => by kernel_rfl
  have h2 : ∀ (a : In) (w : World), (part 28 a.cells 4).run Try.prog w = .ok (.agg a.c.cells) w := fun a w => by kernel_rfl
  have h3 : ∀ (a : In) (w : World), (part 4 a.cells 13).run Try.prog w = .ok (.bool a.d) w := fun a w => by kernel_rfl
  have hS : ∀ (n c m e : Int) (w : World), (Op.equalIn (d + 3) 39 (.agg #[.int .i64 n, .int .i64 c]) (.agg #[.int .i64 m, .int .i64 e])).run Try.prog w = .ok (n == m && c == e) w := eq39 (d + 1)
  have hC : ∀ (a b : Cm) (w : World), (Op.equalIn (d + 3) 28 (.agg a.cells) (.agg b.cells)).run Try.prog w = .ok (eqC a b) w := eq28 d
  have hB : ∀ (a b : Bool) (w : World), (Op.equalIn (d + 3) 4 (.bool a) (.bool b)).run Try.prog w = .ok (a == b) w := fun a b w => run_equalIn_bool w (d + 2) 4 a b Try.und4
  rw [show d + 4 = (d + 3) + 1 from rfl, run_equalIn_struct w (d + 3) 142 _ _ Try.und142 (by kernel_rfl), flds142]
  unfold eqI eqS
  generalize e1 : (a.p.n == b.p.n && a.p.c == b.p.c) = q1
  generalize e2 : (a.a.n == b.a.n && a.a.c == b.a.c) = q2
  generalize e3 : eqC a.c b.c = q3
  generalize e4 : (a.d == b.d) = q4
  cases q1
  · simp [Op.eqFields, fld, h0, hS, e1, Result.andThen]
  cases q2
  · simp [Op.eqFields, fld, h0, h1, hS, e1, e2, Result.andThen]
  cases q3
  · simp [Op.eqFields, fld, h0, h1, h2, hS, hC, e1, e2, e3, Result.andThen]
  cases q4
  · simp [Op.eqFields, fld, h0, h1, h2, h3, hS, hC, hB, e1, e2, e3, e4, Result.andThen]
  · simp [Op.eqFields, fld, h0, h1, h2, h3, hS, hC, hB, e1, e2, e3, e4, Result.andThen]
theorem neqS (a b : Sp) (w : World) : (binOp .neq 39 (.agg #[.int .i64 a.n, .int .i64 a.c]) (.agg #[.int .i64 b.n, .int .i64 b.c])).run Try.prog w = .ok (.bool (!eqS a b)) w := by
  rw [run_neq_struct, eq39 9998]; rfl
theorem eqlC (a b : Cm) (w : World) : (binOp .eql 28 (.agg a.cells) (.agg b.cells)).run Try.prog w = .ok (.bool (eqC a b)) w := by
  rw [run_eql_struct, eq28 9997]; rfl
theorem neqI (a b : In) (w : World) : (binOp .neq 142 (.agg a.cells) (.agg b.cells)).run Try.prog w = .ok (.bool (!eqI a b)) w := by
  rw [run_neq_struct, eq142 9996]; rfl

/-- Steps. -/
theorem zero_of {t : TypeId} {v : Value} (h : (Try.prog.info? t).bind (·.zero) = some v) (w : World) : (zeroValue t).run Try.prog w = .ok v w := by
  cases hi : Try.prog.info? t with
  | none => rw [hi] at h; cases h
  | some i =>
    rw [hi] at h
    simp only [Option.bind_some] at h
    simp [zeroValue, typeInfo, hi, h]
theorem zero28 : (Try.prog.info? 28).bind (·.zero) = some (.agg cZ.cells) := by kernel_rfl
section
variable {ops : Array Oper} {rest : List Oper} {o : Oper} {a : Act} {w : World} {Q : Exit → Act → World → Prop}
theorem exec_load (t : TypeId) (x : Operand) (ho : o.op = .load t x) (ad : Addr) (hx : a.eval x = .pointer (some ad)) (v : Value) (hrun : (loadVar t ad).run Try.prog w = .ok v w) : (execOp a.eval o).run Try.prog w = .ok (.value v) w := by
  simp only [execOp, ho, hx, Instr.loadAt, Instr.sureAddr, Sem.run_bind, Sem.run_pure, Result.andThen_ok, hrun]
theorem wp_storeV (hg : o.guard = none) (t : TypeId) (x y : Operand) (ho : o.op = .store t x y) (ad : Addr) (v : Value) (hx : a.eval x = .pointer (some ad)) (hy : a.eval y = v) (w' : World) (hrun : (storeVar t ad v).run Try.prog w = .ok () w')
    (h : wpList Try.prog ops Q rest (a.put o.dst undef) w') : wpList Try.prog ops Q (o :: rest) a w := by
  refine wpList_plain hg fun K hK => ?_
  unfold Oper.wp execOp
  simp only [ho, hx, hy, Instr.storeAt, Instr.sureAddr, Sem.run_bind, Sem.run_pure, Result.andThen_ok, hrun]
  exact hK _ _ h
theorem wp_allocT (hg : o.guard = none) (t : TypeId) (ho : o.op = .alloc t) (cs : Array Value) (hz : (Try.prog.info? t).bind (·.zero) = some (.agg cs)) (N : Nat) (hN : w.heap.size = N)
    (h : wpList Try.prog ops Q rest (a.put o.dst (.pointer (some ⟨N, 0, none⟩))) (w.alloc (.cells cs t))) : wpList Try.prog ops Q (o :: rest) a w := by
  subst hN
  refine wp_runTo hg _ (w.alloc (.cells cs t)) ?_ h
  simp only [execOp, ho, Instr.alloc, Sem.run_bind, zero_of hz, Result.andThen_ok, newVar, newRow, run_newObj_alloc, Sem.run_pure]
  rfl
theorem wpList_wanted (hw : Region.wanted o (yielded ops a.tmps) = true)
    (h : wpList Try.prog ops Q ({ o with guard := none } :: rest) a w) : wpList Try.prog ops Q (o :: rest) a w := by
  have hw' : Region.wanted { o with guard := none } (yielded ops a.tmps) = true := by simp [Region.wanted]
  unfold wpList at h ⊢
  rw [if_pos hw'] at h
  rw [if_pos hw]
  exact h
end

end Go.Proofs.Ytpabpeppgpeaoaa
