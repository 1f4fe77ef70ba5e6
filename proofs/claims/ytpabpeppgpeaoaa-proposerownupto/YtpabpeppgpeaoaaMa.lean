import Derived.Test.YtpabpeppgpeaoaaK
import Derived.Maps.RangeRun
import Derived.Laws.Rows
import Derived.Laws.Tables
namespace Go.Proofs.Ytpabpeppgpeaoaa
open Go.RowKit
open Go.ChangeMaps (setBlock)
set_option linter.unusedVariables false

theorem isKey_i64 (n : Int) : MapKept.IsKey (.int .i64) (.int .i64 n) := by simp [MapKept.IsKey]

/-- A map from numbers to values. -/
def Ents (es : Array MapEntry) (clock : Nat) (g : Int → Option Value) : Prop :=
  MapKept.Stamped es clock ∧ (∀ e ∈ es.toList, ∃ (n : Int) (s : Value), e.key = .int .i64 n ∧ e.val = s ∧ g n = some s) ∧ ∀ (n : Int) s, g n = some s → ∃ e ∈ es.toList, e.key = .int .i64 n
def MapIs (w : World) (b : Nat) (g : Int → Option Value) : Prop :=
  ∃ es clock, w.heap[b]? = some (.map es clock) ∧ Ents es clock g

theorem Ents.keys {es : Array MapEntry} {clock : Nat} {g : Int → Option Value} (h : Ents es clock g) : ∀ x ∈ es.toList, MapKept.IsKey (.int .i64) x.key := by
  intro x hx
  obtain ⟨n, s, hk, _⟩ := h.2.1 x hx
  rw [hk]; exact isKey_i64 _

theorem MapIs.lt {w : World} {b : Nat} {g : Int → Option Value} (h : MapIs w b g) : b < w.heap.size := by
  obtain ⟨es, c, hb, _⟩ := h
  exact (Array.getElem?_eq_some_iff.1 hb).1
theorem MapIs.kept {S : Nat → Prop} {w w' : World} {b : Nat} {g : Int → Option Value} (h : MapIs w b g) (hk : Kept S w w') (hS : ¬ S b) : MapIs w' b g := by
  have hlt := h.lt
  obtain ⟨es, c, hb, r⟩ := h
  exact ⟨es, c, (hk.block b hlt hS).trans hb, r⟩
theorem MapIs.new (w : World) : MapIs (w.alloc (.map #[] 0)) w.heap.size (fun _ => none) :=
  ⟨#[], 0, (MapKept.heap_alloc w _).1, ⟨MapKept.stamped_empty 0, by simp, by simp⟩⟩

theorem kept_setBlock {w : World} {b : Nat} {o : Obj} : Kept (Only b) w (setBlock w b o) :=
  ⟨rfl, rfl, rfl, by simp [setBlock], fun k hk hS => by
    have : k ≠ b := hS
    simp [setBlock, Ne.symm this]⟩

def tupOk (v : Value) (b : Bool) (ok : Bool) : Value := if ok then .tuple #[v, .bool b] else v

variable {P : Program}

theorem run_lookup_v {w : World} {b : Nat} {g : Int → Option Value} (h : MapIs w b g) {t e : TypeId} (ht : P.underlying t = some (.map 3 e)) (h3 : P.underlying 3 = some (.int .i64)) {z : Value} (hz : (zeroValue e).run P w = .ok z w) (n : Int) (ok : Bool) :
    (Instr.lookup t (.map (some b)) (.int .i64 n) ok).run P w = .ok (tupOk ((g n).getD z) (g n).isSome ok) w := by
  obtain ⟨es, c, hb, he⟩ := h
  have hck := @MapKept.run_checkKey P w 3 _ (.int .i64 n) h3 (isKey_i64 n) es.isEmpty 9999
  rcases MapKept.findNow_spec (isKey_i64 n) es.toList 0 he.keys with ⟨h1, h2⟩ | ⟨j, e, h1, h2, h3'⟩
  · have hg : g n = none := by
      cases hgn : g n with
      | none => rfl
      | some s =>
        obtain ⟨e, hm, hk⟩ := he.2.2 n s hgn
        exact absurd hk (h2 e hm)
    cases ok <;> simp [Instr.lookup, run_underlying ht, MapKept.run_getObj_map hb, hck, MapKept.run_findKey h3 h1, hz, hg, Result.andThen, tupOk]
  · obtain ⟨n', s, hk, hv, hg⟩ := he.2.1 e (List.mem_of_getElem? h2)
    rw [hk] at h3'
    simp only [Value.int.injEq, true_and] at h3'
    subst h3'
    cases ok <;> simp [Instr.lookup, run_underlying ht, MapKept.run_getObj_map hb, hck, MapKept.run_findKey h3 h1, hv, hg, Result.andThen, tupOk]

def updG (g : Int → Option Value) (n : Int) (v : Option Value) : Int → Option Value := fun m => if m = n then v else g m

theorem mem_modify {es : Array MapEntry} {i : Nat} {f : MapEntry → MapEntry} {x : MapEntry} (h : x ∈ (es.modify i f).toList) : (∃ j, j ≠ i ∧ es[j]? = some x) ∨ ∃ e, es[i]? = some e ∧ x = f e := by
  obtain ⟨j, hj⟩ := List.mem_iff_getElem?.1 h
  simp only [Array.getElem?_toList, Array.getElem?_modify] at hj
  by_cases e : i = j
  · subst e
    simp only [if_true] at hj
    cases he : es[i]? with
    | none => simp [he] at hj
    | some e0 => simp [he] at hj; exact .inr ⟨e0, rfl, hj.symm⟩
  · simp only [e, if_false] at hj
    exact .inl ⟨j, fun h => e h.symm, hj⟩

theorem run_update_v {w : World} {b : Nat} {g : Int → Option Value} (h : MapIs w b g) {t e : TypeId} (ht : P.underlying t = some (.map 3 e)) (h3 : P.underlying 3 = some (.int .i64)) (n : Int) (s : Value) :
    ∃ w', (Instr.mapUpdate t (.map (some b)) (.int .i64 n) s).run P w = .ok () w' ∧ MapIs w' b (updG g n (some s)) ∧ Kept (Only b) w w' ∧ w'.heap.size = w.heap.size := by
  obtain ⟨es, c, hb, he⟩ := h
  have hck := @MapKept.run_checkKey P w 3 _ (.int .i64 n) h3 (isKey_i64 n) false 9999
  rcases MapKept.findNow_spec (isKey_i64 n) es.toList 0 he.keys with ⟨h1, h2⟩ | ⟨j, e, h1, h2, h3'⟩
  · refine ⟨setBlock w b (.map (es.push { key := .int .i64 n, val := s, born := c }) (c + 1)), ?_, ⟨_, _, (MapKept.heap_set hb).1, MapKept.stamped_push he.1 (fun x hx => h2 x hx), ?_, ?_⟩, kept_setBlock, by simp [setBlock]⟩
    · simp [Instr.mapUpdate, run_underlying ht, MapKept.run_getObj_map hb, hck, MapKept.run_findKey h3 h1, MapKept.run_setObj_map _ hb, Result.andThen, setBlock]
    · intro x hx
      simp only [Array.toList_push, List.mem_append, List.mem_singleton] at hx
      rcases hx with hx | rfl
      · obtain ⟨m, s', hk, hv, hg⟩ := he.2.1 x hx
        refine ⟨m, s', hk, hv, ?_⟩
        have : m ≠ n := fun e => h2 x hx (by rw [hk, e])
        simp [updG, this, hg]
      · exact ⟨n, s, rfl, rfl, by simp [updG]⟩
    · intro m s' hm
      simp only [updG] at hm
      split at hm
      · rename_i e; subst e; exact ⟨_, by simp; exact .inr rfl, rfl⟩
      · obtain ⟨x, hx, hk⟩ := he.2.2 m s' hm
        exact ⟨x, by simp only [Array.toList_push, List.mem_append]; exact .inl hx, hk⟩
  · have hes : es[j]? = some e := by simpa using h2
    refine ⟨setBlock w b (.map (es.modify j fun e => { e with key := .int .i64 n, val := s }) c), ?_, ⟨_, _, (MapKept.heap_set hb).1, MapKept.stamped_modify he.1 j _ (fun _ _ => rfl) (fun x hx hj => ?_), ?_, ?_⟩, kept_setBlock, by simp [setBlock]⟩
    · simp [Instr.mapUpdate, run_underlying ht, MapKept.run_getObj_map hb, hck, MapKept.run_findKey h3 h1, MapKept.run_setObj_map _ hb, Result.andThen, setBlock, Instr.keyThatStays, hes, h3', Instr.sameBits]
    · rw [hes] at hj; cases hj; exact h3'.symm
    · intro x hx
      rcases mem_modify hx with ⟨k, hk, hx'⟩ | ⟨e0, _, rfl⟩
      · obtain ⟨m, s', hkx, hv, hg⟩ := he.2.1 x (List.mem_of_getElem? (by simpa using hx'))
        refine ⟨m, s', hkx, hv, ?_⟩
        have hne : m ≠ n := fun em => by
          have hnd := he.1.2.2
          have hj' : (es.toList.map (·.key))[j]? = some (.int .i64 n) := by simp [hes, h3']
          have hk' : (es.toList.map (·.key))[k]? = some (.int .i64 n) := by simp [hx', hkx, em]
          have hlt : k < (es.toList.map (·.key)).length := (List.getElem?_eq_some_iff.1 hk').1
          exact hk ((List.getElem?_inj hlt hnd).1 (hk'.trans hj'.symm))
        simp [updG, hne, hg]
      · exact ⟨n, s, rfl, rfl, by simp [updG]⟩
    · intro m s' hm
      simp only [updG] at hm
      have hkeys : (es.modify j fun e => { e with key := Value.int .i64 n, val := s }).toList.map (·.key) = es.toList.map (·.key) := MapKept.modify_keys j _ (fun x hx => by rw [hes] at hx; cases hx; exact h3'.symm)
      have : (Value.int .i64 m) ∈ es.toList.map (·.key) := by
        split at hm
        · rename_i em; subst em; exact List.mem_map.2 ⟨e, List.mem_of_getElem? h2, h3'⟩
        · obtain ⟨x, hx, hk⟩ := he.2.2 m s' hm
          exact List.mem_map.2 ⟨x, hx, hk⟩
      rw [← hkeys] at this
      obtain ⟨x, hx, hk⟩ := List.mem_map.1 this
      exact ⟨x, hx, hk⟩

section
variable {ops : Array Oper} {rest : List Oper} {o : Oper} {a : Act} {w : World} {Q : Exit → Act → World → Prop}

theorem wp_runTo (hg : o.guard = none) (v : Value) (w' : World) (hrun : (execOp a.eval o).run Try.prog w = .ok (.value v) w')
    (h : wpList Try.prog ops Q rest (a.put o.dst v) w') : wpList Try.prog ops Q (o :: rest) a w := by
  refine wpList_plain hg fun K hK => ?_
  unfold Oper.wp
  rw [hrun, Oper.upon_value]
  exact hK _ _ h

theorem wp_lookupV (hg : o.guard = none) (x y : Operand) (t e : TypeId) (ok : Bool) (ho : o.op = .lookup t x y ok) (b : Nat) (n : Int) (hx : a.eval x = .map (some b)) (hy : a.eval y = .int .i64 n) {g : Int → Option Value} (hm : MapIs w b g)
    (ht : Try.prog.underlying t = some (.map 3 e)) {z : Value} (hz : (zeroValue e).run Try.prog w = .ok z w) (v : Value) (hv : tupOk ((g n).getD z) (g n).isSome ok = v)
    (h : wpList Try.prog ops Q rest (a.put o.dst v) w) : wpList Try.prog ops Q (o :: rest) a w := by
  subst hv
  refine wp_runTo hg _ w ?_ h
  have h3 : Try.prog.underlying 3 = some (.int .i64) := by kernel_rfl
  simp [execOp, ho, hx, hy, run_lookup_v hm ht h3 hz n, Result.andThen]

theorem wp_updateV (hg : o.guard = none) (x y z : Operand) (t e : TypeId) (ho : o.op = .mapUpdate t x y z) (b : Nat) (n : Int) (s : Value) (hx : a.eval x = .map (some b)) (hy : a.eval y = .int .i64 n) (hz : a.eval z = s) {g : Int → Option Value} (hm : MapIs w b g)
    (ht : Try.prog.underlying t = some (.map 3 e))
    (h : ∀ w', Hid (MapIs w' b (updG g n (some s))) → Hid (Kept (Only b) w w') → w'.heap.size = w.heap.size → wpList Try.prog ops Q rest (a.put o.dst undef) w') : wpList Try.prog ops Q (o :: rest) a w := by
  have h3 : Try.prog.underlying 3 = some (.int .i64) := by kernel_rfl
  obtain ⟨w', hrun, h1, h2, h4⟩ := run_update_v hm ht h3 n s
  refine wpList_plain hg fun K hK => ?_
  unfold Oper.wp execOp
  simp only [ho, hx, hy, hz, hrun, Sem.run_bind, Result.andThen_ok, Sem.run_pure]
  exact hK _ _ (h w' h1 h2 h4)
end

end Go.Proofs.Ytpabpeppgpeaoaa
