import Derived.Test.YtppkjebiiheljaaK
import Derived.Maps.RangeRun
namespace Go.Proofs.Ytppkjebiiheljaa
open Go.RowKit
open Go.ChangeMaps (setBlock)
set_option linter.unusedVariables false

/-- Bytes as cells; a sector's value; a sector of zeros. -/
abbrev u8s (s : List Int) : Array Value := (s.map (Value.int .u8)).toArray
def secV (s : List Int) : Value := .agg (u8s s)
def zs : List Int := List.replicate 512 0

theorem isKey_i64 (n : Int) : MapKept.IsKey (.int .i64) (.int .i64 n) := by simp [MapKept.IsKey]

/-- A map from numbers to sectors. -/
def Ents (es : Array MapEntry) (clock : Nat) (g : Nat → Option (List Int)) : Prop :=
  MapKept.Stamped es clock ∧ (∀ e ∈ es.toList, ∃ (n : Nat) (s : List Int), e.key = .int .i64 n ∧ e.val = secV s ∧ g n = some s) ∧ ∀ (n : Nat) s, g n = some s → ∃ e ∈ es.toList, e.key = .int .i64 n
def MapIs (w : World) (b : Nat) (g : Nat → Option (List Int)) : Prop :=
  ∃ es clock, w.heap[b]? = some (.map es clock) ∧ Ents es clock g

theorem Ents.keys {es : Array MapEntry} {clock : Nat} {g : Nat → Option (List Int)} (h : Ents es clock g) : ∀ x ∈ es.toList, MapKept.IsKey (.int .i64) x.key := by
  intro x hx
  obtain ⟨n, s, hk, _⟩ := h.2.1 x hx
  rw [hk]; exact isKey_i64 _

theorem MapIs.lt {w : World} {b : Nat} {g : Nat → Option (List Int)} (h : MapIs w b g) : b < w.heap.size := by
  obtain ⟨es, c, hb, _⟩ := h
  exact (Array.getElem?_eq_some_iff.1 hb).1
theorem MapIs.kept {S : Nat → Prop} {w w' : World} {b : Nat} {g : Nat → Option (List Int)} (h : MapIs w b g) (hk : Kept S w w') (hS : ¬ S b) : MapIs w' b g := by
  have hlt := h.lt
  obtain ⟨es, c, hb, r⟩ := h
  exact ⟨es, c, (hk.block b hlt hS).trans hb, r⟩
theorem MapIs.new (w : World) : MapIs (w.alloc (.map #[] 0)) w.heap.size (fun _ => none) :=
  ⟨#[], 0, (MapKept.heap_alloc w _).1, ⟨MapKept.stamped_empty 0, by simp, by simp⟩⟩

theorem kept_setBlock {w : World} {b : Nat} {o : Obj} : Kept (Only b) w (setBlock w b o) :=
  ⟨rfl, rfl, rfl, by simp [setBlock], fun k hk hS => by
    have : k ≠ b := hS
    simp [setBlock, Ne.symm this]⟩

variable {P : Program}

theorem run_lookup_sec {w : World} {b : Nat} {g : Nat → Option (List Int)} (h : MapIs w b g) {t : TypeId} (ht : P.underlying t = some (.map 3 72)) (h3 : P.underlying 3 = some (.int .i64)) (hz : (zeroValue 72).run P w = .ok (secV zs) w) (n : Nat) :
    (Instr.lookup t (.map (some b)) (.int .i64 n) false).run P w = .ok (secV ((g n).getD zs)) w := by
  obtain ⟨es, c, hb, he⟩ := h
  have hck := @MapKept.run_checkKey P w 3 _ (.int .i64 n) h3 (isKey_i64 n) es.isEmpty 9999
  rcases MapKept.findNow_spec (isKey_i64 n) es.toList 0 he.keys with ⟨h1, h2⟩ | ⟨j, e, h1, h2, h3'⟩
  · have hg : g n = none := by
      cases hgn : g n with
      | none => rfl
      | some s =>
        obtain ⟨e, hm, hk⟩ := he.2.2 n s hgn
        exact absurd hk (h2 e hm)
    simp [Instr.lookup, run_underlying ht, MapKept.run_getObj_map hb, hck, MapKept.run_findKey h3 h1, hz, hg, Result.andThen]
  · obtain ⟨n', s, hk, hv, hg⟩ := he.2.1 e (List.mem_of_getElem? h2)
    rw [hk] at h3'
    simp only [Value.int.injEq, true_and] at h3'
    have : n' = n := by omega
    subst this
    simp [Instr.lookup, run_underlying ht, MapKept.run_getObj_map hb, hck, MapKept.run_findKey h3 h1, hv, hg, Result.andThen]

def updG (g : Nat → Option (List Int)) (n : Nat) (v : Option (List Int)) : Nat → Option (List Int) := fun m => if m = n then v else g m

theorem mem_modify {es : Array MapEntry} {i : Nat} {f : MapEntry → MapEntry} {x : MapEntry} (h : x ∈ (es.modify i f).toList) : (∃ j, j ≠ i ∧ es[j]? = some x) ∨ ∃ e, es[i]? = some e ∧ x = f e := by
  obtain ⟨j, hj⟩ := List.mem_iff_getElem?.1 h
  simp only [Array.getElem?_toList, Array.getElem?_modify] at hj
  by_cases e : i = j
  · subst e
    simp only [if_true] at hj
    cases he : es[i]? with
    | none => simp [he] at hj
    | some e0 => simp [he] at hj; exact .inr ⟨e0, rfl, hj.symm⟩
  · simp only [e, if_false] at hj
    exact .inl ⟨j, fun h => e h.symm, hj⟩

theorem run_update_sec {w : World} {b : Nat} {g : Nat → Option (List Int)} (h : MapIs w b g) {t : TypeId} (ht : P.underlying t = some (.map 3 72)) (h3 : P.underlying 3 = some (.int .i64)) (n : Nat) (s : List Int) :
    ∃ w', (Instr.mapUpdate t (.map (some b)) (.int .i64 n) (secV s)).run P w = .ok () w' ∧ MapIs w' b (updG g n (some s)) ∧ Kept (Only b) w w' := by
  obtain ⟨es, c, hb, he⟩ := h
  have hck := @MapKept.run_checkKey P w 3 _ (.int .i64 n) h3 (isKey_i64 n) false 9999
  rcases MapKept.findNow_spec (isKey_i64 n) es.toList 0 he.keys with ⟨h1, h2⟩ | ⟨j, e, h1, h2, h3'⟩
  · refine ⟨setBlock w b (.map (es.push { key := .int .i64 n, val := secV s, born := c }) (c + 1)), ?_, ⟨_, _, (MapKept.heap_set hb).1, MapKept.stamped_push he.1 (fun x hx => h2 x hx), ?_, ?_⟩, kept_setBlock⟩
    · simp [Instr.mapUpdate, run_underlying ht, MapKept.run_getObj_map hb, hck, MapKept.run_findKey h3 h1, MapKept.run_setObj_map _ hb, Result.andThen, setBlock]
    · intro x hx
      simp only [Array.toList_push, List.mem_append, List.mem_singleton] at hx
      rcases hx with hx | rfl
      · obtain ⟨m, s', hk, hv, hg⟩ := he.2.1 x hx
        refine ⟨m, s', hk, hv, ?_⟩
        have : m ≠ n := fun e => h2 x hx (by rw [hk, e])
        simp [updG, this, hg]
      · exact ⟨n, s, rfl, rfl, by simp [updG]⟩
    · intro m s' hm
      simp only [updG] at hm
      split at hm
      · rename_i e; subst e; exact ⟨_, by simp; exact .inr rfl, rfl⟩
      · obtain ⟨x, hx, hk⟩ := he.2.2 m s' hm
        exact ⟨x, by simp only [Array.toList_push, List.mem_append]; exact .inl hx, hk⟩
  · have hes : es[j]? = some e := by simpa using h2
    refine ⟨setBlock w b (.map (es.modify j fun e => { e with key := .int .i64 n, val := secV s }) c), ?_, ⟨_, _, (MapKept.heap_set hb).1, MapKept.stamped_modify he.1 j _ (fun _ _ => rfl) (fun x hx hj => ?_), ?_, ?_⟩, kept_setBlock⟩
    · simp [Instr.mapUpdate, run_underlying ht, MapKept.run_getObj_map hb, hck, MapKept.run_findKey h3 h1, MapKept.run_setObj_map _ hb, Result.andThen, setBlock, Instr.keyThatStays, hes, h3', Instr.sameBits]
    · rw [hes] at hj; cases hj; exact h3'.symm
    · intro x hx
      rcases mem_modify hx with ⟨k, hk, hx'⟩ | ⟨e0, _, rfl⟩
      · obtain ⟨m, s', hkx, hv, hg⟩ := he.2.1 x (List.mem_of_getElem? (by simpa using hx'))
        refine ⟨m, s', hkx, hv, ?_⟩
        have hne : m ≠ n := fun em => by
          have hnd := he.1.2.2
          have hj' : (es.toList.map (·.key))[j]? = some (.int .i64 n) := by simp [hes, h3']
          have hk' : (es.toList.map (·.key))[k]? = some (.int .i64 n) := by simp [hx', hkx, em]
          have hlt : k < (es.toList.map (·.key)).length := (List.getElem?_eq_some_iff.1 hk').1
          exact hk ((List.getElem?_inj hlt hnd).1 (hk'.trans hj'.symm))
        simp [updG, hne, hg]
      · exact ⟨n, s, rfl, rfl, by simp [updG]⟩
    · intro m s' hm
      simp only [updG] at hm
      have hkeys : (es.modify j fun e => { e with key := Value.int .i64 n, val := secV s }).toList.map (·.key) = es.toList.map (·.key) := MapKept.modify_keys j _ (fun x hx => by rw [hes] at hx; cases hx; exact h3'.symm)
      have : (Value.int .i64 m) ∈ es.toList.map (·.key) := by
        split at hm
        · rename_i em; subst em; exact List.mem_map.2 ⟨e, List.mem_of_getElem? h2, h3'⟩
        · obtain ⟨x, hx, hk⟩ := he.2.2 m s' hm
          exact List.mem_map.2 ⟨x, hx, hk⟩
      rw [← hkeys] at this
      obtain ⟨x, hx, hk⟩ := List.mem_map.1 this
      exact ⟨x, hx, hk⟩

theorem run_delete_sec {w : World} {b : Nat} {g : Nat → Option (List Int)} (h : MapIs w b g) {t ty : TypeId} (ht : P.underlying t = some (.map 3 72)) (h3 : P.underlying 3 = some (.int .i64)) (n : Nat) :
    ∃ w', (Builtin.delete_ #[t, 3] ty #[.map (some b), .int .i64 n]).run P w = .ok (.tuple #[]) w' ∧ MapIs w' b (updG g n none) ∧ Kept (Only b) w w' := by
  obtain ⟨es, c, hb, he⟩ := h
  have hck := @MapKept.run_checkKey P w 3 _ (.int .i64 n) h3 (isKey_i64 n) es.isEmpty 9999
  rcases MapKept.findNow_spec (isKey_i64 n) es.toList 0 he.keys with ⟨h1, h2⟩ | ⟨j, e, h1, h2, h3'⟩
  · refine ⟨setBlock w b (.map es c), ?_, ⟨_, _, (MapKept.heap_set hb).1, he.1, ?_, ?_⟩, kept_setBlock⟩
    · simp [Builtin.delete_, run_underlying ht, MapKept.run_getObj_map hb, hck, MapKept.run_findKey h3 h1, MapKept.run_setObj_map _ hb, Result.andThen, setBlock]
    · intro x hx
      obtain ⟨m, s', hk, hv, hg⟩ := he.2.1 x hx
      refine ⟨m, s', hk, hv, ?_⟩
      have : m ≠ n := fun e => h2 x hx (by rw [hk, e])
      simp [updG, this, hg]
    · intro m s' hm
      simp only [updG] at hm
      split at hm
      · cases hm
      · exact he.2.2 m s' hm
  · have hjl : j < es.size := by
      have := (List.getElem?_eq_some_iff.1 h2).1
      simpa using this
    have hes : es[j]? = some e := by simpa using h2
    have hto : (es.eraseIdxIfInBounds j).toList = es.toList.eraseIdx j := by
      simp [Array.eraseIdxIfInBounds, hjl]
    have hnd := he.1.2.2
    refine ⟨setBlock w b (.map (es.eraseIdxIfInBounds j) c), ?_, ⟨_, _, (MapKept.heap_set hb).1, MapKept.stamped_erase he.1 j, ?_, ?_⟩, kept_setBlock⟩
    · simp [Builtin.delete_, run_underlying ht, MapKept.run_getObj_map hb, hck, MapKept.run_findKey h3 h1, MapKept.run_setObj_map _ hb, Result.andThen, setBlock]
    · intro x hx
      rw [hto] at hx
      obtain ⟨k, hk, hkx⟩ := List.mem_eraseIdx_iff_getElem?.1 hx
      obtain ⟨m, s', hkey, hv, hg⟩ := he.2.1 x (List.mem_of_getElem? hkx)
      refine ⟨m, s', hkey, hv, ?_⟩
      have hne : m ≠ n := fun em => by
        have hj' : (es.toList.map (·.key))[j]? = some (.int .i64 n) := by simp [hes, h3']
        have hk' : (es.toList.map (·.key))[k]? = some (.int .i64 n) := by rw [List.getElem?_map, hkx]; simp [hkey, em]
        have hlt : k < (es.toList.map (·.key)).length := (List.getElem?_eq_some_iff.1 hk').1
        exact hk ((List.getElem?_inj hlt hnd).1 (hk'.trans hj'.symm))
      simp [updG, hne, hg]
    · intro m s' hm
      simp only [updG] at hm
      split at hm
      · cases hm
      · rename_i hne
        obtain ⟨x, hx, hk⟩ := he.2.2 m s' hm
        refine ⟨x, ?_, hk⟩
        rw [hto]
        obtain ⟨k, hkx⟩ := List.mem_iff_getElem?.1 hx
        refine List.mem_eraseIdx_iff_getElem?.2 ⟨k, fun e' => ?_, hkx⟩
        subst e'
        rw [h2] at hkx; cases hkx
        rw [hk] at h3'
        simp only [Value.int.injEq, true_and] at h3'
        omega

end Go.Proofs.Ytppkjebiiheljaa
