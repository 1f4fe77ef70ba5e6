import Derived.Test.YtphiokehcgbldaaIe
import Derived.Maps.RangeRun
import Derived.Laws.StructEq
namespace Go.Proofs.Ytphiokehcgbldaa
open Go.RowKit
open Go.ChangeMaps (setBlock)
set_option linter.unusedVariables false
set_option linter.unusedSimpArgs false
set_option linter.unusedSectionVars false

/-- A struct that is a map's key. -/
structure KeyG (k : TypeId) {K : Type} [DecidableEq K] (mk : K → Value) : Prop where
  inj : ∀ x y, mk x = mk y → x = y
  und : ∃ d, Try.prog.underlying k = some d ∧ ∀ x v, Instr.sameNow d (mk x) v = none
  chk : ∀ x e w, (Instr.checkKey e 10000 k (mk x)).run Try.prog w = .ok () w
  eql : ∀ x y w, (Op.equal k (mk x) (mk y)).run Try.prog w = .ok (decide (x = y)) w
  stay : ∀ x, Instr.sameBits 10000 (mk x) (mk x) = true
section
variable {K : Type} [DecidableEq K] {mk : K → Value} {k : TypeId}
/-- The entries of a map. -/
def EntG (mk : K → Value) (es : Array MapEntry) (clock : Nat) (g : K → Option Value) : Prop :=
  MapKept.Stamped es clock ∧ (∀ e ∈ es.toList, ∃ x, e.key = mk x ∧ g x = some e.val) ∧ ∀ x v, g x = some v → ∃ e ∈ es.toList, e.key = mk x
def MapG (mk : K → Value) (w : World) (b : Nat) (g : K → Option Value) : Prop :=
  ∃ es clock, w.heap[b]? = some (.map es clock) ∧ EntG mk es clock g
/-- .. with the stamp of one entry. -/
def StpG (mk : K → Value) (w : World) (b : Nat) (g : K → Option Value) (x : K) (s : Nat) : Prop :=
  ∃ es clock, w.heap[b]? = some (.map es clock) ∧ EntG mk es clock g ∧ ∃ (i : Nat) (e : MapEntry), es[i]? = some e ∧ e.key = mk x ∧ e.born = s
theorem StpG.map {w : World} {b : Nat} {g : K → Option Value} {x : K} {s : Nat} (h : StpG mk w b g x s) : MapG mk w b g := by
  obtain ⟨es, c, hb, he, _⟩ := h
  exact ⟨es, c, hb, he⟩
theorem MapG.lt {w : World} {b : Nat} {g : K → Option Value} (h : MapG mk w b g) : b < w.heap.size := by
  obtain ⟨es, c, hb, _⟩ := h
  exact (Array.getElem?_eq_some_iff.1 hb).1
theorem MapG.kept {S : Nat → Prop} {w w' : World} {b : Nat} {g : K → Option Value} (h : MapG mk w b g) (hk : Kept S w w') (hS : ¬ S b) : MapG mk w' b g := by
  have hlt := h.lt
  obtain ⟨es, c, hb, r⟩ := h
  exact ⟨es, c, (hk.block b hlt hS).trans hb, r⟩
theorem StpG.kept {S : Nat → Prop} {w w' : World} {b : Nat} {g : K → Option Value} {x : K} {s : Nat} (h : StpG mk w b g x s) (hk : Kept S w w') (hS : ¬ S b) : StpG mk w' b g x s := by
  have hlt := h.map.lt
  obtain ⟨es, c, hb, r⟩ := h
  exact ⟨es, c, (hk.block b hlt hS).trans hb, r⟩
theorem MapG.new (w : World) : MapG mk (w.alloc (.map #[] 0)) w.heap.size (fun _ => none) :=
  ⟨#[], 0, (MapKept.heap_alloc w _).1, ⟨MapKept.stamped_empty 0, by simp, by simp⟩⟩
theorem findAsk (H : KeyG k mk) (x : K) (w : World) : ∀ (l : List MapEntry) (i : Nat), (∀ e ∈ l, ∃ y, e.key = mk y) →
    ((Instr.findAsking k (mk x) l i).run Try.prog w = .ok none w ∧ ∀ e ∈ l, e.key ≠ mk x) ∨ ∃ j e, (Instr.findAsking k (mk x) l i).run Try.prog w = .ok (some (i + j, e.val)) w ∧ l[j]? = some e ∧ e.key = mk x
  | [], i, _ => .inl ⟨rfl, by simp⟩
  | e :: es, i, h => by
    obtain ⟨y, hy⟩ := h e (by simp)
    by_cases hxy : x = y
    · subst hxy
      refine .inr ⟨0, e, ?_, rfl, hy⟩
      simp [Instr.findAsking, hy, H.eql, Result.andThen]
    · have hne : e.key ≠ mk x := fun f => hxy (H.inj _ _ (f.symm.trans hy))
      rcases findAsk H x w es (i + 1) (fun e' h' => h e' (by simp [h'])) with ⟨h1, h2⟩ | ⟨j, e', h1, h2, h3⟩
      · refine .inl ⟨?_, fun e' h' => ?_⟩
        · simp [Instr.findAsking, hy, H.eql, hxy, Result.andThen, h1]
        · rcases List.mem_cons.1 h' with rfl | h'
          · exact hne
          · exact h2 e' h'
      · refine .inr ⟨j + 1, e', ?_, by simpa using h2, h3⟩
        simp [Instr.findAsking, hy, H.eql, hxy, Result.andThen, h1]
        omega
theorem findG (H : KeyG k mk) (x : K) (w : World) (l : List MapEntry) (h : ∀ e ∈ l, ∃ y, e.key = mk y) :
    ((Instr.findKey k (mk x) l).run Try.prog w = .ok none w ∧ ∀ e ∈ l, e.key ≠ mk x) ∨ ∃ j e, (Instr.findKey k (mk x) l).run Try.prog w = .ok (some (j, e.val)) w ∧ l[j]? = some e ∧ e.key = mk x := by
  obtain ⟨d, hd, hn⟩ := H.und
  cases l with
  | nil => exact .inl ⟨by simp [Instr.findKey, run_underlying hd, Instr.findNow, Result.andThen], by simp⟩
  | cons e es =>
    have hf : Instr.findNow d (mk x) (e :: es) 0 = none := by simp [Instr.findNow, hn]
    have hr : (Instr.findKey k (mk x) (e :: es)).run Try.prog w = (Instr.findAsking k (mk x) (e :: es) 0).run Try.prog w := by simp [Instr.findKey, run_underlying hd, hf, Result.andThen]
    rw [hr]
    rcases findAsk H x w (e :: es) 0 h with h1 | ⟨j, e', h1, h2⟩
    · exact .inl h1
    · exact .inr ⟨j, e', by simpa using h1, h2⟩
theorem EntG.keys {es : Array MapEntry} {clock : Nat} {g : K → Option Value} (h : EntG mk es clock g) : ∀ e ∈ es.toList, ∃ y, e.key = mk y := fun e he => by
  obtain ⟨x, hx, _⟩ := h.2.1 e he
  exact ⟨x, hx⟩
theorem lookG (H : KeyG k mk) {w : World} {b : Nat} {g : K → Option Value} (h : MapG mk w b g) {t e : TypeId} (ht : Try.prog.underlying t = some (.map k e)) {z : Value} (hz : (zeroValue e).run Try.prog w = .ok z w) (x : K) (ok : Bool) :
    (Instr.lookup t (.map (some b)) (mk x) ok).run Try.prog w = .ok (tupOk ((g x).getD z) (g x).isSome ok) w := by
  obtain ⟨es, c, hb, he⟩ := h
  rcases findG H x w es.toList he.keys with ⟨h1, h2⟩ | ⟨j, e, h1, h2, h3'⟩
  · have hg : g x = none := by
      cases hgn : g x with
      | none => rfl
      | some s =>
        obtain ⟨e, hm, hk⟩ := he.2.2 x s hgn
        exact absurd hk (h2 e hm)
    cases ok <;> simp [Instr.lookup, run_underlying ht, MapKept.run_getObj_map hb, H.chk, h1, hz, hg, Result.andThen, tupOk]
  · obtain ⟨y, hk, hg⟩ := he.2.1 e (List.mem_of_getElem? h2)
    obtain rfl := H.inj _ _ (hk.symm.trans h3')
    cases ok <;> simp [Instr.lookup, run_underlying ht, MapKept.run_getObj_map hb, H.chk, h1, hg, Result.andThen, tupOk]
theorem lookNil (H : KeyG k mk) {w : World} {t e : TypeId} (ht : Try.prog.underlying t = some (.map k e)) {z : Value} (hz : (zeroValue e).run Try.prog w = .ok z w) (x : K) (ok : Bool) :
    (Instr.lookup t (.map none) (mk x) ok).run Try.prog w = .ok (tupOk z false ok) w := by
  rcases findG H x w [] (by simp) with ⟨h1, h2⟩ | ⟨j, e, h1, h2, h3'⟩
  · cases ok <;> simp [Instr.lookup, run_underlying ht, H.chk, h1, hz, Result.andThen, tupOk]
  · simp at h2
def upG (g : K → Option Value) (n : K) (v : Option Value) : K → Option Value := fun m => if m = n then v else g m
/-- An entry's value is written over. -/
theorem EntG.put (H : KeyG k mk) {es : Array MapEntry} {c : Nat} {g : K → Option Value} (he : EntG mk es c g) {j : Nat} {e : MapEntry} (hes : es[j]? = some e) {x : K} (h3 : e.key = mk x) (s : Value) (f : MapEntry → MapEntry) (hf : ∀ e, (f e).key = mk x ∨ (f e).key = e.key) (hv : ∀ e, (f e).val = s) (hb : ∀ e, (f e).born = e.born) : EntG mk (es.modify j f) c (upG g x (some s)) := by
  have hfe : (f e).key = e.key := by rcases hf e with h | h; exact h.trans h3.symm; exact h
  have hkeys : (es.modify j f).toList.map (·.key) = es.toList.map (·.key) := MapKept.modify_keys j f (fun y hy => by rw [hes] at hy; cases hy; exact hfe)
  refine ⟨MapKept.stamped_modify he.1 j f (fun e _ => hb e) (fun y hy hj => by rw [hes] at hj; cases hj; exact hfe), fun y hy => ?_, fun m s' hm => ?_⟩
  · rcases mem_modify hy with ⟨i, hi, hx'⟩ | ⟨e0, he0, rfl⟩
    · obtain ⟨m, hkx, hg⟩ := he.2.1 y (List.mem_of_getElem? (by simpa using hx'))
      refine ⟨m, hkx, ?_⟩
      have hne : m ≠ x := fun em => by
        have hnd := he.1.2.2
        have hj' : (es.toList.map (·.key))[j]? = some (mk x) := by simp [hes, h3]
        have hk' : (es.toList.map (·.key))[i]? = some (mk x) := by simp [hx', hkx, em]
        have hlt : i < (es.toList.map (·.key)).length := (List.getElem?_eq_some_iff.1 hk').1
        exact hi ((List.getElem?_inj hlt hnd).1 (hk'.trans hj'.symm))
      simp [upG, hne, hg]
    · rw [hes] at he0; cases he0
      exact ⟨x, hfe.trans h3, by simp [upG, hv]⟩
  · have : mk m ∈ es.toList.map (·.key) := by
      unfold upG at hm
      split at hm
      · rename_i em; subst em; exact List.mem_map.2 ⟨e, List.mem_of_getElem? (by simpa using hes), h3⟩
      · obtain ⟨y, hy, hk⟩ := he.2.2 m s' hm
        exact List.mem_map.2 ⟨y, hy, hk⟩
    rw [← hkeys] at this
    obtain ⟨y, hy, hk⟩ := List.mem_map.1 this
    exact ⟨y, hy, hk⟩
theorem EntG.push {es : Array MapEntry} {c : Nat} {g : K → Option Value} (H : KeyG k mk) (he : EntG mk es c g) {x : K} (h2 : ∀ e ∈ es.toList, e.key ≠ mk x) (s : Value) : EntG mk (es.push { key := mk x, val := s, born := c }) (c + 1) (upG g x (some s)) := by
  refine ⟨MapKept.stamped_push he.1 h2, fun y hy => ?_, fun m s' hm => ?_⟩
  · simp only [Array.toList_push, List.mem_append, List.mem_singleton] at hy
    rcases hy with hy | rfl
    · obtain ⟨m, hk, hg⟩ := he.2.1 y hy
      refine ⟨m, hk, ?_⟩
      have : m ≠ x := fun e => h2 y hy (by rw [hk, e])
      simp [upG, this, hg]
    · exact ⟨x, rfl, by simp [upG]⟩
  · unfold upG at hm
    split at hm
    · rename_i e; subst e; exact ⟨_, by simp; exact .inr rfl, rfl⟩
    · obtain ⟨y, hy, hk⟩ := he.2.2 m s' hm
      exact ⟨y, by simp only [Array.toList_push, List.mem_append]; exact .inl hy, hk⟩
theorem updG' (H : KeyG k mk) {w : World} {b : Nat} {g : K → Option Value} (h : MapG mk w b g) {t e : TypeId} (ht : Try.prog.underlying t = some (.map k e)) (x : K) (s : Value) :
    ∃ w', (Instr.mapUpdate t (.map (some b)) (mk x) s).run Try.prog w = .ok () w' ∧ MapG mk w' b (upG g x (some s)) ∧ Kept (Only b) w w' ∧ w'.heap.size = w.heap.size := by
  obtain ⟨es, c, hb, he⟩ := h
  rcases findG H x w es.toList he.keys with ⟨h1, h2⟩ | ⟨j, e, h1, h2, h3'⟩
  · refine ⟨setBlock w b (.map (es.push { key := mk x, val := s, born := c }) (c + 1)), ?_, ⟨_, _, (MapKept.heap_set hb).1, he.push H h2 s⟩, kept_setBlock, by simp [setBlock]⟩
    simp [Instr.mapUpdate, run_underlying ht, MapKept.run_getObj_map hb, H.chk, h1, MapKept.run_setObj_map _ hb, Result.andThen, setBlock]
  · have hes : es[j]? = some e := by simpa using h2
    refine ⟨setBlock w b (.map (es.modify j fun e => { e with key := mk x, val := s }) c), ?_, ⟨_, _, (MapKept.heap_set hb).1, he.put H hes h3' s _ (fun _ => .inl rfl) (fun _ => rfl) (fun _ => rfl)⟩, kept_setBlock, by simp [setBlock]⟩
    simp [Instr.mapUpdate, run_underlying ht, MapKept.run_getObj_map hb, H.chk, h1, MapKept.run_setObj_map _ hb, Result.andThen, setBlock, Instr.keyThatStays, hes, h3', H.stay]
theorem entryG (H : KeyG k mk) {w : World} {b : Nat} {g : K → Option Value} (h : MapG mk w b g) {t e : TypeId} (ht : Try.prog.underlying t = some (.map k e)) {z : Value} (hz : (zeroValue e).run Try.prog w = .ok z w) (x : K) :
    ∃ w' s, (Instr.mapEntry t (.map (some b)) (mk x)).run Try.prog w = .ok (.tuple #[(g x).getD z, .int .i64 (s : Nat)]) w' ∧ StpG mk w' b (upG g x (some ((g x).getD z))) x s ∧ Kept (Only b) w w' ∧ w'.heap.size = w.heap.size := by
  obtain ⟨es, c, hb, he⟩ := h
  rcases findG H x w es.toList he.keys with ⟨h1, h2⟩ | ⟨j, e, h1, h2, h3'⟩
  · have hg : g x = none := by
      cases hgn : g x with
      | none => rfl
      | some s =>
        obtain ⟨e, hm, hk⟩ := he.2.2 x s hgn
        exact absurd hk (h2 e hm)
    refine ⟨setBlock w b (.map (es.push { key := mk x, val := z, born := c }) (c + 1)), c, ?_, ⟨_, _, (MapKept.heap_set hb).1, by rw [hg]; exact he.push H h2 z, es.size, { key := mk x, val := z, born := c }, by simp, rfl, rfl⟩, kept_setBlock, by simp [setBlock]⟩
    simp [Instr.mapEntry, run_underlying ht, MapKept.run_getObj_map hb, H.chk, h1, hz, hg, MapKept.run_setObj_map _ hb, Result.andThen, setBlock, goInt]
  · have hes : es[j]? = some e := by simpa using h2
    obtain ⟨y, hk, hg⟩ := he.2.1 e (List.mem_of_getElem? h2)
    obtain rfl := H.inj _ _ (hk.symm.trans h3')
    have hE : EntG mk (es.modify j fun e => { e with key := mk y }) c (upG g y (some e.val)) := by
      have hmod : (es.modify j fun e => { e with key := mk y }) = es := by
        apply Array.ext_getElem?
        intro i
        rw [Array.getElem?_modify]
        split
        · rename_i hij
          subst hij
          rw [hes]
          simp only [Option.map_some, Option.some.injEq]
          cases e; simp_all
        · rfl
      have hug : upG g y (some e.val) = g := by
        funext m
        unfold upG
        split
        · rename_i em; rw [em, hg]
        · rfl
      rw [hmod, hug]
      exact he
    refine ⟨setBlock w b (.map (es.modify j fun e => { e with key := mk y }) c), e.born, ?_, ⟨_, _, (MapKept.heap_set hb).1, by rw [hg]; exact hE, j, { e with key := mk y }, by rw [Array.getElem?_modify, if_pos rfl, hes]; rfl, rfl, rfl⟩, kept_setBlock, by simp [setBlock]⟩
    simp [Instr.mapEntry, run_underlying ht, MapKept.run_getObj_map hb, H.chk, h1, hg, MapKept.run_setObj_map _ hb, Result.andThen, setBlock, goInt, Instr.keyThatStays, hes, h3', H.stay]
theorem storeG (H : KeyG k mk) {w : World} {b : Nat} {g : K → Option Value} {x : K} {s : Nat} (h : StpG mk w b g x s) (t : TypeId) (v : Value) :
    ∃ w', (Instr.entryStore t (.map (some b)) (.int .i64 (s : Nat)) v).run Try.prog w = .ok () w' ∧ MapG mk w' b (upG g x (some v)) ∧ Kept (Only b) w w' ∧ w'.heap.size = w.heap.size := by
  obtain ⟨es, c, hb, he, i, e, hes, hk, rfl⟩ := h
  have hfi : es.findIdx? (fun e' => (e'.born : Int) == ((e.born : Nat) : Int)) = some i := by
    rw [Array.findIdx?_eq_some_iff_getElem]
    obtain ⟨hi, hei⟩ := Array.getElem?_eq_some_iff.1 hes
    refine ⟨hi, by rw [hei]; simp, fun j hj => ?_⟩
    have hnd := he.1.2.1
    intro hbad
    have hb0 : ((es[j].born : Nat) : Int) = ((e.born : Nat) : Int) := by simpa using hbad
    have hb1 : es[j].born = e.born := by omega
    have h1 : (es.toList.map (·.born))[j]? = some e.born := by simp [Array.getElem?_eq_getElem (show j < es.size by omega), hb1]
    have h2 : (es.toList.map (·.born))[i]? = some e.born := by simp [hes]
    have hlt : j < (es.toList.map (·.born)).length := (List.getElem?_eq_some_iff.1 h1).1
    have := (List.getElem?_inj hlt hnd).1 (h1.trans h2.symm)
    omega
  refine ⟨setBlock w b (.map (es.modify i fun e => { e with val := v }) c), ?_, ⟨_, _, (MapKept.heap_set hb).1, he.put H hes hk v _ (fun _ => .inr rfl) (fun _ => rfl) (fun _ => rfl)⟩, kept_setBlock, by simp [setBlock]⟩
  simp [Instr.entryStore, MapKept.run_getObj_map hb, asInt, asIntOf, hfi, MapKept.run_setObj_map _ hb, Result.andThen, setBlock]
theorem delG (H : KeyG k mk) {w : World} {b : Nat} {g : K → Option Value} (h : MapG mk w b g) {t e ty : TypeId} (ht : Try.prog.underlying t = some (.map k e)) (x : K) :
    ∃ w', (Builtin.delete_ #[t, k] ty #[.map (some b), mk x]).run Try.prog w = .ok (.tuple #[]) w' ∧ MapG mk w' b (upG g x none) ∧ Kept (Only b) w w' ∧ w'.heap.size = w.heap.size := by
  obtain ⟨es, c, hb, he⟩ := h
  rcases findG H x w es.toList he.keys with ⟨h1, h2⟩ | ⟨j, e, h1, h2, h3'⟩
  · refine ⟨setBlock w b (.map es c), ?_, ⟨_, _, (MapKept.heap_set hb).1, he.1, fun y hy => ?_, fun m s hm => ?_⟩, kept_setBlock, by simp [setBlock]⟩
    · simp [Builtin.delete_, run_underlying ht, MapKept.run_getObj_map hb, H.chk, h1, MapKept.run_setObj_map _ hb, Result.andThen, setBlock]
    · obtain ⟨m, hk, hg⟩ := he.2.1 y hy
      refine ⟨m, hk, ?_⟩
      have : m ≠ x := fun e => h2 y hy (by rw [hk, e])
      simp [upG, this, hg]
    · unfold upG at hm
      split at hm
      · cases hm
      · exact he.2.2 m s hm
  · have hes : es[j]? = some e := by simpa using h2
    obtain ⟨hj, hej⟩ := Array.getElem?_eq_some_iff.1 hes
    have hE : (es.eraseIdxIfInBounds j).toList = es.toList.eraseIdx j := by
      unfold Array.eraseIdxIfInBounds
      rw [dif_pos hj]
      simp
    refine ⟨setBlock w b (.map (es.eraseIdxIfInBounds j) c), ?_, ⟨_, _, (MapKept.heap_set hb).1, MapKept.stamped_erase he.1 j, fun y hy => ?_, fun m s hm => ?_⟩, kept_setBlock, by simp [setBlock]⟩
    · simp [Builtin.delete_, run_underlying ht, MapKept.run_getObj_map hb, H.chk, h1, MapKept.run_setObj_map _ hb, Result.andThen, setBlock]
    · rw [hE] at hy
      obtain ⟨i, hi, hy'⟩ := List.mem_eraseIdx_iff_getElem?.1 hy
      obtain ⟨m, hk, hg⟩ := he.2.1 y (List.mem_of_getElem? hy')
      refine ⟨m, hk, ?_⟩
      have hne : m ≠ x := fun em => by
        have hnd := he.1.2.2
        have hj' : (es.toList.map (·.key))[j]? = some (mk x) := by simp [hes, h3']
        have hk' : (es.toList.map (·.key))[i]? = some (mk x) := by
          rw [List.getElem?_map, hy']; simp [hk, em]
        have hlt : i < (es.toList.map (·.key)).length := (List.getElem?_eq_some_iff.1 hk').1
        exact hi ((List.getElem?_inj hlt hnd).1 (hk'.trans hj'.symm))
      simp [upG, hne, hg]
    · unfold upG at hm
      split at hm
      · cases hm
      · rename_i hmx
        obtain ⟨y, hy, hk⟩ := he.2.2 m s hm
        refine ⟨y, ?_, hk⟩
        rw [hE]
        obtain ⟨i, hi⟩ := List.mem_iff_getElem?.1 hy
        refine List.mem_eraseIdx_iff_getElem?.2 ⟨i, fun e => ?_, hi⟩
        subst e
        rw [show es.toList[i]? = es[i]? by simp, hes] at hi
        cases hi
        exact hmx (H.inj _ _ (hk.symm.trans h3'))
theorem clrG {w : World} {b : Nat} {g : K → Option Value} (h : MapG mk w b g) {t e ty : TypeId} (ht : Try.prog.underlying t = some (.map k e)) :
    ∃ w', (Builtin.clear_ #[t] ty #[.map (some b)]).run Try.prog w = .ok (.tuple #[]) w' ∧ MapG mk w' b (fun _ => none) ∧ Kept (Only b) w w' ∧ w'.heap.size = w.heap.size := by
  obtain ⟨es, c, hb, he⟩ := h
  refine ⟨setBlock w b (.map #[] c), ?_, ⟨#[], c, (MapKept.heap_set hb).1, MapKept.stamped_empty c, by simp, by simp⟩, kept_setBlock, by simp [setBlock]⟩
  simp [Builtin.clear_, run_underlying ht, MapKept.run_getObj_map hb, MapKept.run_setObj_map _ hb, Result.andThen, setBlock]
end

/-- An address, a packet's name, a way: as keys. -/
abbrev Ad := Bool × Int
abbrev Nm := Ad × Int
abbrev Pr := Ad × Ad
def mkA (a : Ad) : Value := .agg #[.bool a.1, .int .i64 a.2]
def mkN (n : Nm) : Value := .agg #[.bool n.1.1, .int .i64 n.1.2, .int .i64 n.2]
def mkP (p : Pr) : Value := .agg #[.bool p.1.1, .int .i64 p.1.2, .bool p.2.1, .int .i64 p.2.2]
theorem eqIo (a b : Int) (n : Nat) (w : World) : (Op.equalIn (n + 1) 3 (.int .i64 a) (.int .i64 b)).run Try.prog w = .ok (a == b) w := run_equalIn_int w n 3 .i64 .i64 a b (by kernel_rfl)
theorem eqBo (a b : Bool) (n : Nat) (w : World) : (Op.equalIn (n + 1) 4 (.bool a) (.bool b)).run Try.prog w = .ok (a == b) w := run_equalIn_bool w n 4 a b (by kernel_rfl)
theorem eqf_nil (d : Nat) (xs ys : Array Value) (w : World) : (Op.eqFields d xs ys []).run Try.prog w = .ok true w := by simp [Op.eqFields]
theorem eqf_cons (d : Nat) (xs ys : Array Value) (f : Field) (fs : List Field) (w : World) (a b : Value) (r r' : Bool) (hn : f.name ≠ "_") (ha : (part f.type xs f.offset).run Try.prog w = .ok a w) (hb : (part f.type ys f.offset).run Try.prog w = .ok b w) (he : (Op.equalIn d f.type a b).run Try.prog w = .ok r w) (h : (Op.eqFields d xs ys fs).run Try.prog w = .ok r' w) : (Op.eqFields d xs ys (f :: fs)).run Try.prog w = .ok (r && r') w := by
  cases r <;> simp [Op.eqFields, hn, ha, hb, he, h, Result.andThen]
theorem flds34 : (Try.prog.fieldsOf 34).toList = [{ name := "Client", type := 4, offset := 0, embedded := false, tag := "", pkgPath := "", byteOffset := 0 }, { name := "Id", type := 3, offset := 1, embedded := false, tag := "", pkgPath := "", byteOffset := 8 }] := by kernel_rfl
theorem eq34 (a b : Ad) (n : Nat) (w : World) : (Op.equalIn (n + 1 + 1) 34 (mkA a) (mkA b)).run Try.prog w = .ok (a.1 == b.1 && (a.2 == b.2 && true)) w := by
  unfold mkA
  rw [run_equalIn_struct w (n + 1) 34 _ _ (by kernel_rfl) (by kernel_rfl), flds34]
  refine eqf_cons _ _ _ _ _ w (.bool a.1) (.bool b.1) _ _ (by decide) (by kernel_rfl) (by kernel_rfl) (eqBo _ _ _ _) ?_
  exact eqf_cons _ _ _ _ [] w (.int .i64 a.2) (.int .i64 b.2) _ _ (by decide) (by kernel_rfl) (by kernel_rfl) (eqIo _ _ _ _) (eqf_nil _ _ _ _)
theorem flds79 : (Try.prog.fieldsOf 79).toList = [{ name := "from", type := 34, offset := 0, embedded := false, tag := "", pkgPath := "cairn/net", byteOffset := 0 }, { name := "count", type := 3, offset := 2, embedded := false, tag := "", pkgPath := "cairn/net", byteOffset := 16 }] := by kernel_rfl
theorem eq79 (a b : Nm) (n : Nat) (w : World) : (Op.equalIn (n + 1 + 1 + 1) 79 (mkN a) (mkN b)).run Try.prog w = .ok ((a.1.1 == b.1.1 && (a.1.2 == b.1.2 && true)) && (a.2 == b.2 && true)) w := by
  unfold mkN
  rw [run_equalIn_struct w (n + 1 + 1) 79 _ _ (by kernel_rfl) (by kernel_rfl), flds79]
  refine eqf_cons _ _ _ _ _ w (mkA a.1) (mkA b.1) _ _ (by decide) (by kernel_rfl) (by kernel_rfl) (eq34 _ _ _ _) ?_
  exact eqf_cons _ _ _ _ [] w (.int .i64 a.2) (.int .i64 b.2) _ _ (by decide) (by kernel_rfl) (by kernel_rfl) (eqIo _ _ _ _) (eqf_nil _ _ _ _)
theorem flds76 : (Try.prog.fieldsOf 76).toList = [{ name := "from", type := 34, offset := 0, embedded := false, tag := "", pkgPath := "cairn/net", byteOffset := 0 }, { name := "to", type := 34, offset := 2, embedded := false, tag := "", pkgPath := "cairn/net", byteOffset := 16 }] := by kernel_rfl
theorem eq76 (a b : Pr) (n : Nat) (w : World) : (Op.equalIn (n + 1 + 1 + 1) 76 (mkP a) (mkP b)).run Try.prog w = .ok ((a.1.1 == b.1.1 && (a.1.2 == b.1.2 && true)) && ((a.2.1 == b.2.1 && (a.2.2 == b.2.2 && true)) && true)) w := by
  unfold mkP
  rw [run_equalIn_struct w (n + 1 + 1) 76 _ _ (by kernel_rfl) (by kernel_rfl), flds76]
  refine eqf_cons _ _ _ _ _ w (mkA a.1) (mkA b.1) _ _ (by decide) (by kernel_rfl) (by kernel_rfl) (eq34 _ _ _ _) ?_
  exact eqf_cons _ _ _ _ [] w (mkA a.2) (mkA b.2) _ _ (by decide) (by kernel_rfl) (by kernel_rfl) (eq34 _ _ _ _) (eqf_nil _ _ _ _)
theorem bits1 (a : Bool) (n : Nat) : Instr.sameBits n (.bool a) (.bool a) = true := by cases n <;> simp [Instr.sameBits]
theorem bits2 (a : Int) (n : Nat) : Instr.sameBits n (.int .i64 a) (.int .i64 a) = true := by cases n <;> simp [Instr.sameBits]
theorem keyA : KeyG 34 mkA where
  inj := fun x y h => by
    unfold mkA at h
    simp only [Value.agg.injEq, Array.mk.injEq, List.cons.injEq, Value.bool.injEq, Value.int.injEq, true_and, and_true] at h
    exact Prod.ext h.1 h.2
  und := ⟨.struct (Try.prog.fieldsOf 34), by kernel_rfl, fun x v => by unfold mkA; cases v <;> rfl⟩
  chk := fun x e w => by unfold mkA; kernel_rfl
  eql := fun x y w => by
    refine (eq34 x y 9998 w).trans ?_
    congr 1
    rw [Bool.eq_iff_iff]; simp [Prod.ext_iff]
  stay := fun x => by unfold mkA; simp [Instr.sameBits, bits1, bits2]
theorem keyN : KeyG 79 mkN where
  inj := fun x y h => by
    unfold mkN at h
    simp only [Value.agg.injEq, Array.mk.injEq, List.cons.injEq, Value.bool.injEq, Value.int.injEq, true_and, and_true] at h
    exact Prod.ext (Prod.ext h.1 h.2.1) h.2.2
  und := ⟨.struct (Try.prog.fieldsOf 79), by kernel_rfl, fun x v => by unfold mkN; cases v <;> rfl⟩
  chk := fun x e w => by unfold mkN; kernel_rfl
  eql := fun x y w => by
    refine (eq79 x y 9997 w).trans ?_
    congr 1
    rw [Bool.eq_iff_iff]; simp [Prod.ext_iff]
  stay := fun x => by unfold mkN; simp [Instr.sameBits, bits1, bits2]
theorem keyP : KeyG 76 mkP where
  inj := fun x y h => by
    unfold mkP at h
    simp only [Value.agg.injEq, Array.mk.injEq, List.cons.injEq, Value.bool.injEq, Value.int.injEq, true_and, and_true] at h
    exact Prod.ext (Prod.ext h.1 h.2.1) (Prod.ext h.2.2.1 h.2.2.2)
  und := ⟨.struct (Try.prog.fieldsOf 76), by kernel_rfl, fun x v => by unfold mkP; cases v <;> rfl⟩
  chk := fun x e w => by unfold mkP; kernel_rfl
  eql := fun x y w => by
    refine (eq76 x y 9997 w).trans ?_
    congr 1
    rw [Bool.eq_iff_iff]; simp [Prod.ext_iff]
  stay := fun x => by unfold mkP; simp [Instr.sameBits, bits1, bits2]

end Go.Proofs.Ytphiokehcgbldaa
