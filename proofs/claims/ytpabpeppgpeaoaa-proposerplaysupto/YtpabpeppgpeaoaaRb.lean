import Derived.Test.YtpabpeppgpeaoaaMdc
namespace Go.Proofs.Ytpabpeppgpeaoaa.Md
open Go.RowKit
set_option linter.unusedVariables false
set_option linter.unusedSimpArgs false

/-- What a function holds while it runs: blocks of its own, and such that it may write. -/
structure Fq (S : Nat → Prop) (w0 w : World) (l : List (Nat × TypeId × Array Value)) : Prop where
  kept : Kept S w0 w
  box : ∀ (i : Nat) g T cs, l[i]? = some (g, T, cs) → Box w g T cs
  low : ∀ (i : Nat) g T cs, l[i]? = some (g, T, cs) → w0.heap.size ≤ g ∨ S g
  inj : ∀ (i j : Nat) g T cs T' cs', l[i]? = some (g, T, cs) → l[j]? = some (g, T', cs') → i = j
theorem kept_row {S : Nat → Prop} {a w : World} (h : Kept S a w) {g : Nat} (hg : a.heap.size ≤ g ∨ S g) (cs : Array Value) : Kept S a (w.setRow g cs) :=
  hg.elim (fun e => h.newRowS e cs) (fun e => h.inRow e cs)
theorem Fq.start (S : Nat → Prop) (w : World) : Fq S w w [] := ⟨Kept.refl S w, by simp, by simp, by simp⟩
theorem Fq.drew {S : Nat → Prop} {w0 w : World} {l : List (Nat × TypeId × Array Value)} (h : Fq S w0 w l) : Fq S w0 w.drew l := ⟨h.kept.drew, h.box, h.low, h.inj⟩
theorem Fq.alloc {S : Nat → Prop} {w0 w : World} {l : List (Nat × TypeId × Array Value)} (h : Fq S w0 w l) (T : TypeId) (cs : Array Value) : Fq S w0 (w.alloc (.cells cs T)) (l ++ [(w.heap.size, T, cs)]) := by
  refine ⟨h.kept.alloc _, ?_, ?_, ?_⟩
  · intro i g T' cs' hi
    rw [List.getElem?_append] at hi
    split at hi
    · exact (h.box i g T' cs' hi).alloc _
    · obtain ⟨rfl, rfl, rfl⟩ : w.heap.size = g ∧ T = T' ∧ cs = cs' := by
        have := List.mem_of_getElem? hi
        simpa [eq_comm] using this
      exact Box.new _ _ _
  · intro i g T' cs' hi
    rw [List.getElem?_append] at hi
    split at hi
    · exact h.low i g T' cs' hi
    · obtain ⟨rfl, rfl, rfl⟩ : w.heap.size = g ∧ T = T' ∧ cs = cs' := by
        have := List.mem_of_getElem? hi
        simpa [eq_comm] using this
      exact .inl h.kept.size
  · intro i j g T1 cs1 T2 cs2 hi hj
    rw [List.getElem?_append] at hi hj
    split at hi <;> split at hj
    · exact h.inj i j g T1 cs1 T2 cs2 hi hj
    · have h1 := (h.box i g T1 cs1 hi).lt
      have h2 : g = w.heap.size := by have := List.mem_of_getElem? hj; simp at this; exact this.1
      omega
    · have h1 := (h.box j g T2 cs2 hj).lt
      have h2 : g = w.heap.size := by have := List.mem_of_getElem? hi; simp at this; exact this.1
      omega
    · have h1 := (List.getElem?_eq_some_iff.1 hi).1
      have h2 := (List.getElem?_eq_some_iff.1 hj).1
      simp at h1 h2
      omega
theorem Fq.set {S : Nat → Prop} {w0 w : World} {l : List (Nat × TypeId × Array Value)} (h : Fq S w0 w l) (i : Nat) {g : Nat} {T : TypeId} {cs : Array Value} (hi : l[i]? = some (g, T, cs)) (cs' : Array Value) : Fq S w0 (w.setRow g cs') (l.set i (g, T, cs')) := by
  have hlt := (List.getElem?_eq_some_iff.1 hi).1
  have key : ∀ (j : Nat) g1 T1 cs1, (l.set i (g, T, cs'))[j]? = some (g1, T1, cs1) → (j = i ∧ g1 = g ∧ T1 = T ∧ cs1 = cs') ∨ (j ≠ i ∧ l[j]? = some (g1, T1, cs1)) := by
    intro j g1 T1 cs1 hj
    rw [List.getElem?_set] at hj
    by_cases e : i = j
    · subst e
      simp [hlt] at hj
      exact .inl ⟨rfl, hj.1.symm, hj.2.1.symm, hj.2.2.symm⟩
    · simp [e] at hj
      exact .inr ⟨fun h => e h.symm, hj⟩
  refine ⟨kept_row h.kept (h.low i g T cs hi) _, ?_, ?_, ?_⟩
  · intro j g1 T1 cs1 hj
    rcases key j g1 T1 cs1 hj with ⟨rfl, rfl, rfl, rfl⟩ | ⟨hne, hj2⟩
    · exact (h.box _ _ _ _ hi).setRow _
    · refine (h.box j g1 T1 cs1 hj2).rowNe (fun e => hne ?_) _
      subst e
      exact h.inj j i _ _ _ _ _ hj2 hi
  · intro j g1 T1 cs1 hj
    rcases key j g1 T1 cs1 hj with ⟨rfl, rfl, rfl, rfl⟩ | ⟨hne, hj⟩
    · exact h.low _ _ _ _ hi
    · exact h.low j g1 T1 cs1 hj
  · intro j k g1 T1 cs1 T2 cs2 hj hk
    rcases key j g1 T1 cs1 hj with ⟨rfl, rfl, rfl, rfl⟩ | ⟨hne, hj2⟩ <;> rcases key k g1 T2 cs2 hk with ⟨rfl, h1, h2, h3⟩ | ⟨hne', hk2⟩
    · rfl
    · exact h.inj _ _ _ _ _ _ _ hi hk2
    · subst h1; exact h.inj _ _ _ _ _ _ _ hj2 hi
    · exact h.inj _ _ _ _ _ _ _ hj2 hk2
theorem Fq.no {S : Nat → Prop} {w0 w w' : World} {l : List (Nat × TypeId × Array Value)} (h : Fq S w0 w l) (hk : Kept No w w') : Fq S w0 w' l :=
  ⟨h.kept.thenNo hk, fun i g T cs hi => (h.box i g T cs hi).kept hk (fun e => e), h.low, h.inj⟩
theorem Fq.ne {S : Nat → Prop} {w0 w : World} {l : List (Nat × TypeId × Array Value)} (h : Fq S w0 w l) (i j : Nat) {g g' : Nat} {T T' : TypeId} {cs cs' : Array Value} (hi : l[i]? = some (g, T, cs)) (hj : l[j]? = some (g', T', cs')) (hne : i ≠ j) : g ≠ g' := by
  rintro rfl
  exact hne (h.inj i j _ _ _ _ _ hi hj)
theorem Fq.put {S : Nat → Prop} {w0 w w' : World} {l : List (Nat × TypeId × Array Value)} (h : Fq S w0 w l) (i : Nat) {g : Nat} {T : TypeId} {cs cs' : Array Value} (hi : l[i]? = some (g, T, cs)) (hk : Kept (Only g) w w') (hb : Box w' g T cs') : Fq S w0 w' (l.set i (g, T, cs')) := by
  have hlt := (List.getElem?_eq_some_iff.1 hi).1
  have key : ∀ (j : Nat) g1 T1 cs1, (l.set i (g, T, cs'))[j]? = some (g1, T1, cs1) → (j = i ∧ g1 = g ∧ T1 = T ∧ cs1 = cs') ∨ (j ≠ i ∧ l[j]? = some (g1, T1, cs1)) := by
    intro j g1 T1 cs1 hj
    rw [List.getElem?_set] at hj
    by_cases e : i = j
    · subst e
      simp [hlt] at hj
      exact .inl ⟨rfl, hj.1.symm, hj.2.1.symm, hj.2.2.symm⟩
    · simp [e] at hj
      exact .inr ⟨fun h => e h.symm, hj⟩
  refine ⟨h.kept.trans hk (fun _ e => e) (fun k hk' e => by
    have e : k = g := e
    rcases h.low i g T cs hi with h1 | h1
    · omega
    · rw [e]; exact h1), ?_, ?_, ?_⟩
  · intro j g1 T1 cs1 hj
    rcases key j g1 T1 cs1 hj with ⟨rfl, rfl, rfl, rfl⟩ | ⟨hne, hj2⟩
    · exact hb
    · refine (h.box j g1 T1 cs1 hj2).kept hk (fun e => hne ?_)
      have e : g1 = g := e
      subst e
      exact h.inj j i _ _ _ _ _ hj2 hi
  · intro j g1 T1 cs1 hj
    rcases key j g1 T1 cs1 hj with ⟨rfl, rfl, rfl, rfl⟩ | ⟨hne, hj⟩
    · exact h.low _ _ _ _ hi
    · exact h.low j g1 T1 cs1 hj
  · intro j k g1 T1 cs1 T2 cs2 hj hk
    rcases key j g1 T1 cs1 hj with ⟨rfl, rfl, rfl, rfl⟩ | ⟨hne, hj2⟩ <;> rcases key k g1 T2 cs2 hk with ⟨rfl, h1, h2, h3⟩ | ⟨hne', hk2⟩
    · rfl
    · exact h.inj _ _ _ _ _ _ _ hi hk2
    · subst h1; exact h.inj _ _ _ _ _ _ _ hj2 hi
    · exact h.inj _ _ _ _ _ _ _ hj2 hk2
theorem Fq.add {S : Nat → Prop} {w0 w w' : World} {l : List (Nat × TypeId × Array Value)} (h : Fq S w0 w l) {g : Nat} {T : TypeId} {cs : Array Value} (hk : Kept No w w') (hg : w.heap.size ≤ g) (hb : Box w' g T cs) : Fq S w0 w' (l ++ [(g, T, cs)]) := by
  have h1 := h.no hk
  refine ⟨h1.kept, ?_, ?_, ?_⟩
  · intro i g1 T1 cs1 hi
    rw [List.getElem?_append] at hi
    split at hi
    · exact h1.box i g1 T1 cs1 hi
    · obtain ⟨rfl, rfl, rfl⟩ : g = g1 ∧ T = T1 ∧ cs = cs1 := by
        have := List.mem_of_getElem? hi
        simpa [eq_comm] using this
      exact hb
  · intro i g1 T1 cs1 hi
    rw [List.getElem?_append] at hi
    split at hi
    · exact h1.low i g1 T1 cs1 hi
    · obtain ⟨rfl, rfl, rfl⟩ : g = g1 ∧ T = T1 ∧ cs = cs1 := by
        have := List.mem_of_getElem? hi
        simpa [eq_comm] using this
      exact .inl (Nat.le_trans h.kept.size hg)
  · intro i j g1 T1 cs1 T2 cs2 hi hj
    rw [List.getElem?_append] at hi hj
    split at hi <;> split at hj
    · exact h.inj i j g1 T1 cs1 T2 cs2 hi hj
    · have q1 := (h.box i g1 T1 cs1 hi).lt
      have q2 : g1 = g := by have := List.mem_of_getElem? hj; simp at this; exact this.1
      omega
    · have q1 := (h.box j g1 T2 cs2 hj).lt
      have q2 : g1 = g := by have := List.mem_of_getElem? hi; simp at this; exact this.1
      omega
    · have q1 := (List.getElem?_eq_some_iff.1 hi).1
      have q2 := (List.getElem?_eq_some_iff.1 hj).1
      simp at q1 q2
      omega
theorem Fq.front {S : Nat → Prop} {w0 w : World} {l m : List (Nat × TypeId × Array Value)} (h : Fq S w0 w (l ++ m)) : Fq S w0 w l :=
  ⟨h.kept, fun i g T cs hi => h.box i g T cs (List.getElem?_append_left (List.getElem?_eq_some_iff.1 hi).1 ▸ hi), fun i g T cs hi => h.low i g T cs (List.getElem?_append_left (List.getElem?_eq_some_iff.1 hi).1 ▸ hi),
    fun i j g T cs T' cs' hi hj => h.inj i j g T cs T' cs' (List.getElem?_append_left (List.getElem?_eq_some_iff.1 hi).1 ▸ hi) (List.getElem?_append_left (List.getElem?_eq_some_iff.1 hj).1 ▸ hj)⟩
theorem Fq.app {S : Nat → Prop} {w0 w w' : World} {l : List (Nat × TypeId × Array Value)} {T : TypeId} {c cap n : Nat} {sa : Option Addr} {vs : List Value} (h : Fq S w0 w l) (ho : Own T c w w0.heap.size sa cap n vs) (hk : Kept (At sa) w w') (hT : ∀ x ∈ l, x.2.1 ≠ T) : Fq S w0 w' l :=
  ⟨h.kept.trans hk (fun _ e => e) (fun k hk' e => by have := ho.base e; omega), fun i g T' cs hi => (h.box i g T' cs hi).kept hk (fun e => ho.notBox (h.box i g T' cs hi) (fun e => hT _ (List.mem_of_getElem? hi) e.symm) e), h.low, h.inj⟩
/-- The reference's proposer, and its tally. -/
structure Rv where
  cl : Int
  op : Int
  ky : Ky
  g : Sl
  mine : Cm
  ch : Cm
  n : Int
  rd : Int
  nt : Int
  ph : Int
  an : Sl
  co : Sl
  he : Sl
  cm : Sl
  nk : Bool
  de : Bool
  tr : Bool
  wo : Bool
  dc : Cm
  bk : Bv
structure Rt where
  g : Sl
  vs : Sl
  hs : Sl
  nd : Int
def Rv.cs (x : Rv) : List Value := [.int .i64 x.cl, .int .i64 x.op] ++ (x.ky.cs ++ ([x.g.v] ++ (x.mine.cs ++ (x.ch.cs ++ ([.int .i64 x.n, .int .i64 x.rd, .int .i64 x.nt, .int .i64 x.ph, x.an.v, x.co.v, x.he.v, x.cm.v, .bool x.nk, .bool x.de, .bool x.tr, .bool x.wo] ++ (x.dc.cs ++ x.bk.cs))))))
def Rv.cells (x : Rv) : Array Value := x.cs.toArray
def Rt.cs (x : Rt) : List Value := [x.g.v, x.vs.v, x.hs.v, .int .i64 x.nd]
def Rt.cells (x : Rt) : Array Value := x.cs.toArray
def rvZ : Rv := ⟨0, 0, kyZ, slZ, cZ, cZ, 0, 0, 0, 0, slZ, slZ, slZ, slZ, false, false, false, false, cZ, bvZ⟩
theorem Rv.oneL (x : Rv) : ∀ v ∈ x.cs, v.oneCell' = true := by simp [Rv.cs, Ky.cs, Cm.cs, Bv.cs, Value.oneCell', Sl.v]
theorem Rt.oneL (x : Rt) : ∀ v ∈ x.cs, v.oneCell' = true := by simp [Rt.cs, Value.oneCell', Sl.v]
def boL (l : List Bool) : List Value := (l.map (fun b => [Value.bool b])).flatten
def spL (l : List Sp) : List Value := (l.map Sp.cs).flatten
def inL (l : List Int) : List Value := (l.map (fun b => [Value.int .i64 b])).flatten
theorem S3 : (Try.prog.info? 3).map (·.size) = some 1 := by kernel_rfl
theorem S4 : (Try.prog.info? 4).map (·.size) = some 1 := by kernel_rfl
theorem S23 : (Try.prog.info? 23).map (·.size) = some 4 := by kernel_rfl
theorem S28 : (Try.prog.info? 28).map (·.size) = some 9 := by kernel_rfl
theorem S37 : (Try.prog.info? 37).map (·.size) = some 2 := by kernel_rfl
theorem S39 : (Try.prog.info? 39).map (·.size) = some 2 := by kernel_rfl
theorem S44 : (Try.prog.info? 44).map (·.size) = some 3 := by kernel_rfl
theorem S45 : (Try.prog.info? 45).map (·.size) = some 1 := by kernel_rfl
theorem S47 : (Try.prog.info? 47).map (·.size) = some 30 := by kernel_rfl
theorem S53 : (Try.prog.info? 53).map (·.size) = some 1 := by kernel_rfl
theorem S54 : (Try.prog.info? 54).map (·.size) = some 1 := by kernel_rfl
theorem S56 : (Try.prog.info? 56).map (·.size) = some 49 := by kernel_rfl
theorem U23 : Try.prog.underlying 23 = some (.struct (Try.prog.fieldsOf 23)) := by kernel_rfl
theorem U28 : Try.prog.underlying 28 = some (.struct (Try.prog.fieldsOf 28)) := by kernel_rfl
theorem U39 : Try.prog.underlying 39 = some (.struct (Try.prog.fieldsOf 39)) := by kernel_rfl
theorem U44 : Try.prog.underlying 44 = some (.struct (Try.prog.fieldsOf 44)) := by kernel_rfl
theorem U47 : Try.prog.underlying 47 = some (.struct (Try.prog.fieldsOf 47)) := by kernel_rfl
theorem U3 : Try.prog.underlying 3 = some (.int .i64) := by kernel_rfl
theorem U4 : Try.prog.underlying 4 = some .bool := by kernel_rfl
theorem U24 : Try.prog.underlying 24 = some (.slice 3) := by kernel_rfl
theorem E24 : Try.prog.underlying 24 = some (.slice (Try.prog.elem 24)) := by kernel_rfl
theorem F24 : (Try.prog.info? (Try.prog.elem 24)).map (·.size) = some 1 := by kernel_rfl
theorem U45 : Try.prog.underlying 45 = some (.slice 28) := by kernel_rfl
theorem E45 : Try.prog.underlying 45 = some (.slice (Try.prog.elem 45)) := by kernel_rfl
theorem F45 : (Try.prog.info? (Try.prog.elem 45)).map (·.size) = some 9 := by kernel_rfl
theorem U53 : Try.prog.underlying 53 = some (.slice 4) := by kernel_rfl
theorem E53 : Try.prog.underlying 53 = some (.slice (Try.prog.elem 53)) := by kernel_rfl
theorem F53 : (Try.prog.info? (Try.prog.elem 53)).map (·.size) = some 1 := by kernel_rfl
theorem U54 : Try.prog.underlying 54 = some (.slice 39) := by kernel_rfl
theorem E54 : Try.prog.underlying 54 = some (.slice (Try.prog.elem 54)) := by kernel_rfl
theorem F54 : (Try.prog.info? (Try.prog.elem 54)).map (·.size) = some 2 := by kernel_rfl
theorem U66 : Try.prog.underlying 66 = some (.slice 47) := by kernel_rfl
theorem E66 : Try.prog.underlying 66 = some (.slice (Try.prog.elem 66)) := by kernel_rfl
theorem F66 : (Try.prog.info? (Try.prog.elem 66)).map (·.size) = some 30 := by kernel_rfl
theorem Z23 : (Try.prog.info? 23).bind (·.zero) = some (.agg kyZ.cells) := by kernel_rfl
theorem Z28 : (Try.prog.info? 28).bind (·.zero) = some (.agg cZ.cells) := by kernel_rfl
theorem Z39 : (Try.prog.info? 39).bind (·.zero) = some (.agg spZ.cells) := by kernel_rfl
theorem Z44 : (Try.prog.info? 44).bind (·.zero) = some (.agg bvZ.cells) := by kernel_rfl
theorem Z47 : (Try.prog.info? 47).bind (·.zero) = some (.agg mgZ.cells) := by kernel_rfl
theorem Z56 : (Try.prog.info? 56).bind (·.zero) = some (.agg rvZ.cells) := by kernel_rfl
theorem I4 : (Try.prog.info? 4).map (fun i => (i.zero, i.size, i.bytes)) = some (some (.bool false), 1, 1) := by kernel_rfl
theorem I39 : (Try.prog.info? 39).map (fun i => (i.zero, i.size, i.bytes)) = some (some (.agg spZ.cells), 2, 16) := by kernel_rfl
theorem I3 : (Try.prog.info? 3).map (fun i => (i.zero, i.size, i.bytes)) = some (some (.int .i64 0), 1, 8) := by kernel_rfl
theorem I47 : (Try.prog.info? 47).map (fun i => (i.zero, i.size, i.bytes)) = some (some (.agg mgZ.cells), 30, 312) := by kernel_rfl
theorem make_bo (w : World) (n : Nat) (hb : n ≤ 100000000) : (Instr.makeSlice 53 (.int .i64 (n : Int)) (.int .i64 (n : Int))).run Try.prog w = .ok (.slice (some ⟨w.heap.size, 0, none⟩) n n) (w.alloc (.cells (boL (List.replicate n false)).toArray 4)) := by
  cases hq : Try.prog.info? 4 with
  | none => have := I4; simp [hq] at this
  | some i =>
    have h1 := I4
    simp only [hq, Option.map_some, Option.some.injEq, Prod.mk.injEq] at h1
    obtain ⟨hz, hs, hby⟩ := h1
    have h := run_make (P := Try.prog) w 53 4 i (.bool false) U53 hq hz .i64 .i64 (n : Int) (n : Int) (by omega) (by omega) (by rw [hby]; omega) (by omega)
    rw [h, hs, show boL (List.replicate n false) = ((List.replicate n [Value.bool false]).flatten) by simp [boL]]
    simp only [Int.toNat_natCast]
    have hm := made_row 1 [Value.bool false] rfl (by omega) n
    rw [← hm]
    rfl
theorem make_sp (w : World) (n : Nat) (hb : n ≤ 100000000) : (Instr.makeSlice 54 (.int .i64 (n : Int)) (.int .i64 (n : Int))).run Try.prog w = .ok (.slice (some ⟨w.heap.size, 0, none⟩) n n) (w.alloc (.cells (spL (List.replicate n spZ)).toArray 39)) := by
  cases hq : Try.prog.info? 39 with
  | none => have := I39; simp [hq] at this
  | some i =>
    have h1 := I39
    simp only [hq, Option.map_some, Option.some.injEq, Prod.mk.injEq] at h1
    obtain ⟨hz, hs, hby⟩ := h1
    have h := run_make (P := Try.prog) w 54 39 i (.agg spZ.cells) U54 hq hz .i64 .i64 (n : Int) (n : Int) (by omega) (by omega) (by rw [hby]; omega) (by omega)
    rw [h, hs, show spL (List.replicate n spZ) = ((List.replicate n spZ.cs).flatten) by simp [spL]]
    simp only [Int.toNat_natCast]
    have hm := made_row 2 spZ.cs rfl (by omega) n
    rw [← hm]
    rfl
theorem make_in (w : World) (n : Nat) (hb : n ≤ 100000000) : (Instr.makeSlice 24 (.int .i64 (n : Int)) (.int .i64 (n : Int))).run Try.prog w = .ok (.slice (some ⟨w.heap.size, 0, none⟩) n n) (w.alloc (.cells (inL (List.replicate n 0)).toArray 3)) := by
  cases hq : Try.prog.info? 3 with
  | none => have := I3; simp [hq] at this
  | some i =>
    have h1 := I3
    simp only [hq, Option.map_some, Option.some.injEq, Prod.mk.injEq] at h1
    obtain ⟨hz, hs, hby⟩ := h1
    have h := run_make (P := Try.prog) w 24 3 i (.int .i64 0) U24 hq hz .i64 .i64 (n : Int) (n : Int) (by omega) (by omega) (by rw [hby]; omega) (by omega)
    rw [h, hs, show inL (List.replicate n 0) = ((List.replicate n [Value.int .i64 0]).flatten) by simp [inL]]
    simp only [Int.toNat_natCast]
    have hm := made_row 1 [Value.int .i64 0] rfl (by omega) n
    rw [← hm]
    rfl

/-- Rows of one's own: read at a place, laid at a place. -/
theorem flat_set (c : Nat) : ∀ (xs : List (List Value)), (∀ x ∈ xs, x.length = c) → ∀ (i : Nat) (y : List Value), y.length = c → i < xs.length → putL xs.flatten (i * c) y = (xs.set i y).flatten
  | [], _, i, y, _, h => by simp at h
  | x :: xs, hc, 0, y, hy, _ => by
    have hx : x.length = c := hc x (by simp)
    simp [putL, hy, hx]
  | x :: xs, hc, i + 1, y, hy, h => by
    have hx : x.length = c := hc x (by simp)
    have ih := flat_set c xs (fun z hz => hc z (by simp [hz])) i y hy (by simpa using h)
    rw [List.set_cons_succ, List.flatten_cons, List.flatten_cons, ← ih]
    unfold putL
    have e1 : (i + 1) * c = x.length + i * c := by rw [hx, Nat.add_mul]; omega
    rw [e1, List.take_length_add_append, Nat.add_assoc, List.drop_length_add_append]
    simp
theorem boL_c (l : List Bool) : ∀ x ∈ l.map (fun b => [Value.bool b]), x.length = 1 := by intro x hx; obtain ⟨b, _, rfl⟩ := List.mem_map.1 hx; rfl
theorem spL_c (l : List Sp) : ∀ x ∈ l.map Sp.cs, x.length = 2 := by intro x hx; obtain ⟨s, _, rfl⟩ := List.mem_map.1 hx; rfl
theorem boL_len (l : List Bool) : (boL l).length = l.length := by rw [boL, flat_len 1 _ (boL_c l), List.length_map, Nat.mul_one]
theorem spL_len (l : List Sp) : (spL l).length = l.length * 2 := by rw [spL, flat_len 2 _ (spL_c l), List.length_map]
theorem boL_set (l : List Bool) (i : Nat) (b : Bool) (h : i < l.length) : putL (boL l) (i * 1) [.bool b] = boL (l.set i b) := by
  have := flat_set 1 (l.map (fun b => [Value.bool b])) (boL_c l) i [.bool b] rfl (by simpa using h)
  rw [boL, this, boL, List.map_set]
theorem spL_set (l : List Sp) (i : Nat) (y : Sp) (h : i < l.length) : putL (spL l) (i * 2) y.cs = spL (l.set i y) := by
  have := flat_set 2 (l.map Sp.cs) (spL_c l) i y.cs rfl (by simpa using h)
  rw [spL, this, spL, List.map_set]
theorem st_bo {w : World} {g : Nat} {cur : List Bool} {i : Nat} (y : Bool) (hb : Box w g 4 (boL cur).toArray) (hi : i < cur.length) : (storeVar 4 ⟨g, 0 + i * 1, none⟩ (.bool y)).run Try.prog w = .ok () (w.setRow g (boL (cur.set i y)).toArray) := by
  have h := run_store_at (off := 0 + i * 1) (ty := 4) (vs := [.bool y]) (v := .bool y) hb rfl S4 (by rw [boL_len, Nat.zero_add]; show i * 1 + 1 ≤ cur.length; omega) (by simp [Value.oneCell'])
  rw [h, Nat.zero_add, boL_set _ _ _ hi]
theorem st_sp {w : World} {g : Nat} {cur : List Sp} {i : Nat} (y : Sp) (hb : Box w g 39 (spL cur).toArray) (hi : i < cur.length) : (storeVar 39 ⟨g, 0 + i * 2, none⟩ (.agg (Sp.cells y))).run Try.prog w = .ok () (w.setRow g (spL (cur.set i y)).toArray) := by
  have h := run_store_at (off := 0 + i * 2) (ty := 39) (vs := y.cs) (v := .agg y.cells) hb rfl S39 (by rw [spL_len, Nat.zero_add]; show i * 2 + 2 ≤ cur.length * 2; omega) y.oneL
  rw [h, Nat.zero_add, spL_set _ _ _ hi]
theorem ld_bo {w : World} {g : Nat} {xs : List Bool} (hb : Box w g 4 (boL xs).toArray) {i : Nat} {x : Bool} (hx : xs[i]? = some x) : (loadVar 4 ⟨g, 0 + i * 1, none⟩).run Try.prog w = .ok (.bool x) w := by
  refine load_one ?_ U4 rfl
  rw [hb.cell, Nat.zero_add, List.getElem?_toArray]
  have := flat_get 1 (xs.map (fun b => [Value.bool b])) (boL_c xs) i [.bool x] (by rw [List.getElem?_map, hx]; rfl) 0 (.bool x) rfl
  simpa [boL] using this
theorem ld_sp {w : World} {g : Nat} {xs : List Sp} (hb : Box w g 39 (spL xs).toArray) {i : Nat} {x : Sp} (hx : xs[i]? = some x) : (loadVar 39 ⟨g, 0 + i * 2, none⟩).run Try.prog w = .ok (.agg (Sp.cells x)) w :=
  load_at (n := 2) (fun j v hv => by
    rw [hb.cell, Nat.zero_add, List.getElem?_toArray]
    exact flat_get 2 (xs.map Sp.cs) (spL_c xs) i x.cs (by rw [List.getElem?_map, hx]; rfl) j v hv) U39 rfl S39
theorem ld_cm {w : World} {g : Nat} {xs : List Cm} (hb : Box w g 28 (cmL xs).toArray) {i : Nat} {x : Cm} (hx : xs[i]? = some x) : (loadVar 28 ⟨g, 0 + i * 9, none⟩).run Try.prog w = .ok (.agg (Cm.cells x)) w :=
  load_at (n := 9) (row_C hb hx) U28 rfl S28
/-- A list of numbers of one's own. -/
structure OwI (w : World) (base : Nat) (s : Sl) (zs : List Int) : Prop where
  own : Own 3 1 w base s.a s.k s.l (zs.map (Value.int .i64))
  len : zs.length = s.l
theorem OwI.kept {S : Nat → Prop} {w w' : World} {base : Nat} {s : Sl} {es : List Int} (h : OwI w base s es) (hk : Kept S w w') (hS : ∀ k, At s.a k → ¬ S k) : OwI w' base s es := ⟨h.own.kept hk hS, h.len⟩
theorem OwI.no {w w' : World} {base : Nat} {s : Sl} {es : List Int} (h : OwI w base s es) (hk : Kept No w w') : OwI w' base s es := h.kept hk (fun _ _ e => e)
theorem OwI.at {w : World} {base : Nat} {s : Sl} {zs : List Int} (h : OwI w base s zs) {i : Nat} (hi : i < s.l) : ∃ g, s.a = some ⟨g, 0, none⟩ ∧ w.cell? ⟨g, 0 + i * 1, none⟩ = some (.int .i64 (zs[i]?.getD 0)) := by
  obtain ⟨b, off, e, hc⟩ := h.own.nums h.len i (by rw [h.len]; exact hi)
  rcases Own.cases h.own (by simp [h.len]) with ⟨ha, _⟩ | ⟨g, ha, _⟩
  · rw [ha] at e; cases e
  · rw [ha] at e
    cases e
    exact ⟨b, ha, by rw [Nat.mul_one]; exact hc⟩

end Go.Proofs.Ytpabpeppgpeaoaa.Md
