import Derived.Test.YtpabpeppgpeaoaaMdc
namespace Go.Proofs.Ytpabpeppgpeaoaa.Md
open Go.RowKit
set_option linter.unusedVariables false
set_option linter.unusedSimpArgs false

/-- What a function holds while it runs: blocks of its own, and such that it may write. -/
structure Fq (S : Nat → Prop) (w0 w : World) (l : List (Nat × TypeId × Array Value)) : Prop where
  kept : Kept S w0 w
  box : ∀ (i : Nat) g T cs, l[i]? = some (g, T, cs) → Box w g T cs
  low : ∀ (i : Nat) g T cs, l[i]? = some (g, T, cs) → w0.heap.size ≤ g ∨ S g
  inj : ∀ (i j : Nat) g T cs T' cs', l[i]? = some (g, T, cs) → l[j]? = some (g, T', cs') → i = j
theorem kept_row {S : Nat → Prop} {a w : World} (h : Kept S a w) {g : Nat} (hg : a.heap.size ≤ g ∨ S g) (cs : Array Value) : Kept S a (w.setRow g cs) :=
  hg.elim (fun e => h.newRowS e cs) (fun e => h.inRow e cs)
theorem Fq.start (S : Nat → Prop) (w : World) : Fq S w w [] := ⟨Kept.refl S w, by simp, by simp, by simp⟩
theorem Fq.drew {S : Nat → Prop} {w0 w : World} {l : List (Nat × TypeId × Array Value)} (h : Fq S w0 w l) : Fq S w0 w.drew l := ⟨h.kept.drew, h.box, h.low, h.inj⟩
theorem Fq.alloc {S : Nat → Prop} {w0 w : World} {l : List (Nat × TypeId × Array Value)} (h : Fq S w0 w l) (T : TypeId) (cs : Array Value) : Fq S w0 (w.alloc (.cells cs T)) (l ++ [(w.heap.size, T, cs)]) := by
  refine ⟨h.kept.alloc _, ?_, ?_, ?_⟩
  · intro i g T' cs' hi
    rw [List.getElem?_append] at hi
    split at hi
    · exact (h.box i g T' cs' hi).alloc _
    · obtain ⟨rfl, rfl, rfl⟩ : w.heap.size = g ∧ T = T' ∧ cs = cs' := by
        have := List.mem_of_getElem? hi
        simpa [eq_comm] using this
      exact Box.new _ _ _
  · intro i g T' cs' hi
    rw [List.getElem?_append] at hi
    split at hi
    · exact h.low i g T' cs' hi
    · obtain ⟨rfl, rfl, rfl⟩ : w.heap.size = g ∧ T = T' ∧ cs = cs' := by
        have := List.mem_of_getElem? hi
        simpa [eq_comm] using this
      exact .inl h.kept.size
  · intro i j g T1 cs1 T2 cs2 hi hj
    rw [List.getElem?_append] at hi hj
    split at hi <;> split at hj
    · exact h.inj i j g T1 cs1 T2 cs2 hi hj
    · have h1 := (h.box i g T1 cs1 hi).lt
      have h2 : g = w.heap.size := by have := List.mem_of_getElem? hj; simp at this; exact this.1
      omega
    · have h1 := (h.box j g T2 cs2 hj).lt
      have h2 : g = w.heap.size := by have := List.mem_of_getElem? hi; simp at this; exact this.1
      omega
    · have h1 := (List.getElem?_eq_some_iff.1 hi).1
      have h2 := (List.getElem?_eq_some_iff.1 hj).1
      simp at h1 h2
      omega
theorem Fq.set {S : Nat → Prop} {w0 w : World} {l : List (Nat × TypeId × Array Value)} (h : Fq S w0 w l) (i : Nat) {g : Nat} {T : TypeId} {cs : Array Value} (hi : l[i]? = some (g, T, cs)) (cs' : Array Value) : Fq S w0 (w.setRow g cs') (l.set i (g, T, cs')) := by
  have hlt := (List.getElem?_eq_some_iff.1 hi).1
  have key : ∀ (j : Nat) g1 T1 cs1, (l.set i (g, T, cs'))[j]? = some (g1, T1, cs1) → (j = i ∧ g1 = g ∧ T1 = T ∧ cs1 = cs') ∨ (j ≠ i ∧ l[j]? = some (g1, T1, cs1)) := by
    intro j g1 T1 cs1 hj
    rw [List.getElem?_set] at hj
    by_cases e : i = j
    · subst e
      simp [hlt] at hj
      exact .inl ⟨rfl, hj.1.symm, hj.2.1.symm, hj.2.2.symm⟩
    · simp [e] at hj
      exact .inr ⟨fun h => e h.symm, hj⟩
  refine ⟨kept_row h.kept (h.low i g T cs hi) _, ?_, ?_, ?_⟩
  · intro j g1 T1 cs1 hj
    rcases key j g1 T1 cs1 hj with ⟨rfl, rfl, rfl, rfl⟩ | ⟨hne, hj2⟩
    · exact (h.box _ _ _ _ hi).setRow _
    · refine (h.box j g1 T1 cs1 hj2).rowNe (fun e => hne ?_) _
      subst e
      exact h.inj j i _ _ _ _ _ hj2 hi
  · intro j g1 T1 cs1 hj
    rcases key j g1 T1 cs1 hj with ⟨rfl, rfl, rfl, rfl⟩ | ⟨hne, hj⟩
    · exact h.low _ _ _ _ hi
    · exact h.low j g1 T1 cs1 hj
  · intro j k g1 T1 cs1 T2 cs2 hj hk
    rcases key j g1 T1 cs1 hj with ⟨rfl, rfl, rfl, rfl⟩ | ⟨hne, hj2⟩ <;> rcases key k g1 T2 cs2 hk with ⟨rfl, h1, h2, h3⟩ | ⟨hne', hk2⟩
    · rfl
    · exact h.inj _ _ _ _ _ _ _ hi hk2
    · subst h1; exact h.inj _ _ _ _ _ _ _ hj2 hi
    · exact h.inj _ _ _ _ _ _ _ hj2 hk2
theorem Fq.no {S : Nat → Prop} {w0 w w' : World} {l : List (Nat × TypeId × Array Value)} (h : Fq S w0 w l) (hk : Kept No w w') : Fq S w0 w' l :=
  ⟨h.kept.thenNo hk, fun i g T cs hi => (h.box i g T cs hi).kept hk (fun e => e), h.low, h.inj⟩
theorem Fq.ne {S : Nat → Prop} {w0 w : World} {l : List (Nat × TypeId × Array Value)} (h : Fq S w0 w l) (i j : Nat) {g g' : Nat} {T T' : TypeId} {cs cs' : Array Value} (hi : l[i]? = some (g, T, cs)) (hj : l[j]? = some (g', T', cs')) (hne : i ≠ j) : g ≠ g' := by
  rintro rfl
  exact hne (h.inj i j _ _ _ _ _ hi hj)
theorem Fq.put {S : Nat → Prop} {w0 w w' : World} {l : List (Nat × TypeId × Array Value)} (h : Fq S w0 w l) (i : Nat) {g : Nat} {T : TypeId} {cs cs' : Array Value} (hi : l[i]? = some (g, T, cs)) (hk : Kept (Only g) w w') (hb : Box w' g T cs') : Fq S w0 w' (l.set i (g, T, cs')) := by
  have hlt := (List.getElem?_eq_some_iff.1 hi).1
  have key : ∀ (j : Nat) g1 T1 cs1, (l.set i (g, T, cs'))[j]? = some (g1, T1, cs1) → (j = i ∧ g1 = g ∧ T1 = T ∧ cs1 = cs') ∨ (j ≠ i ∧ l[j]? = some (g1, T1, cs1)) := by
    intro j g1 T1 cs1 hj
    rw [List.getElem?_set] at hj
    by_cases e : i = j
    · subst e
      simp [hlt] at hj
      exact .inl ⟨rfl, hj.1.symm, hj.2.1.symm, hj.2.2.symm⟩
    · simp [e] at hj
      exact .inr ⟨fun h => e h.symm, hj⟩
  refine ⟨h.kept.trans hk (fun _ e => e) (fun k hk' e => by
    have e : k = g := e
    rcases h.low i g T cs hi with h1 | h1
    · omega
    · rw [e]; exact h1), ?_, ?_, ?_⟩
  · intro j g1 T1 cs1 hj
    rcases key j g1 T1 cs1 hj with ⟨rfl, rfl, rfl, rfl⟩ | ⟨hne, hj2⟩
    · exact hb
    · refine (h.box j g1 T1 cs1 hj2).kept hk (fun e => hne ?_)
      have e : g1 = g := e
      subst e
      exact h.inj j i _ _ _ _ _ hj2 hi
  · intro j g1 T1 cs1 hj
    rcases key j g1 T1 cs1 hj with ⟨rfl, rfl, rfl, rfl⟩ | ⟨hne, hj⟩
    · exact h.low _ _ _ _ hi
    · exact h.low j g1 T1 cs1 hj
  · intro j k g1 T1 cs1 T2 cs2 hj hk
    rcases key j g1 T1 cs1 hj with ⟨rfl, rfl, rfl, rfl⟩ | ⟨hne, hj2⟩ <;> rcases key k g1 T2 cs2 hk with ⟨rfl, h1, h2, h3⟩ | ⟨hne', hk2⟩
    · rfl
    · exact h.inj _ _ _ _ _ _ _ hi hk2
    · subst h1; exact h.inj _ _ _ _ _ _ _ hj2 hi
    · exact h.inj _ _ _ _ _ _ _ hj2 hk2
theorem Fq.add {S : Nat → Prop} {w0 w w' : World} {l : List (Nat × TypeId × Array Value)} (h : Fq S w0 w l) {g : Nat} {T : TypeId} {cs : Array Value} (hk : Kept No w w') (hg : w.heap.size ≤ g) (hb : Box w' g T cs) : Fq S w0 w' (l ++ [(g, T, cs)]) := by
  have h1 := h.no hk
  refine ⟨h1.kept, ?_, ?_, ?_⟩
  · intro i g1 T1 cs1 hi
    rw [List.getElem?_append] at hi
    split at hi
    · exact h1.box i g1 T1 cs1 hi
    · obtain ⟨rfl, rfl, rfl⟩ : g = g1 ∧ T = T1 ∧ cs = cs1 := by
        have := List.mem_of_getElem? hi
        simpa [eq_comm] using this
      exact hb
  · intro i g1 T1 cs1 hi
    rw [List.getElem?_append] at hi
    split at hi
    · exact h1.low i g1 T1 cs1 hi
    · obtain ⟨rfl, rfl, rfl⟩ : g = g1 ∧ T = T1 ∧ cs = cs1 := by
        have := List.mem_of_getElem? hi
        simpa [eq_comm] using this
      exact .inl (Nat.le_trans h.kept.size hg)
  · intro i j g1 T1 cs1 T2 cs2 hi hj
    rw [List.getElem?_append] at hi hj
    split at hi <;> split at hj
    · exact h.inj i j g1 T1 cs1 T2 cs2 hi hj
    · have q1 := (h.box i g1 T1 cs1 hi).lt
      have q2 : g1 = g := by have := List.mem_of_getElem? hj; simp at this; exact this.1
      omega
    · have q1 := (h.box j g1 T2 cs2 hj).lt
      have q2 : g1 = g := by have := List.mem_of_getElem? hi; simp at this; exact this.1
      omega
    · have q1 := (List.getElem?_eq_some_iff.1 hi).1
      have q2 := (List.getElem?_eq_some_iff.1 hj).1
      simp at q1 q2
      omega
theorem Fq.front {S : Nat → Prop} {w0 w : World} {l m : List (Nat × TypeId × Array Value)} (h : Fq S w0 w (l ++ m)) : Fq S w0 w l :=
  ⟨h.kept, fun i g T cs hi => h.box i g T cs (List.getElem?_append_left (List.getElem?_eq_some_iff.1 hi).1 ▸ hi), fun i g T cs hi => h.low i g T cs (List.getElem?_append_left (List.getElem?_eq_some_iff.1 hi).1 ▸ hi),
    fun i j g T cs T' cs' hi hj => h.inj i j g T cs T' cs' (List.getElem?_append_left (List.getElem?_eq_some_iff.1 hi).1 ▸ hi) (List.getElem?_append_left (List.getElem?_eq_some_iff.1 hj).1 ▸ hj)⟩
theorem Fq.app {S : Nat → Prop} {w0 w w' : World} {l : List (Nat × TypeId × Array Value)} {T : TypeId} {c cap n : Nat} {sa : Option Addr} {vs : List Value} (h : Fq S w0 w l) (ho : Own T c w w0.heap.size sa cap n vs) (hk : Kept (At sa) w w') (hT : ∀ x ∈ l, x.2.1 ≠ T) : Fq S w0 w' l :=
  ⟨h.kept.trans hk (fun _ e => e) (fun k hk' e => by have := ho.base e; omega), fun i g T' cs hi => (h.box i g T' cs hi).kept hk (fun e => ho.notBox (h.box i g T' cs hi) (fun e => hT _ (List.mem_of_getElem? hi) e.symm) e), h.low, h.inj⟩
/-- The reference's proposer, and its tally. -/
structure Rv where
  cl : Int
  op : Int
  ky : Ky
  g : Sl
  mine : Cm
  ch : Cm
  n : Int
  rd : Int
  nt : Int
  ph : Int
  an : Sl
  co : Sl
  he : Sl
  cm : Sl
  nk : Bool
  de : Bool
  tr : Bool
  wo : Bool
  dc : Cm
  bk : Bv
structure Rt where
  g : Sl
  vs : Sl
  hs : Sl
  nd : Int
def Rv.cs (x : Rv) : List Value := [.int .i64 x.cl, .int .i64 x.op] ++ (x.ky.cs ++ ([x.g.v] ++ (x.mine.cs ++ (x.ch.cs ++ ([.int .i64 x.n, .int .i64 x.rd, .int .i64 x.nt, .int .i64 x.ph, x.an.v, x.co.v, x.he.v, x.cm.v, .bool x.nk, .bool x.de, .bool x.tr, .bool x.wo] ++ (x.dc.cs ++ x.bk.cs))))))
def Rv.cells (x : Rv) : Array Value := x.cs.toArray
def Rt.cs (x : Rt) : List Value := [x.g.v, x.vs.v, x.hs.v, .int .i64 x.nd]
def Rt.cells (x : Rt) : Array Value := x.cs.toArray
theorem Rv.oneL (x : Rv) : ∀ v ∈ x.cs, v.oneCell' = true := by simp [Rv.cs, Ky.cs, Cm.cs, Bv.cs, Value.oneCell', Sl.v]
theorem Rt.oneL (x : Rt) : ∀ v ∈ x.cs, v.oneCell' = true := by simp [Rt.cs, Value.oneCell', Sl.v]
def boL (l : List Bool) : List Value := (l.map (fun b => [Value.bool b])).flatten
def spL (l : List Sp) : List Value := (l.map Sp.cs).flatten
theorem S3 : (Try.prog.info? 3).map (·.size) = some 1 := by kernel_rfl
theorem S23 : (Try.prog.info? 23).map (·.size) = some 4 := by kernel_rfl
theorem S28 : (Try.prog.info? 28).map (·.size) = some 9 := by kernel_rfl
theorem S44 : (Try.prog.info? 44).map (·.size) = some 3 := by kernel_rfl
theorem S47 : (Try.prog.info? 47).map (·.size) = some 30 := by kernel_rfl
theorem S66 : (Try.prog.info? 66).map (·.size) = some 1 := by kernel_rfl
theorem U23 : Try.prog.underlying 23 = some (.struct (Try.prog.fieldsOf 23)) := by kernel_rfl
theorem U28 : Try.prog.underlying 28 = some (.struct (Try.prog.fieldsOf 28)) := by kernel_rfl
theorem U44 : Try.prog.underlying 44 = some (.struct (Try.prog.fieldsOf 44)) := by kernel_rfl
theorem U47 : Try.prog.underlying 47 = some (.struct (Try.prog.fieldsOf 47)) := by kernel_rfl
theorem U3 : Try.prog.underlying 3 = some (.int .i64) := by kernel_rfl
theorem U4 : Try.prog.underlying 4 = some .bool := by kernel_rfl
theorem U24 : Try.prog.underlying 24 = some (.slice 3) := by kernel_rfl
theorem E24 : Try.prog.underlying 24 = some (.slice (Try.prog.elem 24)) := by kernel_rfl
theorem F24 : (Try.prog.info? (Try.prog.elem 24)).map (·.size) = some 1 := by kernel_rfl
theorem U66 : Try.prog.underlying 66 = some (.slice 47) := by kernel_rfl
theorem E66 : Try.prog.underlying 66 = some (.slice (Try.prog.elem 66)) := by kernel_rfl
theorem F66 : (Try.prog.info? (Try.prog.elem 66)).map (·.size) = some 30 := by kernel_rfl
theorem Z23 : (Try.prog.info? 23).bind (·.zero) = some (.agg kyZ.cells) := by kernel_rfl
theorem Z28 : (Try.prog.info? 28).bind (·.zero) = some (.agg cZ.cells) := by kernel_rfl
theorem Z44 : (Try.prog.info? 44).bind (·.zero) = some (.agg bvZ.cells) := by kernel_rfl
theorem Z47 : (Try.prog.info? 47).bind (·.zero) = some (.agg mgZ.cells) := by kernel_rfl
theorem I4 : (Try.prog.info? 4).map (fun i => (i.zero, i.size, i.bytes)) = some (some (.bool false), 1, 1) := by kernel_rfl
theorem I3 : (Try.prog.info? 3).map (fun i => (i.zero, i.size, i.bytes)) = some (some (.int .i64 0), 1, 8) := by kernel_rfl
theorem I47 : (Try.prog.info? 47).map (fun i => (i.zero, i.size, i.bytes)) = some (some (.agg mgZ.cells), 30, 312) := by kernel_rfl
/-- A list of numbers of one's own. -/
structure OwI (w : World) (base : Nat) (s : Sl) (zs : List Int) : Prop where
  own : Own 3 1 w base s.a s.k s.l (zs.map (Value.int .i64))
  len : zs.length = s.l
theorem OwI.kept {S : Nat → Prop} {w w' : World} {base : Nat} {s : Sl} {es : List Int} (h : OwI w base s es) (hk : Kept S w w') (hS : ∀ k, At s.a k → ¬ S k) : OwI w' base s es := ⟨h.own.kept hk hS, h.len⟩
theorem OwI.no {w w' : World} {base : Nat} {s : Sl} {es : List Int} (h : OwI w base s es) (hk : Kept No w w') : OwI w' base s es := h.kept hk (fun _ _ e => e)
theorem OwI.at {w : World} {base : Nat} {s : Sl} {zs : List Int} (h : OwI w base s zs) {i : Nat} (hi : i < s.l) : ∃ g, s.a = some ⟨g, 0, none⟩ ∧ w.cell? ⟨g, 0 + i * 1, none⟩ = some (.int .i64 (zs[i]?.getD 0)) := by
  obtain ⟨b, off, e, hc⟩ := h.own.nums h.len i (by rw [h.len]; exact hi)
  rcases Own.cases h.own (by simp [h.len]) with ⟨ha, _⟩ | ⟨g, ha, _⟩
  · rw [ha] at e; cases e
  · rw [ha] at e
    cases e
    exact ⟨b, ha, by rw [Nat.mul_one]; exact hc⟩

end Go.Proofs.Ytpabpeppgpeaoaa.Md
