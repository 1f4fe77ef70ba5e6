import Derived.Test.YtpabpeppgpeaoaaMa
namespace Go.Proofs.Ytpabpeppgpeaoaa
open Go.RowKit
set_option linter.unusedVariables false
set_option linter.unusedSimpArgs false
theorem Try.und24 : Try.prog.underlying 24 = some (.slice 3) := by kernel_rfl
theorem Try.und3 : Try.prog.underlying 3 = some (.int .i64) := by kernel_rfl
theorem Try.info3' : (Try.prog.info? 3).map (fun i => (i.zero, i.size, i.bytes)) = some (some (.int .i64 0), 1, 8) := by kernel_rfl
namespace Gt

/-- A tally: the group, each once; how many are needed; who has said what. -/
structure TS (α : Type) where
  g : List Int
  need : Int
  v : Int → Option α

variable {α : Type} {f : Option α → Value} {T : TypeId}
def tmap (f : Option α → Value) (x : TS α) : Int → Option Value := fun n => if n ∈ x.g then some (f (x.v n)) else none
def cnt (x : TS α) : Nat := x.g.countP (fun n => (x.v n).isSome)
def enB (x : TS α) : Bool := decide (x.need ≤ cnt x)
def mayB (x : TS α) (s : Int) : Bool := decide (s ∈ x.g) && (x.v s).isNone && !enB x
def putS (x : TS α) (s : Int) (v : α) : TS α := { x with v := fun m => if m = s then some v else x.v m }
def takeS (x : TS α) (s : Int) (v : α) : TS α := if mayB x s then putS x s v else x
def takeB (x : TS α) (s : Int) : Bool := mayB x s && decide (x.need ≤ cnt x + 1)
def missL (x : TS α) : List Int := x.g.filter (fun n => (x.v n).isNone)
def gotL (x : TS α) : List (Int × α) := x.g.filterMap (fun n => (x.v n).map (fun v => (n, v)))

theorem cnt_le (x : TS α) : cnt x ≤ x.g.length := List.countP_le_length
theorem cnt_put {x : TS α} {s : Int} {v : α} (hn : x.g.Nodup) (hs : s ∈ x.g) (hv : x.v s = none) : cnt (putS x s v) = cnt x + 1 := by
  unfold cnt putS
  simp only
  obtain ⟨g, need, f⟩ := x
  simp only at *
  clear need
  induction g with
  | nil => simp at hs
  | cons y l ih =>
    rw [List.nodup_cons] at hn
    rw [List.countP_cons, List.countP_cons]
    by_cases e : y = s
    · subst e
      have : List.countP (fun n => (if n = y then some v else f n).isSome) l = List.countP (fun n => (f n).isSome) l := by
        apply List.countP_congr
        intro n hnl
        have : n ≠ y := fun e => hn.1 (e ▸ hnl)
        simp [this]
      simp [this, hv]
    · have h2 : s ∈ l := by
        rcases List.mem_cons.1 hs with h | h
        · exact absurd h.symm e
        · exact h
      rw [ih hn.2 h2]
      simp [e]
      omega
theorem tmap_put {x : TS α} {s : Int} {v : α} (hs : s ∈ x.g) : updG (tmap f x) s (some (f (some v))) = tmap f (putS x s v) := by
  funext m
  unfold updG tmap putS
  by_cases e : m = s
  · subst e; simp [hs]
  · simp [e]

def talC (a : Option Addr) (cap b : Nat) (x : TS α) : Array Value := #[.slice a x.g.length cap, .int .i64 x.need, .int .i64 (cnt x), .map (some b)]
structure Tal (T : TypeId) (f : Option α → Value) (w : World) (t b : Nat) (a : Option Addr) (cap : Nat) (x : TS α) : Prop where
  box : Box w t T (talC a cap b x)
  map : MapIs w b (tmap f x)
  row : Own 3 1 w 0 a cap x.g.length (x.g.map (Value.int .i64))
  nd : x.g.Nodup
  len : x.g.length ≤ 17592186043904
  ty : T ≠ 3
def TB (t b : Nat) (a : Option Addr) : Nat → Prop := fun k => k = t ∨ k = b ∨ At a k
def Tb2 (t b : Nat) : Nat → Prop := fun k => k = t ∨ k = b

theorem Tal.kept {S : Nat → Prop} {w w' : World} {t b cap : Nat} {a : Option Addr} {x : TS α} (h : Tal T f w t b a cap x) (hk : Kept S w w') (hS : ∀ k, TB t b a k → ¬ S k) : Tal T f w' t b a cap x :=
  ⟨h.box.kept hk (hS t (.inl rfl)), h.map.kept hk (hS b (.inr (.inl rfl))), h.row.kept hk (fun k hk => hS k (.inr (.inr hk))), h.nd, h.len, h.ty⟩
theorem Tal.no {w w' : World} {t b cap : Nat} {a : Option Addr} {x : TS α} (h : Tal T f w t b a cap x) (hk : Kept No w w') : Tal T f w' t b a cap x := h.kept hk (fun _ _ e => e)
theorem Tal.ne {w : World} {t b cap : Nat} {a : Option Addr} {x : TS α} (h : Tal T f w t b a cap x) : t ≠ b := by
  intro e
  obtain ⟨es, c, hb, _⟩ := h.map
  have := h.box
  unfold Box at this
  rw [e, hb] at this
  cases this
theorem Tal.nums {w : World} {t b cap : Nat} {a : Option Addr} {x : TS α} (h : Tal T f w t b a cap x) : Nums .i64 w a x.g := h.row.nums rfl
/-- The row's block is neither the struct's nor the map's. -/
theorem Tal.off {w : World} {t b cap : Nat} {a : Option Addr} {x : TS α} (h : Tal T f w t b a cap x) {k : Nat} (hk : At a k) : k ≠ t ∧ k ≠ b := by
  rcases h.row.cases (by simp) with ⟨rfl, _⟩ | ⟨g, rfl, _, _, sp, hg, _⟩
  · exact absurd hk At.none
  · obtain ⟨ad, e, rfl⟩ := hk
    cases e
    constructor
    · intro e
      have e : g = t := e
      have := h.box
      unfold Box at this
      rw [e, this] at hg
      simp at hg
      exact h.ty hg.2
    · intro e
      have e : g = b := e
      obtain ⟨es, c, hb, _⟩ := h.map
      rw [e, hb] at hg
      cases hg
theorem Tal.cells {w : World} {t b cap : Nat} {a : Option Addr} {x : TS α} (h : Tal T f w t b a cap x) : w.cell? ⟨t, 0, none⟩ = some (.slice a x.g.length cap) ∧ w.cell? ⟨t, 1, none⟩ = some (.int .i64 x.need) ∧ w.cell? ⟨t, 2, none⟩ = some (.int .i64 (cnt x)) ∧ w.cell? ⟨t, 3, none⟩ = some (.map (some b)) :=
  ⟨h.box.cell 0, h.box.cell 1, h.box.cell 2, h.box.cell 3⟩
theorem Tal.lt {w : World} {t b cap : Nat} {a : Option Addr} {x : TS α} (h : Tal T f w t b a cap x) {k : Nat} (hk : TB t b a k) : k < w.heap.size := by
  rcases hk with rfl | rfl | hk
  · exact h.box.lt
  · exact h.map.lt
  · rcases h.row.cases (by simp) with ⟨rfl, _⟩ | ⟨g, rfl, _, hlt, _⟩
    · exact absurd hk At.none
    · obtain ⟨ad, e, rfl⟩ := hk
      cases e; exact hlt

theorem takeNo {x : TS α} {s : Int} {v : α} (h : mayB x s = false) : takeB x s = false ∧ takeS x s v = x := by
  unfold takeB takeS; rw [h]; exact ⟨rfl, rfl⟩
theorem cell_new1 (w : World) (v : Value) (t : TypeId) (j : Nat) (u : Value) (h : [v][j]? = some u) : (w.alloc (.cells #[v] t)).cell? ((⟨w.heap.size, 0, none⟩ : Addr).add j) = some u := by
  rw [addr_add, Nat.zero_add, (Box.new w t #[v]).cell]
  simpa using h
theorem Own.nil (t : TypeId) (c : Nat) (w : World) (base : Nat) : Own t c w base none 0 0 [] := ⟨by simp, .inl ⟨rfl, rfl⟩⟩
theorem wp_appV {ops : Array Oper} {rest : List Oper} {o : Oper} {a : Act} {w : World} {Q : Exit → Act → World → Prop} (hg : o.guard = none) (s x : Operand) (T E : TypeId) (c by' : Nat) (z : Value) (ht : Try.prog.underlying T = some (.slice E))
    (hinf : (Try.prog.info? E).map (fun i => (i.zero, i.size, i.bytes)) = some (some z, c, by')) (hzc : z.cells.size = c) (hc0 : 0 < c) (ho : o.op = .call { callee := Callee.builtin Builtin.append, args := #[s, x], argTypes := #[T, T] })
    (base n cap : Nat) (sa : Option Addr) (vs : List Value) (hs : a.eval s = .slice sa n cap) (hown : Own E c w base sa cap n vs) (ad : Addr) (m cc : Nat) (news : List Value) (hx : a.eval x = .slice (some ad) m cc) (hl : news.length = m * c) (hnews : ∀ j u, news[j]? = some u → w.cell? (ad.add j) = some u) (h1 : ∀ u ∈ news, u.oneCell' = true) (hbd : (n + m) * by' ≤ 140737488355328) (hb63 : n + m ≤ 9223372036854775807) (hm : 0 < m) (hbase : base ≤ w.heap.size) (k : Nat) (hk : n + m = k)
    (h : ∀ g' cap' w', Hid (Own E c w' base (some ⟨g', 0, none⟩) cap' k (vs ++ news)) → Hid (Kept (At sa) w w') → wpList Try.prog ops Q rest (a.put o.dst (.slice (some ⟨g', 0, none⟩) k cap')) w') : wpList Try.prog ops Q (o :: rest) a w := by
  subst hk
  obtain ⟨i0, hi, hz0, hz1, hz2⟩ := info_parts hinf
  obtain ⟨v', w', hrun, r1, r2, _⟩ := run_append_own (P := Try.prog) w base T o.type E i0 z c by' ht hi hz0 hz1 hz2 hzc hc0 (.slice sa n cap) n vs hown ad m cc news hl hnews h1 (by unfold maxLen; omega) hbd hbase
  have hk : Kept (At sa) w w' := (Kept.refl (At sa) w).grown r2 (fun k e hk => by
    cases sa with
    | none => cases e
    | some ad' => simp only [Value.ownBlock, Option.some.injEq] at e; exact ⟨ad', rfl, e⟩)
  rcases r1.2 with ⟨e, h0⟩ | ⟨g, cap', cur, e, _⟩
  · omega
  · subst e
    refine wp_runTo hg _ w' ?_ (h g cap' w' r1 hk)
    simp [execOp, ho, resolve, invoke, builtin, hs, hx, hrun, Result.andThen]
/-- The unlike ones of a row, in their order. -/
def uq (l : List Int) : List Int := l.foldl (fun acc n => if n ∈ acc then acc else acc ++ [n]) []
theorem take_snoc {l : List Int} {k : Nat} (h : k < l.length) : l.take (k + 1) = l.take k ++ [l[k]?.getD 0] := by
  rw [List.take_succ_eq_append_getElem h, List.getElem?_eq_getElem h]; rfl
theorem uq_snoc (l : List Int) (n : Int) : uq (l ++ [n]) = if n ∈ uq l then uq l else uq l ++ [n] := by
  unfold uq; rw [List.foldl_append]; rfl
theorem uq_gen (l : List Int) : ∀ acc : List Int, (l.foldl (fun acc n => if n ∈ acc then acc else acc ++ [n]) acc).length ≤ acc.length + l.length ∧ (acc.Nodup → (l.foldl (fun acc n => if n ∈ acc then acc else acc ++ [n]) acc).Nodup) := by
  induction l with
  | nil => intro acc; simp
  | cons n l ih =>
    intro acc
    rw [List.foldl_cons]
    by_cases h : n ∈ acc
    · rw [if_pos h]
      have := ih acc
      exact ⟨by simp; omega, this.2⟩
    · rw [if_neg h]
      have := ih (acc ++ [n])
      refine ⟨by simp at this ⊢; omega, fun hn => this.2 ?_⟩
      rw [List.nodup_append]
      exact ⟨hn, by simp, fun a ha b hb => by simp at hb; subst hb; exact fun e => h (e ▸ ha)⟩
theorem uq_len (l : List Int) : (uq l).length ≤ l.length := by have := (uq_gen l []).1; simpa [uq] using this
theorem uq_nodup (l : List Int) : (uq l).Nodup := (uq_gen l []).2 (by simp)
def tNew (α : Type) (l : List Int) (need : Int) : TS α := ⟨uq l, need, fun _ => none⟩
theorem cnt_new (l : List Int) (need : Int) : cnt (tNew α l need) = 0 := by unfold cnt tNew; simp
theorem tmap_new {l : List Int} {need n : Int} (h : n ∉ uq l) : updG (tmap f (tNew α l need)) n (some (f none)) = tmap f (tNew α (l ++ [n]) need) := by
  funext m
  unfold updG tmap tNew
  simp only [uq_snoc, if_neg h]
  by_cases e : m = n
  · subst e; simp
  · simp [e]
theorem mem_at {l : List Int} {k : Nat} (h : k < l.length) : l[k]?.getD 0 ∈ l := by
  rw [List.getElem?_eq_getElem h]; exact List.getElem_mem h
def missK (x : TS α) (k : Nat) : List Int := (x.g.take k).filter (fun n => (x.v n).isNone)
theorem missK_none {x : TS α} {k : Nat} {z : Int} (ht : x.g.take (k + 1) = x.g.take k ++ [z]) (hv : x.v z = none) : missK x (k + 1) = missK x k ++ [z] := by
  unfold missK; rw [ht, List.filter_append]; simp [hv]
theorem missK_len (x : TS α) (k : Nat) : (missK x k).length ≤ k := by
  unfold missK
  have h1 := List.length_filter_le (fun n => (x.v n).isNone) (x.g.take k)
  have h2 := List.length_take_le k x.g
  omega
theorem missK_all (x : TS α) : missK x x.g.length = missL x := by unfold missK missL; rw [List.take_length]
def MissOut (w : World) (l : List Int) (e : Ending) (w' : World) : Prop :=
  ∃ a cap, e = .returned (.slice a l.length cap) ∧ Own 3 1 w' w.heap.size a cap l.length (l.map (Value.int .i64)) ∧ Kept No w w'
theorem missK_some {x : TS α} {k : Nat} {z : Int} {v : α} (ht : x.g.take (k + 1) = x.g.take k ++ [z]) (hv : x.v z = some v) : missK x (k + 1) = missK x k := by
  unfold missK; rw [ht, List.filter_append]; simp [hv]
def gotK (x : TS α) (k : Nat) : List (Int × α) := (x.g.take k).filterMap (fun n => (x.v n).map (fun v => (n, v)))
theorem gotK_some {x : TS α} {k : Nat} {z : Int} {v : α} (ht : x.g.take (k + 1) = x.g.take k ++ [z]) (hv : x.v z = some v) : gotK x (k + 1) = gotK x k ++ [(z, v)] := by
  unfold gotK; rw [ht, List.filterMap_append]; simp [hv]
theorem gotK_none {x : TS α} {k : Nat} {z : Int} (ht : x.g.take (k + 1) = x.g.take k ++ [z]) (hv : x.v z = none) : gotK x (k + 1) = gotK x k := by
  unfold gotK; rw [ht, List.filterMap_append]; simp [hv]
theorem gotL_len (x : TS α) : (gotL x).length = cnt x := by
  unfold gotL cnt
  rw [List.length_filterMap_eq_countP]
  congr 1
  funext n
  cases x.v n <;> rfl
theorem gotK_len (x : TS α) (k : Nat) : (gotK x k).length ≤ cnt x := by
  rw [← gotL_len]
  unfold gotK gotL
  conv => rhs; rw [← List.take_append_drop k x.g, List.filterMap_append, List.length_append]
  omega
theorem gotK_all (x : TS α) : gotK x x.g.length = gotL x := by unfold gotK gotL; rw [List.take_length]
theorem cell_newL (w : World) (vs : List Value) (t : TypeId) (j : Nat) (u : Value) (h : vs[j]? = some u) : (w.alloc (.cells vs.toArray t)).cell? ((⟨w.heap.size, 0, none⟩ : Addr).add j) = some u := by
  rw [addr_add, Nat.zero_add, (Box.new w t vs.toArray).cell]
  simpa using h
end Gt
end Go.Proofs.Ytpabpeppgpeaoaa
