import Derived.Test.YthnecaejhnojfaaKb
namespace Go.Proofs.Ythnecaejhnojfaa
open Go.RowKit
set_option linter.unusedVariables false
set_option linter.unusedSimpArgs false

theorem Try.und24 : Try.prog.underlying 24 = some (.slice 3) := by kernel_rfl
theorem Try.und3 : Try.prog.underlying 3 = some (.int .i64) := by kernel_rfl
theorem Try.info3' : (Try.prog.info? 3).map (fun i => (i.zero, i.size, i.bytes)) = some (some (.int .i64 0), 1, 8) := by kernel_rfl

/-- A tally: the group, each once; how many are needed; who has said what. -/
structure TS (α : Type) where
  g : List Int
  need : Int
  v : Int → Option α

variable {α : Type} {f : Option α → Value} {T : TypeId}
def tmap (f : Option α → Value) (x : TS α) : Int → Option Value := fun n => if n ∈ x.g then some (f (x.v n)) else none
def cnt (x : TS α) : Nat := x.g.countP (fun n => (x.v n).isSome)
def enB (x : TS α) : Bool := decide (x.need ≤ cnt x)
def mayB (x : TS α) (s : Int) : Bool := decide (s ∈ x.g) && (x.v s).isNone && !enB x
def putS (x : TS α) (s : Int) (v : α) : TS α := { x with v := fun m => if m = s then some v else x.v m }
def takeS (x : TS α) (s : Int) (v : α) : TS α := if mayB x s then putS x s v else x
def takeB (x : TS α) (s : Int) : Bool := mayB x s && decide (x.need ≤ cnt x + 1)
def missL (x : TS α) : List Int := x.g.filter (fun n => (x.v n).isNone)
def gotL (x : TS α) : List (Int × α) := x.g.filterMap (fun n => (x.v n).map (fun v => (n, v)))

theorem cnt_le (x : TS α) : cnt x ≤ x.g.length := List.countP_le_length
theorem cnt_put {x : TS α} {s : Int} {v : α} (hn : x.g.Nodup) (hs : s ∈ x.g) (hv : x.v s = none) : cnt (putS x s v) = cnt x + 1 := by
  unfold cnt putS
  simp only
  obtain ⟨g, need, f⟩ := x
  simp only at *
  clear need
  induction g with
  | nil => simp at hs
  | cons y l ih =>
    rw [List.nodup_cons] at hn
    rw [List.countP_cons, List.countP_cons]
    by_cases e : y = s
    · subst e
      have : List.countP (fun n => (if n = y then some v else f n).isSome) l = List.countP (fun n => (f n).isSome) l := by
        apply List.countP_congr
        intro n hnl
        have : n ≠ y := fun e => hn.1 (e ▸ hnl)
        simp [this]
      simp [this, hv]
    · have h2 : s ∈ l := by
        rcases List.mem_cons.1 hs with h | h
        · exact absurd h.symm e
        · exact h
      rw [ih hn.2 h2]
      simp [e]
      omega
theorem tmap_put {x : TS α} {s : Int} {v : α} (hs : s ∈ x.g) : updG (tmap f x) s (some (f (some v))) = tmap f (putS x s v) := by
  funext m
  unfold updG tmap putS
  by_cases e : m = s
  · subst e; simp [hs]
  · simp [e]

def talC (a : Option Addr) (cap b : Nat) (x : TS α) : Array Value := #[.slice a x.g.length cap, .int .i64 x.need, .int .i64 (cnt x), .map (some b)]
structure Tal (T : TypeId) (f : Option α → Value) (w : World) (t b : Nat) (a : Option Addr) (cap : Nat) (x : TS α) : Prop where
  box : Box w t T (talC a cap b x)
  map : MapIs w b (tmap f x)
  row : Own 3 1 w 0 a cap x.g.length (x.g.map (Value.int .i64))
  nd : x.g.Nodup
  len : x.g.length ≤ 17592186043904
  ty : T ≠ 3
def TB (t b : Nat) (a : Option Addr) : Nat → Prop := fun k => k = t ∨ k = b ∨ At a k
def Tb2 (t b : Nat) : Nat → Prop := fun k => k = t ∨ k = b

theorem Tal.kept {S : Nat → Prop} {w w' : World} {t b cap : Nat} {a : Option Addr} {x : TS α} (h : Tal T f w t b a cap x) (hk : Kept S w w') (hS : ∀ k, TB t b a k → ¬ S k) : Tal T f w' t b a cap x :=
  ⟨h.box.kept hk (hS t (.inl rfl)), h.map.kept hk (hS b (.inr (.inl rfl))), h.row.kept hk (fun k hk => hS k (.inr (.inr hk))), h.nd, h.len, h.ty⟩
theorem Tal.no {w w' : World} {t b cap : Nat} {a : Option Addr} {x : TS α} (h : Tal T f w t b a cap x) (hk : Kept No w w') : Tal T f w' t b a cap x := h.kept hk (fun _ _ e => e)
theorem Tal.ne {w : World} {t b cap : Nat} {a : Option Addr} {x : TS α} (h : Tal T f w t b a cap x) : t ≠ b := by
  intro e
  obtain ⟨es, c, hb, _⟩ := h.map
  have := h.box
  unfold Box at this
  rw [e, hb] at this
  cases this
theorem Tal.nums {w : World} {t b cap : Nat} {a : Option Addr} {x : TS α} (h : Tal T f w t b a cap x) : Nums .i64 w a x.g := h.row.nums rfl
/-- The row's block is neither the struct's nor the map's. -/
theorem Tal.off {w : World} {t b cap : Nat} {a : Option Addr} {x : TS α} (h : Tal T f w t b a cap x) {k : Nat} (hk : At a k) : k ≠ t ∧ k ≠ b := by
  rcases h.row.cases (by simp) with ⟨rfl, _⟩ | ⟨g, rfl, _, _, sp, hg, _⟩
  · exact absurd hk At.none
  · obtain ⟨ad, e, rfl⟩ := hk
    cases e
    constructor
    · intro e
      have e : g = t := e
      have := h.box
      unfold Box at this
      rw [e, this] at hg
      simp at hg
      exact h.ty hg.2
    · intro e
      have e : g = b := e
      obtain ⟨es, c, hb, _⟩ := h.map
      rw [e, hb] at hg
      cases hg
theorem Tal.cells {w : World} {t b cap : Nat} {a : Option Addr} {x : TS α} (h : Tal T f w t b a cap x) : w.cell? ⟨t, 0, none⟩ = some (.slice a x.g.length cap) ∧ w.cell? ⟨t, 1, none⟩ = some (.int .i64 x.need) ∧ w.cell? ⟨t, 2, none⟩ = some (.int .i64 (cnt x)) ∧ w.cell? ⟨t, 3, none⟩ = some (.map (some b)) :=
  ⟨h.box.cell 0, h.box.cell 1, h.box.cell 2, h.box.cell 3⟩
theorem Tal.lt {w : World} {t b cap : Nat} {a : Option Addr} {x : TS α} (h : Tal T f w t b a cap x) {k : Nat} (hk : TB t b a k) : k < w.heap.size := by
  rcases hk with rfl | rfl | hk
  · exact h.box.lt
  · exact h.map.lt
  · rcases h.row.cases (by simp) with ⟨rfl, _⟩ | ⟨g, rfl, _, hlt, _⟩
    · exact absurd hk At.none
    · obtain ⟨ad, e, rfl⟩ := hk
      cases e; exact hlt

theorem takeNo {x : TS α} {s : Int} {v : α} (h : mayB x s = false) : takeB x s = false ∧ takeS x s v = x := by
  unfold takeB takeS; rw [h]; exact ⟨rfl, rfl⟩
theorem cell_new1 (w : World) (v : Value) (t : TypeId) (j : Nat) (u : Value) (h : [v][j]? = some u) : (w.alloc (.cells #[v] t)).cell? ((⟨w.heap.size, 0, none⟩ : Addr).add j) = some u := by
  rw [addr_add, Nat.zero_add, (Box.new w t #[v]).cell]
  simpa using h
theorem Own.nil (t : TypeId) (c : Nat) (w : World) (base : Nat) : Own t c w base none 0 0 [] := ⟨by simp, .inl ⟨rfl, rfl⟩⟩
theorem wp_appV {ops : Array Oper} {rest : List Oper} {o : Oper} {a : Act} {w : World} {Q : Exit → Act → World → Prop} (hg : o.guard = none) (s x : Operand) (T E : TypeId) (c by' : Nat) (z : Value) (ht : Try.prog.underlying T = some (.slice E))
    (hinf : (Try.prog.info? E).map (fun i => (i.zero, i.size, i.bytes)) = some (some z, c, by')) (hzc : z.cells.size = c) (hc0 : 0 < c) (ho : o.op = .call { callee := Callee.builtin Builtin.append, args := #[s, x], argTypes := #[T, T] })
    (base n cap : Nat) (sa : Option Addr) (vs : List Value) (hs : a.eval s = .slice sa n cap) (hown : Own E c w base sa cap n vs) (ad : Addr) (m cc : Nat) (news : List Value) (hx : a.eval x = .slice (some ad) m cc) (hl : news.length = m * c) (hnews : ∀ j u, news[j]? = some u → w.cell? (ad.add j) = some u) (h1 : ∀ u ∈ news, u.oneCell' = true) (hbd : (n + m) * by' ≤ 140737488355328) (hb63 : n + m ≤ 9223372036854775807) (hm : 0 < m) (hbase : base ≤ w.heap.size) (k : Nat) (hk : n + m = k)
    (h : ∀ g' cap' w', Hid (Own E c w' base (some ⟨g', 0, none⟩) cap' k (vs ++ news)) → Hid (Kept (At sa) w w') → wpList Try.prog ops Q rest (a.put o.dst (.slice (some ⟨g', 0, none⟩) k cap')) w') : wpList Try.prog ops Q (o :: rest) a w := by
  subst hk
  obtain ⟨i0, hi, hz0, hz1, hz2⟩ := info_parts hinf
  obtain ⟨v', w', hrun, r1, r2, _⟩ := run_append_own (P := Try.prog) w base T o.type E i0 z c by' ht hi hz0 hz1 hz2 hzc hc0 (.slice sa n cap) n vs hown ad m cc news hl hnews h1 (by unfold maxLen; omega) hbd hbase
  have hk : Kept (At sa) w w' := (Kept.refl (At sa) w).grown r2 (fun k e hk => by
    cases sa with
    | none => cases e
    | some ad' => simp only [Value.ownBlock, Option.some.injEq] at e; exact ⟨ad', rfl, e⟩)
  rcases r1.2 with ⟨e, h0⟩ | ⟨g, cap', cur, e, _⟩
  · omega
  · subst e
    refine wp_runTo hg _ w' ?_ (h g cap' w' r1 hk)
    simp [execOp, ho, resolve, invoke, builtin, hs, hx, hrun, Result.andThen]
/-- The unlike ones of a row, in their order. -/
def uq (l : List Int) : List Int := l.foldl (fun acc n => if n ∈ acc then acc else acc ++ [n]) []
theorem take_snoc {l : List Int} {k : Nat} (h : k < l.length) : l.take (k + 1) = l.take k ++ [l[k]?.getD 0] := by
  rw [List.take_succ_eq_append_getElem h, List.getElem?_eq_getElem h]; rfl
theorem uq_snoc (l : List Int) (n : Int) : uq (l ++ [n]) = if n ∈ uq l then uq l else uq l ++ [n] := by
  unfold uq; rw [List.foldl_append]; rfl
theorem uq_gen (l : List Int) : ∀ acc : List Int, (l.foldl (fun acc n => if n ∈ acc then acc else acc ++ [n]) acc).length ≤ acc.length + l.length ∧ (acc.Nodup → (l.foldl (fun acc n => if n ∈ acc then acc else acc ++ [n]) acc).Nodup) := by
  induction l with
  | nil => intro acc; simp
  | cons n l ih =>
    intro acc
    rw [List.foldl_cons]
    by_cases h : n ∈ acc
    · rw [if_pos h]
      have := ih acc
      exact ⟨by simp; omega, this.2⟩
    · rw [if_neg h]
      have := ih (acc ++ [n])
      refine ⟨by simp at this ⊢; omega, fun hn => this.2 ?_⟩
      rw [List.nodup_append]
      exact ⟨hn, by simp, fun a ha b hb => by simp at hb; subst hb; exact fun e => h (e ▸ ha)⟩
theorem uq_len (l : List Int) : (uq l).length ≤ l.length := by have := (uq_gen l []).1; simpa [uq] using this
theorem uq_nodup (l : List Int) : (uq l).Nodup := (uq_gen l []).2 (by simp)
def tNew (α : Type) (l : List Int) (need : Int) : TS α := ⟨uq l, need, fun _ => none⟩
theorem cnt_new (l : List Int) (need : Int) : cnt (tNew α l need) = 0 := by unfold cnt tNew; simp
theorem tmap_new {l : List Int} {need n : Int} (h : n ∉ uq l) : updG (tmap f (tNew α l need)) n (some (f none)) = tmap f (tNew α (l ++ [n]) need) := by
  funext m
  unfold updG tmap tNew
  simp only [uq_snoc, if_neg h]
  by_cases e : m = n
  · subst e; simp
  · simp [e]
theorem mem_at {l : List Int} {k : Nat} (h : k < l.length) : l[k]?.getD 0 ∈ l := by
  rw [List.getElem?_eq_getElem h]; exact List.getElem_mem h
def missK (x : TS α) (k : Nat) : List Int := (x.g.take k).filter (fun n => (x.v n).isNone)
theorem missK_none {x : TS α} {k : Nat} {z : Int} (ht : x.g.take (k + 1) = x.g.take k ++ [z]) (hv : x.v z = none) : missK x (k + 1) = missK x k ++ [z] := by
  unfold missK; rw [ht, List.filter_append]; simp [hv]
theorem missK_len (x : TS α) (k : Nat) : (missK x k).length ≤ k := by
  unfold missK
  have h1 := List.length_filter_le (fun n => (x.v n).isNone) (x.g.take k)
  have h2 := List.length_take_le k x.g
  omega
theorem missK_all (x : TS α) : missK x x.g.length = missL x := by unfold missK missL; rw [List.take_length]
def MissOut (w : World) (l : List Int) (e : Ending) (w' : World) : Prop :=
  ∃ a cap, e = .returned (.slice a l.length cap) ∧ Own 3 1 w' w.heap.size a cap l.length (l.map (Value.int .i64)) ∧ Kept No w w'
theorem missK_some {x : TS α} {k : Nat} {z : Int} {v : α} (ht : x.g.take (k + 1) = x.g.take k ++ [z]) (hv : x.v z = some v) : missK x (k + 1) = missK x k := by
  unfold missK; rw [ht, List.filter_append]; simp [hv]
def gotK (x : TS α) (k : Nat) : List (Int × α) := (x.g.take k).filterMap (fun n => (x.v n).map (fun v => (n, v)))
theorem gotK_some {x : TS α} {k : Nat} {z : Int} {v : α} (ht : x.g.take (k + 1) = x.g.take k ++ [z]) (hv : x.v z = some v) : gotK x (k + 1) = gotK x k ++ [(z, v)] := by
  unfold gotK; rw [ht, List.filterMap_append]; simp [hv]
theorem gotK_none {x : TS α} {k : Nat} {z : Int} (ht : x.g.take (k + 1) = x.g.take k ++ [z]) (hv : x.v z = none) : gotK x (k + 1) = gotK x k := by
  unfold gotK; rw [ht, List.filterMap_append]; simp [hv]
theorem gotL_len (x : TS α) : (gotL x).length = cnt x := by
  unfold gotL cnt
  rw [List.length_filterMap_eq_countP]
  congr 1
  funext n
  cases x.v n <;> rfl
theorem gotK_len (x : TS α) (k : Nat) : (gotK x k).length ≤ cnt x := by
  rw [← gotL_len]
  unfold gotK gotL
  conv => rhs; rw [← List.take_append_drop k x.g, List.filterMap_append, List.length_append]
  omega
theorem gotK_all (x : TS α) : gotK x x.g.length = gotL x := by unfold gotK gotL; rw [List.take_length]
end Go.Proofs.Ythnecaejhnojfaa
namespace Go.Proofs.Ythnecaejhnojfaa
open Go.RowKit
set_option linter.unusedVariables false
set_option linter.unusedSimpArgs false

theorem Try.und148 : Try.prog.underlying 111 = some (.map 3 115) := by kernel_rfl
theorem Try.info152 : (Try.prog.info? 115).map (fun i => (i.zero, i.size, i.bytes)) = some (some (.agg #[.bool false]), 1, 2) := by kernel_rfl
theorem Try.zero152 (w : World) : (zeroValue 115).run Try.prog w = .ok (.agg #[.bool false]) w := by
  obtain ⟨i0, hi, hz0, hz1, hz2⟩ := info_parts Try.info152
  simp [zeroValue, typeInfo, hi, hz0]
def ansU : Option Unit → Value
  | none => .agg #[.bool false]
  | some _ => .agg #[.bool true]
theorem enough_anyU (t b cap : Nat) (a : Option Addr) (x : TS Unit) (w : World) (h : Tal 113 ansU w t b a cap x) :
    Calls Try.prog 65 #[.pointer (some ⟨t, 0, none⟩)] w fun e w' => e = .returned (.bool (enB x)) ∧ ∃ n, w' = w.drewN n := by
  obtain ⟨c0, c1, c2, c3⟩ := h.cells
  have HE : Hid (enB x = decide (x.need ≤ cnt x)) := rfl
  generalize enB x = E at HE
  have hc := cnt_le x
  have hl := h.len
  generalize cnt x = n at c2 HE hc
  generalize x.need = m at c1 HE
  generalize x.g.length = l at c0 hc hl
  clear h
  go_enter Try.func65, Try.ntmps65
  go_wp2
  go_quiet (fail)
  go_wp2
  all_goals go_ret
  all_goals refine ⟨ret_bool ?_, ⟨_, rfl⟩⟩
  all_goals rw [HE.out]
  all_goals simp_all

theorem tmap_noU {x : TS Unit} {s : Int} (h : s ∉ x.g) : tmap ansU x s = none := if_neg h
theorem tmap_someU {x : TS Unit} {s : Int} {v : Unit} (h : s ∈ x.g) (hv : x.v s = some v) : tmap ansU x s = some (.agg #[.bool true]) := by unfold tmap; rw [if_pos h, hv]; rfl
theorem tmap_noneU {x : TS Unit} {s : Int} (h : s ∈ x.g) (hv : x.v s = none) : tmap ansU x s = some (.agg #[.bool false]) := by unfold tmap; rw [if_pos h, hv]; rfl
theorem look_noU {x : TS Unit} {s : Int} (h : s ∉ x.g) : tupOk ((tmap ansU x s).getD (.agg #[.bool false])) (tmap ansU x s).isSome true = .tuple #[.agg #[.bool false], .bool false] := by
  rw [tmap_noU h]; rfl
theorem look_someU {x : TS Unit} {s : Int} {v : Unit} (h : s ∈ x.g) (hv : x.v s = some v) : tupOk ((tmap ansU x s).getD (.agg #[.bool false])) (tmap ansU x s).isSome true = .tuple #[.agg #[.bool true], .bool true] := by
  rw [tmap_someU h hv]; rfl
theorem look_noneU {x : TS Unit} {s : Int} (h : s ∈ x.g) (hv : x.v s = none) : tupOk ((tmap ansU x s).getD (.agg #[.bool false])) (tmap ansU x s).isSome true = .tuple #[.agg #[.bool false], .bool true] := by
  rw [tmap_noneU h hv]; rfl
def TakeOutU (w : World) (t b cap : Nat) (a : Option Addr) (x : TS Unit) (s : Int) (v : Unit) (e : Ending) (w' : World) : Prop :=
  e = .returned (.bool (takeB x s)) ∧ Tal 113 ansU w' t b a cap (takeS x s v) ∧ Kept (Tb2 t b) w w'

def NewOutU (w : World) (zs : List Int) (need : Int) (e : Ending) (w' : World) : Prop :=
  ∃ a cap, e = .returned (.pointer (some ⟨w.heap.size + 1, 0, none⟩)) ∧ Tal 113 ansU w' (w.heap.size + 1) w.heap.size a cap (tNew Unit zs need) ∧ (∀ k, At a k → w.heap.size ≤ k) ∧ Kept No w w'
set_option maxRecDepth 100000 in
set_option maxHeartbeats 2000000 in
theorem new_anyU (a0 : Option Addr) (n0 cap0 : Nat) (zs : List Int) (need : Int) (w : World) (hz : zs.length = n0) (hn : n0 ≤ 17592186043904) (hb : Nums .i64 w a0 zs) :
    Calls Try.prog 39 #[.slice a0 n0 cap0, .int .i64 need] w (NewOutU w zs need) := by
  have HB : Hid (Nums .i64 w a0 zs) := hb
  have HZ : Hid (zs.length = n0) := hz
  clear hb hz
  have hmm := @run_makeMap Try.prog
  have HS0 : Hid (Tal 113 ansU ((w.alloc (.map #[] 0)).alloc (.cells #[.slice none 0 0, .int .i64 need, .int .i64 0, .map (some w.heap.size)] 113)) (w.heap.size + 1) w.heap.size none 0 (tNew Unit [] need)) := by
    refine ⟨?_, ?_, Own.nil _ _ _ _, by simp [tNew, uq], by simp [tNew, uq], by decide⟩
    · have := Box.new (w.alloc (.map #[] 0)) 113 #[.slice none 0 0, .int .i64 need, .int .i64 0, .map (some w.heap.size)]
      have e : (w.alloc (.map #[] 0)).heap.size = w.heap.size + 1 := by simp
      rw [e] at this
      exact this
    · have e : tmap ansU (tNew Unit [] need) = fun _ => none := by funext n; simp [tmap, tNew, uq]
      rw [e]
      exact (MapIs.new w).kept ((Kept.refl No _).alloc _) (fun e => e)
  have HK0 : Hid (Kept No w ((w.alloc (.map #[] 0)).alloc (.cells #[.slice none 0 0, .int .i64 need, .int .i64 0, .map (some w.heap.size)] 113))) := ((Kept.refl No w).alloc _).alloc _
  go_enter Try.func39, Try.ntmps39
  go_wp2
  obtain ⟨w0, hw0⟩ : ∃ w0, w0 = (w.alloc (.map #[] 0)).alloc (.cells #[.slice none 0 0, .int .i64 need, .int .i64 0, .map (some w.heap.size)] 113) := ⟨_, rfl⟩
  rw [← hw0] at HS0 HK0
  try rw [← hw0]
  go_loopw [16] (fun vi wr => ∃ k : Nat, vi = .int .i64 k ∧ k ≤ n0 ∧ Hid (∃ a cap, Tal 113 ansU wr (w.heap.size + 1) w.heap.size a cap (tNew Unit (zs.take k) need) ∧ Own 3 1 wr w.heap.size a cap (uq (zs.take k)).length ((uq (zs.take k)).map (Value.int .i64)) ∧ Kept No w wr)) (fun i _ => n0 - (intOf i).toNat)
  case atStart => exact ⟨0, by go_num, by omega, ⟨none, 0, by rw [List.take_zero]; exact HS0.out, by rw [List.take_zero]; exact Own.nil _ _ _ _, HK0.out⟩⟩
  case round =>
    obtain ⟨k, rfl, hk, HI⟩ := hrel
    clear HS0 HK0 hw0
    obtain ⟨a, cap, hT, hfr, hK⟩ := HI.out
    have HT : Hid (Tal 113 ansU wr (w.heap.size + 1) w.heap.size a cap (tNew Unit (zs.take k) need)) := hT
    have HOw : Hid (Own 3 1 wr w.heap.size a cap (uq (zs.take k)).length ((uq (zs.take k)).map (Value.int .i64))) := hfr
    have HF : Hid (∀ q, At a q → w.heap.size ≤ q) := fun q hq => hfr.base hq
    have HK : Hid (Kept No w wr) := hK
    clear hT hfr hK HI
    by_cases hlt : k < n0
    · have hlt' : (k : Int) < (n0 : Int) := by omega
      obtain ⟨bb, off, rfl, hcell⟩ := (HB.out.no HK.out) k (by rw [HZ.out]; exact hlt)
      have HTk : Hid (zs.take (k + 1) = zs.take k ++ [zs[k]?.getD 0]) := take_snoc (by rw [HZ.out]; exact hlt)
      generalize zs[k]?.getD 0 = z at hcell HTk
      obtain ⟨c0, c1, c2, c3⟩ := HT.out.cells
      clear c0 c1 c2
      by_cases hm : z ∈ uq (zs.take k)
      · have HL : Hid _ := look_noneU (x := tNew Unit (zs.take k) need) (s := z) hm rfl
        have HU : Hid (tNew Unit (zs.take (k + 1)) need = tNew Unit (zs.take k) need) := by show _ = _; rw [HTk.out]; unfold tNew; rw [uq_snoc, if_pos hm]
        clear hm HTk
        go_wp2_with (refine wp_lookupV rfl _ _ 111 115 true rfl w.heap.size z rfl rfl HT.out.map Try.und148 (Try.zero152 _) _ HL.out ?_)
        go_roundw
        case rel => exact ⟨k + 1, by go_num, by omega, ⟨a, cap, by rw [HU.out]; exact HT.out.no ((Kept.refl No wr).alloc _), by rw [show uq (zs.take (k + 1)) = uq (zs.take k) from congrArg TS.g HU.out]; exact HOw.out.no ((Kept.refl No wr).alloc _), HK.out.alloc _⟩⟩
        case measure => simp [intOf]; omega
      · have HL : Hid _ := look_noU (x := tNew Unit (zs.take k) need) (s := z) hm
        have HU : Hid (uq (zs.take (k + 1)) = uq (zs.take k) ++ [z]) := by show _ = _; rw [HTk.out, uq_snoc, if_neg hm]
        have HM : Hid (updG (tmap ansU (tNew Unit (zs.take k) need)) z (some (ansU none)) = tmap ansU (tNew Unit (zs.take (k + 1)) need)) := by show _ = _; rw [HTk.out]; exact tmap_new hm
        have HLn : Hid ((uq (zs.take k)).length ≤ k) := by have := uq_len (zs.take k); rw [List.length_take, HZ.out] at this; show _ ≤ _; omega
        have HLn2 : Hid ((uq (zs.take (k + 1))).length ≤ 17592186043904) := by have := uq_len (zs.take (k + 1)); rw [List.length_take, HZ.out] at this; show _ ≤ _; omega
        clear hm HTk
        obtain ⟨w1, hw1⟩ : ∃ w1, w1 = wr.alloc (.cells #[.bool false] 115) := ⟨_, rfl⟩
        have HK1 : Hid (Kept No w w1) := by rw [hw1]; exact HK.out.alloc _
        have HT1 : Hid (Tal 113 ansU w1 (w.heap.size + 1) w.heap.size a cap (tNew Unit (zs.take k) need)) := by rw [hw1]; exact HT.out.no ((Kept.refl No wr).alloc _)
        have d3 := HT1.out.cells.2.2.2
        rw [hw1] at d3
        have HN0 : Hid (cnt (tNew Unit (zs.take k) need) = 0 ∧ cnt (tNew Unit (zs.take (k + 1)) need) = 0) := ⟨cnt_new _ _, cnt_new _ _⟩
        go_wp2_with (first
          | (refine wp_lookupV rfl _ _ 111 115 true rfl w.heap.size z rfl rfl HT.out.map Try.und148 (Try.zero152 _) _ HL.out ?_)
          | (refine wp_updateV rfl _ _ _ 111 115 rfl w.heap.size z (ansU none) rfl rfl rfl (by rw [← hw1]; exact HT1.out.map) Try.und148 ?_
             rw [← hw1]
             intro w3 HM3 HK3 hs3
             have HB3 : Hid (Box w3 (w.heap.size + 1) 113 (talC a cap w.heap.size (tNew Unit (zs.take k) need))) := HT1.out.box.kept HK3.out (fun e => HT1.out.ne e)
             have HR3 : Hid (Own 3 1 w3 w.heap.size a cap (uq (zs.take k)).length ((uq (zs.take k)).map (Value.int .i64))) := (show Own 3 1 w1 w.heap.size a cap _ _ by rw [hw1]; exact HOw.out.no ((Kept.refl No wr).alloc _)).kept HK3.out (fun q hq e => (HT1.out.off hq).2 e)
             have e0 := HB3.out.cell 0
             simp only [talC, List.getElem?_toArray, List.getElem?_cons_zero, List.getElem?_cons_succ, tNew] at e0
             have HK3' : Hid (Kept No w w3) := HK1.out.trans HK3.out (fun _ e => e) (fun i hi e => by have : i = w.heap.size := e; omega)
             have hsz : Hid (w.heap.size + 1 < w3.heap.size) := HB3.out.lt
             clear d3 c3 hw1 hs3 HK3)
          | (at_builtin
             refine wp_appV rfl _ _ 24 3 1 8 (.int .i64 0) Try.und24 Try.info3' rfl (by omega) rfl w.heap.size _ cap a _ rfl (HR3.out.no ((Kept.refl No w3).alloc _)) ⟨w3.heap.size, 0, none⟩ 1 1 [.int .i64 z] rfl rfl (cell_new1 _ _ _) (by simp [Value.oneCell']) (by have := HLn.out; omega) (by have := HLn.out; omega) (by omega) (by have := hsz.out; simp; omega) (uq (zs.take (k + 1))).length (by rw [HU.out]; simp) ?_
             intro g' cap' w4 HO4 HK4
             have HK34 : Hid (Kept (At a) w3 w4) := (((Kept.refl No w3).alloc (.cells #[.int .i64 z] 3)).of_no : Kept (At a) w3 _).then HK4.out
             have HB4 : Hid (Box w4 (w.heap.size + 1) 113 (talC a cap w.heap.size (tNew Unit (zs.take k) need))) := HB3.out.kept HK34.out (fun e => (HT1.out.off e).1 rfl)
             have HM4 : Hid (MapIs w4 w.heap.size (tmap ansU (tNew Unit (zs.take (k + 1)) need))) := by
               have := HM3.out
               rw [HM.out] at this
               exact this.kept HK34.out (fun e => (HT1.out.off e).2 rfl)
             have HKw : Hid (Kept No w w4) := HK3'.out.trans HK34.out (fun _ e => e) (fun i hi e => by have := HF.out i e; omega)
             have HO5 : Hid (Own 3 1 w4 w.heap.size (some ⟨g', 0, none⟩) cap' (uq (zs.take (k + 1))).length ((uq (zs.take (k + 1))).map (Value.int .i64))) := by
               have := HO4.out
               show Own _ _ _ _ _ _ _ _
               rw [HU.out, List.map_append] at *
               exact this
             have e0' := HB4.out.cell 0
             have f0 := HB4.out.frozen 0
             simp only [talC, List.getElem?_toArray, List.getElem?_cons_zero, List.getElem?_cons_succ, tNew] at e0'
             have hgt : g' ≠ w.heap.size + 1 := fun e => by
               rcases HO5.out.cases (by simp) with ⟨e, _⟩ | ⟨g, e, _, _, sp, hgb, _⟩
               · cases e
               · cases e
                 have hb4 := HB4.out
                 unfold Box at hb4
                 rw [e, hb4] at hgb
                 simp at hgb
             have HGT : Hid (g' ≠ w.heap.size + 1) := hgt
             clear e0 HK4 HK34 HM3 HB3 HR3 HK3' HO4 hgt))
        go_roundw
        case rel =>
          have hks : Kept (Only (w.heap.size + 1)) w4 (w4.setCell ⟨w.heap.size + 1, 0, none⟩ (.slice (some ⟨g', 0, none⟩) (uq (zs.take (k + 1))).length cap')) := (Kept.refl (Only (w.heap.size + 1)) w4).setCell (p := ⟨w.heap.size + 1, 0, none⟩) (fun _ => rfl) _
          have hoff : ∀ q, At (some ⟨g', 0, none⟩) q → ¬ Only (w.heap.size + 1) q := fun q hq e => by
            obtain ⟨ad, e1, rfl⟩ := hq
            cases e1
            exact HGT.out e
          refine ⟨k + 1, by go_num, by omega, ⟨some ⟨g', 0, none⟩, cap', ⟨?_, ?_, ?_, uq_nodup _, HLn2.out, by decide⟩, HO5.out.kept hks hoff, HKw.out.setCell (p := ⟨w.heap.size + 1, 0, none⟩) (fun h => by have : w.heap.size + 1 < w.heap.size := h; omega) _⟩⟩
          · have := HB4.out.set 0 (.slice (some ⟨g', 0, none⟩) (uq (zs.take (k + 1))).length cap')
            unfold talC at this ⊢
            rw [HN0.out.1] at this
            rw [HN0.out.2]
            exact this
          · exact HM4.out.kept hks (fun e => by have : w.heap.size = w.heap.size + 1 := e; omega)
          · exact Own.lower (HO5.out.kept hks hoff) (Nat.zero_le _)
        case measure => simp [intOf]; omega
    · have hlt' : ¬ (k : Int) < (n0 : Int) := by omega
      obtain rfl : k = n0 := by omega
      go_wp2
      go_ret
      exact ⟨a, cap, rfl, by have := HT.out; rw [List.take_of_length_le (by rw [HZ.out]; omega)] at this; exact this, HF.out, HK.out⟩


theorem wp_field0U {ops : Array Oper} {rest : List Oper} {o : Oper} {a : Act} {w : World} {Q : Exit → Act → World → Prop} (hg : o.guard = none) (x : Operand) (ho : o.op = .field 115 x 0) (c : Value) (hx : a.eval x = .agg #[c])
    (h : wpList Try.prog ops Q rest (a.put o.dst c) w) : wpList Try.prog ops Q (o :: rest) a w := by
  refine wp_runTo hg c w ?_ h
  simp only [execOp, ho, hx]
  kernel_rfl

theorem look1_someU {x : TS Unit} {s : Int} {v : Unit} (h : s ∈ x.g) (hv : x.v s = some v) : tupOk ((tmap ansU x s).getD (.agg #[.bool false])) (tmap ansU x s).isSome false = .agg #[.bool true] := by
  rw [tmap_someU h hv]; rfl
theorem look1_noneU {x : TS Unit} {s : Int} (h : s ∈ x.g) (hv : x.v s = none) : tupOk ((tmap ansU x s).getD (.agg #[.bool false])) (tmap ansU x s).isSome false = .agg #[.bool false] := by
  rw [tmap_noneU h hv]; rfl
set_option maxRecDepth 100000 in
set_option maxHeartbeats 2000000 in
theorem missing_anyU (t b cap : Nat) (a : Option Addr) (x : TS Unit) (w : World) (h : Tal 113 ansU w t b a cap x) :
    Calls Try.prog 40 #[.pointer (some ⟨t, 0, none⟩)] w (MissOut w (missL x)) := by
  have HT : Hid (Tal 113 ansU w t b a cap x) := h
  obtain ⟨c0, c1, c2, c3⟩ := h.cells
  have hlen := h.len
  clear h c1 c2 c3
  obtain ⟨n, hn⟩ : ∃ n, n = x.g.length := ⟨_, rfl⟩
  have HN : Hid (x.g.length = n) := hn.symm
  rw [← hn] at c0 hlen
  clear hn
  go_enter Try.func40, Try.ntmps40
  go_wp2
  go_loopw [3, 11] (fun v vi wr => ∃ (k : Nat) (a' : Option Addr) (cap' : Nat), vi = .int .i64 k ∧ k ≤ n ∧ v = .slice a' (missK x k).length cap' ∧ Hid (Own 3 1 wr w.heap.size a' cap' (missK x k).length ((missK x k).map (Value.int .i64))) ∧ Hid (Kept No w wr)) (fun _ i _ => n - (intOf i).toNat)
  case atStart => exact ⟨0, none, 0, by go_num, by omega, by simp [missK], (show Own 3 1 w w.heap.size none 0 (missK x 0).length ((missK x 0).map (Value.int .i64)) by simpa [missK] using Own.nil 3 1 w w.heap.size), Kept.refl _ _⟩
  case round =>
    obtain ⟨k, a', cap', rfl, hk, rfl, HO, HK⟩ := hrel
    clear c0
    by_cases hlt : k < n
    · have hlt' : (k : Int) < (n : Int) := by omega
      have HT1 : Hid (Tal 113 ansU wr t b a cap x) := HT.out.no HK.out
      have d3 := HT1.out.cells.2.2.2
      have HJL : Hid (k < x.g.length) := by show _ < _; rw [HN.out]; exact hlt
      obtain ⟨bb, off, rfl, hcell⟩ := HT1.out.nums k HJL.out
      have HTk : Hid (x.g.take (k + 1) = x.g.take k ++ [x.g[k]?.getD 0]) := take_snoc HJL.out
      have HMem : Hid (x.g[k]?.getD 0 ∈ x.g) := mem_at HJL.out
      have HLn : Hid ((missK x k).length ≤ k) := missK_len x k
      generalize x.g[k]?.getD 0 = z at hcell HTk HMem
      cases hv : x.v z with
      | some u =>
        have HL : Hid _ := look1_someU HMem.out hv
        have HU : Hid (missK x (k + 1) = missK x k) := missK_some HTk.out hv
        clear hv HTk
        go_wp2_with (first | (refine wp_lookupV rfl _ _ 111 115 false rfl b z rfl rfl HT1.out.map Try.und148 (Try.zero152 _) _ HL.out ?_) | (refine wp_field0U rfl _ rfl _ rfl ?_))
        go_roundw
        case rel => exact ⟨k + 1, a', cap', by go_num, by omega, by rw [HU.out], by rw [HU.out]; exact HO, HK⟩
        case measure => simp [intOf]; omega
      | none =>
        have HL : Hid _ := look1_noneU HMem.out hv
        have HU : Hid (missK x (k + 1) = missK x k ++ [z]) := missK_none HTk.out hv
        have hsz : Hid (w.heap.size ≤ wr.heap.size) := HK.out.size
        clear hv HTk
        go_wp2_with (first
          | (refine wp_lookupV rfl _ _ 111 115 false rfl b z rfl rfl HT1.out.map Try.und148 (Try.zero152 _) _ HL.out ?_)
          | (refine wp_field0U rfl _ rfl _ rfl ?_)
          | (at_builtin
             refine wp_appV rfl _ _ 24 3 1 8 (.int .i64 0) Try.und24 Try.info3' rfl (by omega) rfl w.heap.size _ cap' a' _ rfl (HO.out.no ((Kept.refl No wr).alloc _)) ⟨wr.heap.size, 0, none⟩ 1 1 [.int .i64 z] rfl rfl (cell_new1 _ _ _) (by simp [Value.oneCell']) (by have := HLn.out; omega) (by have := HLn.out; omega) (by omega) (by have := hsz.out; simp; omega) (missK x (k + 1)).length (by rw [HU.out]; simp) ?_
             intro g' cap'' w4 HO4 HK4
             have HKw : Hid (Kept No w w4) := (HK.out.alloc _).trans HK4.out (fun _ e => e) (fun i hi e => by have := HO.out.base e; omega)
             have HO5 : Hid (Own 3 1 w4 w.heap.size (some ⟨g', 0, none⟩) cap'' (missK x (k + 1)).length ((missK x (k + 1)).map (Value.int .i64))) := by
               have := HO4.out
               show Own _ _ _ _ _ _ _ _
               rw [HU.out, List.map_append] at *
               exact this
             clear HO4 HK4))
        go_roundw
        case rel => exact ⟨k + 1, some ⟨g', 0, none⟩, cap'', by go_num, by omega, rfl, HO5, HKw⟩
        case measure => simp [intOf]; omega
    · have hlt' : ¬ (k : Int) < (n : Int) := by omega
      obtain rfl : k = n := by omega
      have HA : Hid (missK x k = missL x) := by show _ = _; rw [← HN.out]; exact missK_all x
      go_wp2
      go_ret
      rw [HA.out] at HO ⊢
      exact ⟨a', cap', rfl, HO.out, HK.out⟩

end Go.Proofs.Ythnecaejhnojfaa
