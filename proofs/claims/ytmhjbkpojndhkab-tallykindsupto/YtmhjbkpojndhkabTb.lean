import Derived.Test.YtmhjbkpojndhkabMa
namespace Go.Proofs.Ytmhjbkpojndhkab
open Go.RowKit
set_option linter.unusedVariables false
set_option linter.unusedSimpArgs false

theorem Try.und89 : Try.prog.underlying 89 = some (.map 3 93) := by kernel_rfl
theorem Try.info93 : (Try.prog.info? 93).map (fun i => (i.zero, i.size, i.bytes)) = some (some (.agg #[.bool false, .int .i64 0]), 2, 16) := by kernel_rfl
theorem Try.zero93 (w : World) : (zeroValue 93).run Try.prog w = .ok (.agg #[.bool false, .int .i64 0]) w := by
  obtain ⟨i0, hi, hz0, hz1, hz2⟩ := info_parts Try.info93
  simp [zeroValue, typeInfo, hi, hz0]
theorem Try.und22 : Try.prog.underlying 22 = some (.slice 3) := by kernel_rfl
theorem Try.und3 : Try.prog.underlying 3 = some (.int .i64) := by kernel_rfl
theorem Try.info3' : (Try.prog.info? 3).map (fun i => (i.zero, i.size, i.bytes)) = some (some (.int .i64 0), 1, 8) := by kernel_rfl

/-- A tally: the group, each once; how many are needed; who has said what. -/
structure TS where
  g : List Int
  need : Int
  v : Int → Option Int

def ansV : Option Int → Value
  | none => .agg #[.bool false, .int .i64 0]
  | some x => .agg #[.bool true, .int .i64 x]
theorem ansV_eq (o : Option Int) : ansV o = .agg #[.bool o.isSome, .int .i64 (o.getD 0)] := by cases o <;> rfl
def tmap (x : TS) : Int → Option Value := fun n => if n ∈ x.g then some (ansV (x.v n)) else none
def cnt (x : TS) : Nat := x.g.countP (fun n => (x.v n).isSome)
def enB (x : TS) : Bool := decide (x.need ≤ cnt x)
def mayB (x : TS) (s : Int) : Bool := decide (s ∈ x.g) && (x.v s).isNone && !enB x
def putS (x : TS) (s v : Int) : TS := { x with v := fun m => if m = s then some v else x.v m }
def takeS (x : TS) (s v : Int) : TS := if mayB x s then putS x s v else x
def takeB (x : TS) (s : Int) : Bool := mayB x s && decide (x.need ≤ cnt x + 1)
def missL (x : TS) : List Int := x.g.filter (fun n => (x.v n).isNone)
def gotL (x : TS) : List (Int × Int) := x.g.filterMap (fun n => (x.v n).map (fun v => (n, v)))

theorem cnt_le (x : TS) : cnt x ≤ x.g.length := List.countP_le_length
theorem cnt_put {x : TS} {s v : Int} (hn : x.g.Nodup) (hs : s ∈ x.g) (hv : x.v s = none) : cnt (putS x s v) = cnt x + 1 := by
  unfold cnt putS
  simp only
  obtain ⟨g, need, f⟩ := x
  simp only at *
  clear need
  induction g with
  | nil => simp at hs
  | cons y l ih =>
    rw [List.nodup_cons] at hn
    rw [List.countP_cons, List.countP_cons]
    by_cases e : y = s
    · subst e
      have : List.countP (fun n => (if n = y then some v else f n).isSome) l = List.countP (fun n => (f n).isSome) l := by
        apply List.countP_congr
        intro n hnl
        have : n ≠ y := fun e => hn.1 (e ▸ hnl)
        simp [this]
      simp [this, hv]
    · have h2 : s ∈ l := by
        rcases List.mem_cons.1 hs with h | h
        · exact absurd h.symm e
        · exact h
      rw [ih hn.2 h2]
      simp [e]
      omega
theorem tmap_put {x : TS} {s v : Int} (hs : s ∈ x.g) : updG (tmap x) s (some (ansV (some v))) = tmap (putS x s v) := by
  funext m
  unfold updG tmap putS
  by_cases e : m = s
  · subst e; simp [hs]
  · simp [e]

def talC (a : Option Addr) (cap b : Nat) (x : TS) : Array Value := #[.slice a x.g.length cap, .int .i64 x.need, .int .i64 (cnt x), .map (some b)]
def I64 (n : Int) : Prop := -9223372036854775808 ≤ n ∧ n ≤ 9223372036854775807
structure Tal (w : World) (t b : Nat) (a : Option Addr) (cap : Nat) (x : TS) : Prop where
  box : Box w t 91 (talC a cap b x)
  map : MapIs w b (tmap x)
  row : Own 3 1 w 0 a cap x.g.length (x.g.map (Value.int .i64))
  nd : x.g.Nodup
  len : x.g.length ≤ 17592186043904
def TB (t b : Nat) (a : Option Addr) : Nat → Prop := fun k => k = t ∨ k = b ∨ At a k
def Tb2 (t b : Nat) : Nat → Prop := fun k => k = t ∨ k = b

theorem Tal.kept {S : Nat → Prop} {w w' : World} {t b cap : Nat} {a : Option Addr} {x : TS} (h : Tal w t b a cap x) (hk : Kept S w w') (hS : ∀ k, TB t b a k → ¬ S k) : Tal w' t b a cap x :=
  ⟨h.box.kept hk (hS t (.inl rfl)), h.map.kept hk (hS b (.inr (.inl rfl))), h.row.kept hk (fun k hk => hS k (.inr (.inr hk))), h.nd, h.len⟩
theorem Tal.no {w w' : World} {t b cap : Nat} {a : Option Addr} {x : TS} (h : Tal w t b a cap x) (hk : Kept No w w') : Tal w' t b a cap x := h.kept hk (fun _ _ e => e)
theorem Tal.ne {w : World} {t b cap : Nat} {a : Option Addr} {x : TS} (h : Tal w t b a cap x) : t ≠ b := by
  intro e
  obtain ⟨es, c, hb, _⟩ := h.map
  have := h.box
  unfold Box at this
  rw [e, hb] at this
  cases this
theorem Tal.nums {w : World} {t b cap : Nat} {a : Option Addr} {x : TS} (h : Tal w t b a cap x) : Nums .i64 w a x.g := h.row.nums rfl
/-- The row's block is neither the struct's nor the map's. -/
theorem Tal.off {w : World} {t b cap : Nat} {a : Option Addr} {x : TS} (h : Tal w t b a cap x) {k : Nat} (hk : At a k) : k ≠ t ∧ k ≠ b := by
  rcases h.row.cases (by simp) with ⟨rfl, _⟩ | ⟨g, rfl, _, _, sp, hg, _⟩
  · exact absurd hk At.none
  · obtain ⟨ad, e, rfl⟩ := hk
    cases e
    constructor
    · intro e
      have e : g = t := e
      have := h.box
      unfold Box at this
      rw [e, this] at hg
      simp at hg
    · intro e
      have e : g = b := e
      obtain ⟨es, c, hb, _⟩ := h.map
      rw [e, hb] at hg
      cases hg
theorem Tal.cells {w : World} {t b cap : Nat} {a : Option Addr} {x : TS} (h : Tal w t b a cap x) : w.cell? ⟨t, 0, none⟩ = some (.slice a x.g.length cap) ∧ w.cell? ⟨t, 1, none⟩ = some (.int .i64 x.need) ∧ w.cell? ⟨t, 2, none⟩ = some (.int .i64 (cnt x)) ∧ w.cell? ⟨t, 3, none⟩ = some (.map (some b)) :=
  ⟨h.box.cell 0, h.box.cell 1, h.box.cell 2, h.box.cell 3⟩
theorem Tal.lt {w : World} {t b cap : Nat} {a : Option Addr} {x : TS} (h : Tal w t b a cap x) {k : Nat} (hk : TB t b a k) : k < w.heap.size := by
  rcases hk with rfl | rfl | hk
  · exact h.box.lt
  · exact h.map.lt
  · rcases h.row.cases (by simp) with ⟨rfl, _⟩ | ⟨g, rfl, _, hlt, _⟩
    · exact absurd hk At.none
    · obtain ⟨ad, e, rfl⟩ := hk
      cases e; exact hlt

theorem enough_any (t b cap : Nat) (a : Option Addr) (x : TS) (w : World) (h : Tal w t b a cap x) :
    Calls Try.prog 23 #[.pointer (some ⟨t, 0, none⟩)] w fun e w' => e = .returned (.bool (enB x)) ∧ ∃ n, w' = w.drewN n := by
  obtain ⟨c0, c1, c2, c3⟩ := h.cells
  have HE : Hid (enB x = decide (x.need ≤ cnt x)) := rfl
  generalize enB x = E at HE
  have hc := cnt_le x
  have hl := h.len
  generalize cnt x = n at c2 HE hc
  generalize x.need = m at c1 HE
  generalize x.g.length = l at c0 hc hl
  clear h
  go_enter Try.func23, Try.ntmps23
  go_wp2
  go_quiet (fail)
  go_wp2
  all_goals go_ret
  all_goals refine ⟨ret_bool ?_, ⟨_, rfl⟩⟩
  all_goals rw [HE.out]
  all_goals simp_all
end Go.Proofs.Ytmhjbkpojndhkab
