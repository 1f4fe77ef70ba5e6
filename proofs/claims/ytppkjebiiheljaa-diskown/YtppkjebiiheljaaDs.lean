import Derived.Test.YtppkjebiiheljaaDk
namespace Go.Proofs.Ytppkjebiiheljaa
open Go.RowKit
set_option linter.unusedVariables false
set_option linter.unusedSimpArgs false

/-- What a disk is: sectors, what lies in each, its power (none: steady), fallen, its counts. -/
structure DS where
  N : Nat
  c : Nat → List Int
  pw : Option (Int × Int)
  fl : Bool
  rd : Int
  wr : Int

def gOf (c : Nat → List Int) : Nat → Option (List Int) := fun n => if c n = zs then none else some (c n)
def updC (c : Nat → List Int) (n : Nat) (s : List Int) : Nat → List Int := fun m => if m = n then s else c m
theorem gOf_getD (c : Nat → List Int) (n : Nat) : (gOf c n).getD zs = c n := by
  unfold gOf; split
  · rename_i h; rw [h]; rfl
  · rfl
theorem gOf_some (c : Nat → List Int) (n : Nat) (s : List Int) (h : s ≠ zs) : updG (gOf c) n (some s) = gOf (updC c n s) := by
  funext m
  unfold updG gOf updC
  by_cases e : m = n
  · simp [e, h]
  · simp [e]
theorem gOf_none (c : Nat → List Int) (n : Nat) : updG (gOf c) n none = gOf (updC c n zs) := by
  funext m
  unfold updG gOf updC
  by_cases e : m = n
  · simp [e]
  · simp [e]

def pwV : Option (Int × Int) → Value
  | none => .iface 65 (.agg #[])
  | some (l, t) => .iface 79 (.agg #[.int .i64 l, .int .i64 t])

def dskC (b : Nat) (x : DS) : Array Value := #[.int .i64 x.N, .map (some b), pwV x.pw, .bool x.fl, .int .i64 x.rd, .int .i64 x.wr]
def Dsk (w : World) (d b : Nat) (x : DS) : Prop := Box w d 69 (dskC b x) ∧ MapIs w b (gOf x.c)
def DB (d b : Nat) : Nat → Prop := fun k => k = d ∨ k = b

theorem Dsk.kept {S : Nat → Prop} {w w' : World} {d b : Nat} {x : DS} (h : Dsk w d b x) (hk : Kept S w w') (h1 : ¬ S d) (h2 : ¬ S b) : Dsk w' d b x :=
  ⟨h.1.kept hk h1, h.2.kept hk h2⟩
theorem Dsk.no {w w' : World} {d b : Nat} {x : DS} (h : Dsk w d b x) (hk : Kept No w w') : Dsk w' d b x := h.kept hk (fun e => e) (fun e => e)
theorem Dsk.ne {w : World} {d b : Nat} {x : DS} (h : Dsk w d b x) : d ≠ b := by
  intro e
  obtain ⟨es, c, hb, _⟩ := h.2
  have := h.1
  unfold Box at this
  rw [e, hb] at this
  cases this
theorem Dsk.ltd {w : World} {d b : Nat} {x : DS} (h : Dsk w d b x) : d < w.heap.size := h.1.lt
theorem Dsk.ltb {w : World} {d b : Nat} {x : DS} (h : Dsk w d b x) : b < w.heap.size := h.2.lt
theorem Dsk.cells {w : World} {d b : Nat} {x : DS} (h : Dsk w d b x) : w.cell? ⟨d, 0, none⟩ = some (.int .i64 x.N) ∧ w.cell? ⟨d, 1, none⟩ = some (.map (some b)) ∧ w.cell? ⟨d, 2, none⟩ = some (pwV x.pw) ∧ w.cell? ⟨d, 3, none⟩ = some (.bool x.fl) ∧ w.cell? ⟨d, 4, none⟩ = some (.int .i64 x.rd) ∧ w.cell? ⟨d, 5, none⟩ = some (.int .i64 x.wr) :=
  ⟨h.1.cell 0, h.1.cell 1, h.1.cell 2, h.1.cell 3, h.1.cell 4, h.1.cell 5⟩

theorem ret_tup {a b : Value} (h : a = b) : Ending.returned a = .returned b := by rw [h]

theorem Dsk.new (w : World) (N : Nat) : Dsk ((w.alloc (.map #[] 0)).alloc (.cells #[.int .i64 N, .map (some w.heap.size), .iface 65 (.agg #[]), .bool false, .int .i64 0, .int .i64 0] 69)) (w.heap.size + 1) w.heap.size ⟨N, fun _ => zs, none, false, 0, 0⟩ := by
  constructor
  · have := Box.new (w.alloc (.map #[] 0)) 69 (dskC w.heap.size ⟨N, fun _ => zs, none, false, 0, 0⟩)
    have e : (w.alloc (.map #[] 0)).heap.size = w.heap.size + 1 := by simp
    rw [e] at this
    exact this
  · have h0 := MapIs.new w
    have e : gOf (fun _ => zs) = fun _ => none := by funext n; simp [gOf]
    rw [e]
    exact h0.kept ((Kept.refl No _).alloc _) (fun e => e)

theorem newYes_any (N : Nat) (w : World) (h1 : 1 ≤ N) (h2 : N ≤ 65536) :
    Calls Try.prog 10 #[.int .i64 N] w fun e w' => e = .returned (.tuple #[.pointer (some ⟨w.heap.size + 1, 0, none⟩), .int .i64 0]) ∧ Dsk w' (w.heap.size + 1) w.heap.size ⟨N, fun _ => zs, none, false, 0, 0⟩ ∧ Kept No w w' := by
  have e1 : ¬ ((N : Int) < 1) := by omega
  have e2 : ¬ ((N : Int) > 65536) := by omega
  have HR := Dsk.new w N
  have HD : Hid (Dsk ((w.alloc (.map #[] 0)).alloc (.cells #[.int .i64 N, .map (some w.heap.size), .iface 65 (.agg #[]), .bool false, .int .i64 0, .int .i64 0] 69)) (w.heap.size + 1) w.heap.size ⟨N, fun _ => zs, none, false, 0, 0⟩) := HR
  clear HR h1 h2
  have hmm := @run_makeMap Try.prog
  go_enter Try.func10, Try.ntmps10
  go_wp2
  all_goals go_ret2
  exact ⟨by simp, HD.out, ((Kept.refl No w).alloc _).alloc _⟩

theorem newNo_any (n : Int) (w : World) (h : n < 1 ∨ 65536 < n) :
    Calls Try.prog 10 #[.int .i64 n] w fun e w' => e = .returned (.tuple #[.pointer none, .int .i64 30]) ∧ w' = w := by
  rcases h with h | h
  · go_enter Try.func10, Try.ntmps10
    go_wp2
    all_goals go_ret2
    all_goals exact ⟨rfl, rfl⟩
  · have h' : ¬ (n < 1) := by omega
    go_enter Try.func10, Try.ntmps10
    go_wp2
    all_goals go_ret2
    all_goals exact ⟨rfl, rfl⟩

/-- What a Read and a Write refuse alike. -/
def refE (x : DS) (n : Int) : Int := if x.fl then 5 else if n < 0 then 31 else if n ≥ x.N then 31 else 0

theorem refusal_any (d b : Nat) (x : DS) (n : Int) (w : World) (h : Dsk w d b x) :
    Calls Try.prog 31 #[.pointer (some ⟨d, 0, none⟩), .int .i64 n] w fun e w' => e = .returned (.int .i64 (refE x n)) ∧ w' = w := by
  obtain ⟨c0, c1, c2, c3, c4, c5⟩ := h.cells
  clear h c1 c2 c4 c5
  obtain ⟨N, c, pw, fl, rd, wr⟩ := x
  simp only at c0 c3
  generalize he : refE ⟨N, c, pw, fl, rd, wr⟩ n = E
  cases fl
  · by_cases h1 : n < 0
    · have hE : Hid (31 = E) := (by rw [← he]; simp [refE, h1] : (31 : Int) = E)
      clear he
      go_enter Try.func31, Try.ntmps31
      go_wp2
      all_goals go_ret
      all_goals exact ⟨ret_int hE.out, rfl⟩
    · by_cases h2 : n ≥ (N : Int)
      · have hE : Hid (31 = E) := by rw [← he]; unfold refE; simp only [Bool.false_eq_true, if_false]; rw [if_neg h1, if_pos h2]; exact rfl
        clear he
        go_enter Try.func31, Try.ntmps31
        go_wp2
        all_goals go_ret
        all_goals exact ⟨ret_int hE.out, rfl⟩
      · have hE : Hid (0 = E) := by rw [← he]; unfold refE; simp only [Bool.false_eq_true, if_false]; rw [if_neg h1, if_neg h2]; exact rfl
        clear he
        go_enter Try.func31, Try.ntmps31
        go_wp2
        all_goals go_ret
        all_goals exact ⟨ret_int hE.out, rfl⟩
  · have hE : Hid (5 = E) := (by rw [← he]; simp [refE] : (5 : Int) = E)
    clear he
    go_enter Try.func31, Try.ntmps31
    go_wp2
    all_goals go_ret
    all_goals exact ⟨ret_int hE.out, rfl⟩

theorem sectors_any (d b : Nat) (x : DS) (w : World) (h : Dsk w d b x) :
    Calls Try.prog 16 #[.pointer (some ⟨d, 0, none⟩)] w fun e w' => e = .returned (.int .i64 x.N) ∧ w' = w := by
  obtain ⟨c0, c1, c2, c3, c4, c5⟩ := h.cells
  go_enter Try.func16, Try.ntmps16
  go_wp2
  all_goals go_ret
  all_goals exact ⟨rfl, rfl⟩

theorem fallen_any (d b : Nat) (x : DS) (w : World) (h : Dsk w d b x) :
    Calls Try.prog 15 #[.pointer (some ⟨d, 0, none⟩)] w fun e w' => e = .returned (.bool x.fl) ∧ w' = w := by
  obtain ⟨c0, c1, c2, c3, c4, c5⟩ := h.cells
  go_enter Try.func15, Try.ntmps15
  go_wp2
  all_goals go_ret
  all_goals exact ⟨rfl, rfl⟩

theorem counts_any (d b : Nat) (x : DS) (w : World) (h : Dsk w d b x) :
    Calls Try.prog 17 #[.pointer (some ⟨d, 0, none⟩)] w fun e w' => e = .returned (.agg #[.int .i64 x.rd, .int .i64 x.wr]) ∧ Kept No w w' := by
  have h0 := h.no ((Kept.refl No w).alloc (.cells #[.int .i64 0, .int .i64 0] 38))
  obtain ⟨c0, c1, c2, c3, c4, c5⟩ := h0.cells
  clear h h0 c0 c1 c2 c3
  go_enter Try.func17, Try.ntmps17
  go_wp2
  all_goals exact bodyPost_ret (v := .agg #[.int .i64 x.rd, .int .i64 x.wr]) (by simp [results, Try.results17, go_sem]) rfl ⟨rfl, (Kept.refl No w).alloc _⟩

theorem onlySelf (d : Nat) : Only d d := by unfold Only; rfl
theorem Dsk.put {w : World} {d b : Nat} {x : DS} (h : Dsk w d b x) (i : Nat) (v : Value) (y : DS) (hc : (dskC b x).setIfInBounds i v = dskC b y) (hy : y.c = x.c) : Dsk (w.setCell ⟨d, i, none⟩ v) d b y := by
  constructor
  · rw [← hc]; exact h.1.set i v
  · rw [hy]; exact h.2.kept ((Kept.refl (Only d) w).setCell (fun _ => onlySelf d) v) (fun e => h.ne e.symm)

theorem start_any (d b : Nat) (x : DS) (w : World) (h : Dsk w d b x) :
    Calls Try.prog 30 #[.pointer (some ⟨d, 0, none⟩)] w fun e w' => e = .returned (.tuple #[]) ∧ Dsk w' d b { x with fl := false, pw := none } ∧ Kept (Only d) w w' := by
  have f3 := h.1.frozen 3
  have c3 := h.cells.2.2.2.1
  have H1 := h.put 3 (.bool false) { x with fl := false } rfl rfl
  have g2 := H1.1.frozen 2
  have e2 := H1.cells.2.2.1
  have H2 := H1.put 2 (pwV none) { x with fl := false, pw := none } rfl rfl
  have HD : Hid (Dsk ((w.setCell ⟨d, 3, none⟩ (.bool false)).setCell ⟨d, 2, none⟩ (.iface 65 (.agg #[]))) d b { x with fl := false, pw := none }) := H2
  have HK : Hid (Kept (Only d) w ((w.setCell ⟨d, 3, none⟩ (.bool false)).setCell ⟨d, 2, none⟩ (.iface 65 (.agg #[])))) := ((Kept.refl (Only d) w).setCell (fun _ => onlySelf d) _).setCell (fun _ => onlySelf d) _
  simp only at e2
  clear h H1 H2
  generalize pwV x.pw = pv at e2
  go_enter Try.func30, Try.ntmps30
  go_wp2
  first | go_end0 | refine bodyPost_ret (results_none rfl _ _ _) rfl ?_
  exact ⟨rfl, HD.out, HK.out⟩

end Go.Proofs.Ytppkjebiiheljaa
