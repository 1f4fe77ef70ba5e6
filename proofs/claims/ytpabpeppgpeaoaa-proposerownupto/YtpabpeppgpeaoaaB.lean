import Derived.Test.YtpabpeppgpeaoaaD
namespace Go.Proofs.Ytpabpeppgpeaoaa
open Go.RowKit
set_option linter.unusedVariables false
set_option linter.unusedSimpArgs false
theorem Kept.thenNo {S : Nat → Prop} {a b c : World} (h : Kept S a b) (k : Kept No b c) : Kept S a c := h.then k.of_no
theorem Kept.newRowS {S : Nat → Prop} {a w : World} (h : Kept S a w) {g : Nat} (hg : a.heap.size ≤ g) (cs : Array Value) : Kept S a (w.setRow g cs) :=
  h.trans (Kept.setRow _ _ _) (fun _ e => e) (fun i hi e => by have : i = g := e; omega)
theorem Kept.inRow {S : Nat → Prop} {a w : World} (h : Kept S a w) {g : Nat} (hg : S g) (cs : Array Value) : Kept S a (w.setRow g cs) :=
  h.trans (Kept.setRow _ _ _) (fun _ e => e) (fun i hi e => by have e : i = g := e; rw [e]; exact hg)

/-- One of those that may come up. -/
def StepH (md : Region.Mode) (ops : Array Oper) (Q : Exit → Act → World → Prop) (S : World → Prop) (fuel : Nat) (listed : Array Bool) (a : Act) (w : World) (i : Nat) : Prop :=
  wpOp Try.prog ops Q i (fun a' w' => S w' ∧ wpAnyH Try.prog md ops Q S fuel (listed.setIfInBounds i true) a' w') a w
section
variable {ops : Array Oper} {o : Oper} {a : Act} {w w' : World} {Q : Exit → Act → World → Prop} {md : Region.Mode} {S : World → Prop} {fuel : Nat} {listed : Array Bool}
theorem any_pick {rs : List Nat} (hr : Region.ready md ops listed = rs) (hne : rs ≠ []) (h : ∀ i ∈ rs, StepH md ops Q S fuel listed a w i) : wpAnyH Try.prog md ops Q S (fuel + 1) listed a w := wpAnyH_all hr hne h
theorem step_run {i : Nat} {v : Value} (hi : ops[i]? = some o) (hw : Region.wanted o (yielded ops a.tmps) = true) (hrun : (execOp a.eval o).run Try.prog w = .ok (.value v) w') (hS : S w')
    (h : S w' → wpAnyH Try.prog md ops Q S fuel (listed.setIfInBounds i true) (a.put o.dst v) w') : StepH md ops Q S fuel listed a w i := by
  refine wpOp_step hi (fun K' hK => ?_)
  rw [if_pos hw]
  unfold Oper.wp
  rw [hrun, Oper.upon_value]
  exact hK _ _ ⟨hS, h hS⟩
theorem step_call {i : Nat} (hi : ops[i]? = some o) (hw : Region.wanted o (yielded ops a.tmps) = true) (f : FuncId) (args : Array Value) (hrun : (execOp a.eval o).run Try.prog w = .ok (.enter f args) w) (C : Ending → World → Prop) (hc : Calls Try.prog f args w C)
    (h : ∀ e w', C e w' → ∃ v, e = .returned v ∧ S w' ∧ (S w' → wpAnyH Try.prog md ops Q S fuel (listed.setIfInBounds i true) (a.put o.dst v) w')) : StepH md ops Q S fuel listed a w i := by
  refine wpOp_step hi (fun K' hK => ?_)
  rw [if_pos hw]
  unfold Oper.wp
  rw [hrun, Oper.upon_enter]
  refine hc.mono fun e w' he => ?_
  obtain ⟨v, rfl, hS, hh⟩ := h e w' he
  exact hK _ _ ⟨hS, hh hS⟩
end
theorem pick2 {i a b : Nat} (h : i ∈ [a, b]) : i = a ∨ i = b := by simpa using h

/-- A key, a slice's value, a message, a proposer, a question. -/
structure Ky where
  k : Int
  a : Int
  b : Int
  c : Int
structure Sl where
  a : Option Addr
  l : Nat
  k : Nat
structure Ms where
  k : Int
  fc : Bool
  fi : Int
  tc : Bool
  ti : Int
  op : Int
  rd : Int
  ky : Ky
  st : Sp
  hd : Sp
  bl : Sl
  c : Cm
  up : Int
  en : Sl
  la : Sl
  cm : Sl
  mo : Bool
structure Pv where
  cl : Int
  op : Int
  ky : Ky
  ga : Sl
  mine : Cm
  n : Int
  top : Int
  rd : Int
  ph : Value
def Sl.v (s : Sl) : Value := .slice s.a s.l s.k
def Ky.cs (y : Ky) : List Value := [.int .i64 y.k, .int .i64 y.a, .int .i64 y.b, .int .i64 y.c]
def Ms.cs (m : Ms) : List Value := [.int .i64 m.k, .bool m.fc, .int .i64 m.fi, .bool m.tc, .int .i64 m.ti, .int .i64 m.op, .int .i64 m.rd] ++ (m.ky.cs ++ (m.st.cs ++ (m.hd.cs ++ ([m.bl.v] ++ (m.c.cs ++ [.int .i64 m.up, m.en.v, m.la.v, m.cm.v, .bool m.mo])))))
def Pv.cs (p : Pv) : List Value := [.bool true, .int .i64 p.cl, .int .i64 p.op] ++ (p.ky.cs ++ ([p.ga.v] ++ (p.mine.cs ++ [.int .i64 p.n, .int .i64 p.cl, .int .i64 p.top, .int .i64 p.rd, p.ph])))
def qcs (m : Ms) (h : Nat) (rf : Bool) : List Value := m.cs ++ [.pointer (some ⟨h, 0, none⟩), .bool rf]
def Ms.cells (m : Ms) : Array Value := m.cs.toArray
def Pv.cells (p : Pv) : Array Value := p.cs.toArray
def slZ : Sl := ⟨none, 0, 0⟩
def kyZ : Ky := ⟨0, 0, 0, 0⟩
def msZ : Ms := ⟨0, false, 0, false, 0, 0, 0, kyZ, sZ, sZ, slZ, cZ, 0, slZ, slZ, slZ, false⟩
theorem Ms.size (m : Ms) : m.cells.size = 30 := rfl
theorem Ms.len (m : Ms) : m.cs.length = 30 := rfl
theorem Pv.size (p : Pv) : p.cells.size = 22 := rfl
theorem Pv.len (p : Pv) : p.cs.length = 22 := rfl
theorem Ms.one (m : Ms) : m.cells.all (·.oneCell') = true := by simp [Ms.cells, Ms.cs, Ky.cs, Sp.cs, Cm.cs, Sl.v, Value.oneCell']
theorem zeroMs : (Try.prog.info? 47).bind (·.zero) = some (.agg msZ.cells) := by kernel_rfl
/-- The phases as values. -/
def phPre (q t : Nat) : Value := .iface 155 (.agg #[.pointer (some ⟨q, 0, none⟩), .pointer (some ⟨t, 0, none⟩)])
def phAcc (q t : Nat) : Value := .iface 162 (.agg #[.pointer (some ⟨q, 0, none⟩), .pointer (some ⟨t, 0, none⟩)])
def phDec (c : Cm) : Value := .iface 118 (.agg c.cells)
def phTri (u : Int) (e l : Sl) : Value := .iface 120 (.agg #[.int .i64 u, e.v, l.v])
def phWorn : Value := .iface 140 (.agg #[])

theorem Pv.cel {w : World} {p : Nat} {v : Pv} (h : Box w p 94 v.cells) : w.cell? ⟨p, 7, none⟩ = some (.slice v.ga.a v.ga.l v.ga.k) ∧ w.cell? ⟨p, 17, none⟩ = some (.int .i64 v.n) ∧ w.cell? ⟨p, 19, none⟩ = some (.int .i64 v.top) ∧ w.cell? ⟨p, 20, none⟩ = some (.int .i64 v.rd) ∧ w.cell? ⟨p, 21, none⟩ = some v.ph :=
  ⟨h.cell 7, h.cell 17, h.cell 19, h.cell 20, h.cell 21⟩

def okN (n : Int) : Bool := decide (1 ≤ n) && decide (n ≤ 1099511627776)
theorem isNumber_any (n : Int) (w : World) : Calls Try.prog 88 #[.int .i64 n] w (fun e w' => e = .returned (.bool (okN n)) ∧ w' = w) := by
  have HE : Hid (okN n = (decide (1 ≤ n) && decide (n ≤ 1099511627776))) := rfl
  go_enter Try.func88, Try.ntmps88
  go_wp2
  all_goals go_ret
  all_goals refine ⟨ret_bool ?_, rfl⟩
  all_goals rw [HE.out]
  all_goals first | (simp_all; done) | (simp_all; omega) | (simp_all; intros; omega)
def needN (l : Nat) : Int := ((l / 2 + 1 : Nat) : Int)
theorem need_any (p : Nat) (v : Pv) (w : World) (h : Box w p 94 v.cells) (hl : v.ga.l ≤ 17592186043904) : Calls Try.prog 76 #[.pointer (some ⟨p, 0, none⟩)] w (fun e w' => e = .returned (.int .i64 (needN v.ga.l)) ∧ w' = w) := by
  obtain ⟨c7, c17, c19, c20, c21⟩ := Pv.cel h
  have HE : Hid (needN v.ga.l = (v.ga.l : Int) / 2 + 1) := by show _ = _; unfold needN; omega
  have ht : (v.ga.l : Int).tdiv 2 = (v.ga.l : Int) / 2 := Int.tdiv_eq_ediv_of_nonneg (by omega)
  clear h
  generalize v.ga.l = l at c7 HE ht hl
  go_enter Try.func76, Try.ntmps76
  go_wp2
  go_ret
  refine ⟨ret_int ?_, rfl⟩
  rw [HE.out]

def movP (v : Pv) (n r : Int) : Pv := if okN n && okN r then { v with n := n, rd := r, top := max v.top n } else { v with ph := phWorn }
def MovOut (w : World) (p : Nat) (v : Pv) (n r : Int) (e : Ending) (w' : World) : Prop := e = .returned (.bool (okN n && okN r)) ∧ Box w' p 94 (movP v n r).cells ∧ Kept (Only p) w w'
theorem movP_no {v : Pv} {n r : Int} (h : (okN n && okN r) = false) : movP v n r = { v with ph := phWorn } := by unfold movP; rw [h]; rfl
theorem movP_yes {v : Pv} {n r : Int} (h : (okN n && okN r) = true) : movP v n r = { v with n := n, rd := r, top := max v.top n } := by unfold movP; rw [h]; rfl
theorem Pv.setPh {w : World} {p : Nat} {v : Pv} (h : Box w p 94 v.cells) (x : Value) : Box (w.setCell ⟨p, 21, none⟩ x) p 94 ({ v with ph := x } : Pv).cells := h.set 21 x
theorem Pv.setN {w : World} {p : Nat} {v : Pv} (h : Box w p 94 v.cells) (n : Int) : Box (w.setCell ⟨p, 17, none⟩ (.int .i64 n)) p 94 ({ v with n := n } : Pv).cells := h.set 17 (.int .i64 n)
theorem Pv.setTop {w : World} {p : Nat} {v : Pv} (h : Box w p 94 v.cells) (n : Int) : Box (w.setCell ⟨p, 19, none⟩ (.int .i64 n)) p 94 ({ v with top := n } : Pv).cells := h.set 19 (.int .i64 n)
theorem Pv.setRd {w : World} {p : Nat} {v : Pv} (h : Box w p 94 v.cells) (n : Int) : Box (w.setCell ⟨p, 20, none⟩ (.int .i64 n)) p 94 ({ v with rd := n } : Pv).cells := h.set 20 (.int .i64 n)
set_option maxHeartbeats 1000000 in
theorem moved_any (p : Nat) (v : Pv) (n r : Int) (w : World) (h : Box w p 94 v.cells) : Calls Try.prog 72 #[.pointer (some ⟨p, 0, none⟩), .int .i64 n, .int .i64 r] w (MovOut w p v n r) := by
  obtain ⟨c7, c17, c19, c20, c21⟩ := Pv.cel h
  have f17 := h.frozen 17
  have f19 := h.frozen 19
  have f20 := h.frozen 20
  have f21 := h.frozen 21
  have HB : Hid (Box w p 94 v.cells) := h
  refine hideC fun C HC => ?_
  clear h c7
  generalize v.ph = ph at c21
  generalize hT : v.top = top at c19
  have HT : Hid (v.top = top) := hT
  generalize v.n = n0 at c17
  generalize v.rd = r0 at c20
  clear hT
  cases hn : okN n with
  | false =>
    have HN : Hid (okN n = false) := hn
    clear hn
    go_enter Try.func72, Try.ntmps72
    go_wp2_with (go_at_call 88
                 refine Calls.mono (isNumber_any n w) ?_
                 rintro e w1 ⟨rfl, rfl⟩
                 rw [HN.out])
    rw [HC.out]
    exact ⟨by rw [HN.out]; rfl, by rw [movP_no (by rw [HN.out]; rfl)]; exact Pv.setPh HB.out _, (Kept.refl (Only p) _).setCell (p := ⟨p, 21, none⟩) (fun _ => rfl) _⟩
  | true =>
    cases hr : okN r with
    | false =>
      have HN : Hid (okN n = true) := hn
      have HR : Hid (okN r = false) := hr
      clear hn hr
      go_enter Try.func72, Try.ntmps72
      go_wp2_with (first
        | (go_at_call 88
           have h0 := D1
           refine Calls.mono (isNumber_any r _) ?_
           rintro e w1 ⟨rfl, rfl⟩
           rw [HR.out])
        | (go_at_call 88
           refine Calls.mono (isNumber_any n w) ?_
           rintro e w1 ⟨rfl, rfl⟩
           have D1 : True := trivial
           rw [HN.out]))
      rw [HC.out]
      exact ⟨by rw [HN.out, HR.out]; rfl, by rw [movP_no (by rw [HN.out, HR.out]; rfl)]; exact Pv.setPh HB.out _, (Kept.refl (Only p) _).setCell (p := ⟨p, 21, none⟩) (fun _ => rfl) _⟩
    | true =>
      have HN : Hid (okN n = true) := hn
      have HR : Hid (okN r = true) := hr
      clear hn hr
      go_enter Try.func72, Try.ntmps72
      go_wp2_with (first
        | (go_at_call 88
           have h0 := D1
           refine Calls.mono (isNumber_any r _) ?_
           rintro e w1 ⟨rfl, rfl⟩
           rw [HR.out])
        | (go_at_call 88
           refine Calls.mono (isNumber_any n w) ?_
           rintro e w1 ⟨rfl, rfl⟩
           have D1 : True := trivial
           rw [HN.out]))
      all_goals rw [HC.out]
      all_goals have HB := HB.out
      all_goals have e1 : max v.top n = if top < n then n else top := by rw [HT.out]; split <;> omega
      all_goals refine ⟨by rw [HN.out, HR.out]; rfl, ?_, (((Kept.refl (Only p) _).setCell (p := ⟨p, 17, none⟩) (fun _ => rfl) _).setCell (p := ⟨p, 20, none⟩) (fun _ => rfl) _).setCell (p := ⟨p, 19, none⟩) (fun _ => rfl) _⟩
      all_goals rw [movP_yes (by rw [HN.out, HR.out]; rfl), e1]
      · rw [if_pos (by assumption)]
        exact Pv.setTop (Pv.setRd (Pv.setN HB n) r) n
      · rw [if_neg (by omega)]
        exact Pv.setTop (Pv.setRd (Pv.setN HB n) r) top
end Go.Proofs.Ytpabpeppgpeaoaa
