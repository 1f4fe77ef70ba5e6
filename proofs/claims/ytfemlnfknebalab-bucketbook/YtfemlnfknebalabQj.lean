import Derived.Test.YtfemlnfknebalabQc
import Derived.Test.YtfemlnfknebalabQh
namespace Go.Proofs.Ytfemlnfknebalab
open Go.RowKit
set_option linter.unusedVariables false
set_option linter.unusedSimpArgs false


theorem exec_sliceN {o : Oper} {a : Act} {w : World} (n : Nat) (t e : TypeId) (parts : Array (Nat × Operand)) (ho : o.op = .buildSlice t n parts) (cells : Array Value) (vs : Array (Nat × Value)) (hp : (parts.map fun (i, x) => (i, a.eval x)) = vs)
    (hrun : (Instr.buildSlice t n vs).run Try.prog w = .ok (.slice (some ⟨w.heap.size, 0, none⟩) n n) (w.alloc (.cells cells e))) : (execOp a.eval o).run Try.prog w = .ok (.value (.slice (some ⟨w.heap.size, 0, none⟩) n n)) (w.alloc (.cells cells e)) := by
  simp only [execOp, ho, hp, Sem.run_bind, hrun, Result.andThen_ok, Sem.run_pure]
namespace Gx
section
variable {α : Type} {D : Kn α}
/-- A row of lists, whatever they hold. -/
def ErX (D : Kn α) (w : World) (lo : Nat) (K : List Sl) : Prop := ∃ Z, Erow D w lo K Z
theorem ErX.kept {S : Nat → Prop} {w w' : World} {lo : Nat} {K : List Sl} (h : ErX D w lo K) (hk : Kept S w w') (hS : ∀ k, EB K k → ¬ S k) : ErX D w' lo K := by
  obtain ⟨Z, h⟩ := h
  exact ⟨Z, h.kept hk hS⟩
theorem ErX.no {w w' : World} {lo : Nat} {K : List Sl} (h : ErX D w lo K) (hk : Kept No w w') : ErX D w' lo K := h.kept hk (fun _ _ e => e)
theorem ErX.nil (w : World) (lo : Nat) : ErX D w lo [] := ⟨fun _ => [], Erow.nil _ _ _⟩
theorem ErX.at {w : World} {lo : Nat} {K : List Sl} (h : ErX D w lo K) {k : Nat} (hk : EB K k) : lo ≤ k ∧ k < w.heap.size ∧ ∃ cur, Box w k D.E cur := by
  obtain ⟨Z, h⟩ := h
  exact h.lo hk
theorem ErX.off {w w' : World} {lo base c cap n : Nat} {T : TypeId} {a : Option Addr} {vs : List Value} {K : List Sl} (h : ErX D w lo K) (hO : Own T c w base a cap n vs) (hne : D.E ≠ T) (hk : Kept (At a) w w') : ErX D w' lo K := h.kept hk (fun k hk' ha => by
  obtain ⟨_, _, cur, hb⟩ := h.at hk'
  exact hO.notBox hb (Ne.symm hne) ha)
theorem ErX.not {w : World} {lo base c cap n : Nat} {T : TypeId} {a : Option Addr} {vs : List Value} {K : List Sl} (h : ErX D w lo K) (hO : Own T c w base a cap n vs) (hne : D.E ≠ T) : ∀ k, At a k → ¬ EB K k := fun k ha hk => by
  obtain ⟨_, _, cur, hb⟩ := h.at hk
  exact hO.notBox hb (Ne.symm hne) ha
theorem EB.app {K N : List Sl} {k : Nat} (h : EB (K ++ N) k) : EB K k ∨ EB N k := by
  obtain ⟨e, he, ha⟩ := h
  rcases List.mem_append.1 he with he | he
  · exact .inl ⟨e, he, ha⟩
  · exact .inr ⟨e, he, ha⟩
/-- What a new list must be. -/
def Nw (D : Kn α) (w : World) (lo : Nat) (s : Sl) : Prop := ∃ zs, zs.length = s.l ∧ OwG D w lo s.a s.k zs ∧ s.l ≤ 1000000
theorem ErX.addl : ∀ (N : List Sl) {w : World} {lo : Nat} {K : List Sl}, ErX D w lo K → (∀ s ∈ N, Nw D w lo s) → N.Pairwise (fun s t => ∀ k, At s.a k → ¬ At t.a k) → (∀ s ∈ N, ∀ k, At s.a k → ¬ EB K k) → ErX D w lo (K ++ N)
  | [], w, lo, K, h, _, _, _ => by rw [List.append_nil]; exact h
  | s :: N, w, lo, K, h, h1, h2, h3 => by
    obtain ⟨Z, h⟩ := h
    obtain ⟨zs, e1, e2, e3⟩ := h1 s List.mem_cons_self
    have h4 := h.add (e := s) e1 e2 e3 (h3 s List.mem_cons_self)
    have h5 : ErX D w lo (K ++ [s] ++ N) := ErX.addl N ⟨_, h4⟩ (fun t ht => h1 t (List.mem_cons_of_mem _ ht)) (List.pairwise_cons.1 h2).2 (fun t ht k hk hb => by
      rcases EB.app hb with hb | ⟨u, hu, hu2⟩
      · exact h3 t (List.mem_cons_of_mem _ ht) k hk hb
      · rw [List.mem_singleton.1 hu] at hu2
        exact (List.pairwise_cons.1 h2).1 t ht k hu2 hk)
    rw [List.append_assoc] at h5
    exact h5
/-- Some lists are appended to the row. -/
theorem grow_row (OT : TypeId) (ht : Try.prog.underlying OT = some (.slice D.R)) (hinf : (Try.prog.info? D.R).map (fun i => (i.zero, i.size, i.bytes)) = some (some (.slice none 0 0), 1, 24)) {base lo c : Nat} {wr : World} {a : Option Addr} {K : List Sl} (n m : Nat) (hr : Rw D wr base a c K) (hE : ErX D wr lo K) (hn : K.length = n) (N : List Sl) (hm : N.length = m)
    (h1 : ∀ s ∈ N, Nw D wr lo s) (h2 : N.Pairwise (fun s t => ∀ k, At s.a k → ¬ At t.a k)) (h3 : ∀ s ∈ N, ∀ k, At s.a k → ¬ EB K k) (hb : base ≤ wr.heap.size) (hle : n ≤ 100000) (hm2 : m ≤ 1000) :
    ∃ a4 c4 w4, (Builtin.append_ #[OT, OT] OT #[.slice a n c, .slice (some ⟨wr.heap.size, 0, none⟩) m m]).run Try.prog (wr.alloc (.cells (N.map Sl.v).toArray D.R)) = .ok (.slice a4 (n + m) c4) w4 ∧ Rw D w4 base a4 c4 (K ++ N) ∧ ErX D w4 lo (K ++ N) ∧ Kept (At a) wr w4 := by
  subst hn hm
  have hk1 : Kept No wr (wr.alloc (.cells (N.map Sl.v).toArray D.R)) := (Kept.refl No _).alloc _
  have hx := Box.new wr D.R (N.map Sl.v).toArray
  have hr1 := hr.no hk1
  obtain ⟨a4, c4, w4, hrun, ho, hk, _⟩ := run_appN (w := wr.alloc (.cells (N.map Sl.v).toArray D.R)) OT OT D.R 1 24 (.slice none 0 0) ht hinf rfl (by decide) base K.length c a (K.map Sl.v) hr1 (some ⟨wr.heap.size, 0, none⟩) N.length N.length (N.map Sl.v) (by simp) (fun e => by cases e) (fun j u hj => ⟨_, rfl, by rw [addr_add, Nat.zero_add, hx.cell, List.getElem?_toArray]; exact hj⟩) (fun u hu => by obtain ⟨s, _, rfl⟩ := List.mem_map.1 hu; rfl) (by omega) (by omega) (Nat.le_trans hb hk1.size)
  refine ⟨a4, c4, w4, hrun, ?_, ((hE.addl N h1 h2 h3).no hk1).off hr1 D.ne hk, hk1.of_no.then hk⟩
  unfold Rw
  rw [List.length_append, List.map_append]
  exact ho
end
theorem Nw.e {w : World} {b lo : Nat} {s : Sl} {es : List En} (h : OwE w b s es) (hb : lo ≤ b) (hn : es.length ≤ 1000) : Nw DE w lo s := by
  have hl : es.length = s.l := h.len
  refine ⟨es, hl, ?_, by omega⟩
  have := h.own.lower hb
  unfold OwG
  rw [hl]
  exact this
theorem Nw.l {w : World} {b lo : Nat} {s : Sl} {es : List La} (h : OwL w b s es) (hb : lo ≤ b) (hn : es.length ≤ 1000) : Nw DL w lo s := by
  have hl : es.length = s.l := h.len
  refine ⟨es, hl, ?_, by omega⟩
  have := h.own.lower hb
  unfold OwG
  rw [hl]
  exact this
theorem Nw.a {w : World} {b lo : Nat} {s : Sl} {vs : List Av} {az : List An} (h : Ans w b s vs az) (hb : lo ≤ b) (hn : s.l ≤ 1000) : Nw DA w lo s := by
  have hl : vs.length = s.l := h.lv
  refine ⟨vs, hl, ?_, by omega⟩
  have := h.own.lower hb
  unfold OwG
  rw [hl]
  exact this
end Gx
def mkC : Cm := ⟨1, 3, 9, ⟨#[111, 119, 110]⟩, 0, 0, 0, 0, 0⟩
def liC : Cm := ⟨4, 3, 9, ⟨#[]⟩, 0, 0, 0, 0, 0⟩
theorem ref_make (up : Int) (h : up < 1048576) : refS up mkC = 0 := by
  unfold refS
  rw [show badC mkC = false from rfl, decide_eq_false (by omega)]
  rfl
theorem ref_li (up : Int) (h : up < 1048576) : refS up liC = 0 := ref_list up h
theorem st_up (b : Bk) (c : Cm) (room : Int) : (stepS b c room).1.up = b.up + 1 := rfl
theorem err_c (room : Int) (b : Bk) (c : Cm) (t : List Cm) (h : refS b.up c = 0) : errR room b (c :: t) = errR room (stepS b c room).1 t := by
  show (if refS b.up c = 0 then _ else _) = _
  rw [if_pos h]
/-- What the row of four tells. -/
theorem four (up : Int) (es : List En) (ls : List La) (room : Int) (h : up < 1048000) :
    errR room ⟨up, es, ls⟩ [liC, mkC, liC, liC] = 0 ∧ resB room ⟨up, es, ls⟩ [liC, mkC, liC, liC] = ⟨up + 1 + 1 + 1 + 1, (actS es mkC room).1, (stepS ⟨up + 1, es, ls⟩ mkC room).1.ls⟩ ∧ ∃ a1, resA room ⟨up, es, ls⟩ [liC, mkC, liC, liC] = [⟨0, enZ, es⟩, a1, ⟨0, enZ, (actS es mkC room).1⟩, ⟨0, enZ, (actS es mkC room).1⟩] := by
  have e0 : errR room ⟨up, es, ls⟩ [liC, mkC, liC, liC] = 0 := by
    rw [err_c _ _ _ _ (ref_li up (by omega)), err_c _ _ _ _ (ref_make (up + 1) (by omega)), err_c _ _ _ _ (ref_li (up + 1 + 1) (by omega)), err_c _ _ _ _ (ref_li (up + 1 + 1 + 1) (by omega))]
    rfl
  refine ⟨e0, ?_, (stepS ⟨up + 1, es, ls⟩ mkC room).2, ?_⟩
  · unfold resB
    rw [if_pos e0]
    rfl
  · unfold resA
    rw [if_pos e0]
    rfl
theorem none4 (up : Int) (es : List En) (ls : List La) (room : Int) : errR room ⟨up, es, ls⟩ [] = 0 ∧ resB room ⟨up, es, ls⟩ [] = ⟨up, es, ls⟩ ∧ resA room ⟨up, es, ls⟩ [] = [] := ⟨rfl, rfl, rfl⟩

end Go.Proofs.Ytfemlnfknebalab
