import Derived.RangeFuncNested
import Derived.RangeFuncBound
import Derived.RangeFuncCalls
import Derived.RangeFuncLeaves
import Derived.RangeFuncBox
import Derived.Shelf.Abstract
import Derived.Sort.QuietTacIn
import Derived.Shelf.RegionOpen
import Derived.OwnWalkIn
import Derived.TacticsInMore
import Derived.LoopNIn
import Derived.LoopIn
import Derived.Sort.CutIn
import Derived.Lib.SliceRun
import Derived.WalkSpells
import Derived.Test.YtcgnbpaaalmkoabM
namespace Go.Proofs.Ytcgnbpaaalmkoab
open Go.RowKit Go.Shelf
set_option linter.unusedVariables false
set_option linter.unusedSimpArgs false

attribute [local go_sem] Oper.semAt_some
/-- Steps of a region inside a fence. -/
structure WI (F : Fence) (n : Nat) (ops : Array Oper) (Q : Exit → Act → World → Prop) (l : List Oper) (a : Act) (w : World) : Prop where
  out : wpListIn F n Try.prog ops Q l a w
section
variable {F : Fence} {n : Nat} {ops : Array Oper} {rest : List Oper} {o : Oper} {a : Act} {w w' : World} {Q : Exit → Act → World → Prop}
theorem WI.nil (h : Q .normal a w) : WI F n ops Q [] a w := ⟨wpListIn_nil h⟩
theorem WI.start {id : Nat} {l : List Oper} (h : WI F n l.toArray Q l a w) : (Code.region id l.toArray false).wpIn F n Try.prog Q a w := wpIn_region_lit h.out
theorem wi_run (v : Value) (w' : World) (hrun : (execOp a.eval o).run Try.prog w = .ok (.value v) w') (hw : Region.wanted o (yielded ops a.tmps) = true) (h : WI F n ops Q rest (a.put o.dst v) w')
    (hd : ∀ c, o.op ≠ .defer c := by intro c h; cases h) (hb : o.about Try.prog w a.eval = none := by kernel_rfl) : WI F n ops Q (o :: rest) a w := by
  refine ⟨wpListIn_step fun K hK => ?_⟩
  rw [if_pos hw]
  refine ⟨fun f e => by rw [hb] at e; (cases e), ?_⟩
  rw [Oper.semAt_eq _ _ _ hd, hrun]
  exact hK _ _ h.out
theorem iW (v : Value) (hrun : (execOp a.eval o).run Try.prog w = .ok (.value v) w) (h : WI F n ops Q rest (a.put o.dst v) w) (hw : Region.wanted o (yielded ops a.tmps) = true := by kernel_rfl)
    (hd : ∀ c, o.op ≠ .defer c := by intro c h; cases h) (hb : o.about Try.prog w a.eval = none := by kernel_rfl) : WI F n ops Q (o :: rest) a w := wi_run v w hrun hw h hd hb
theorem iK (v : Value) (h : WI F n ops Q rest (a.put o.dst v) w) (hrun : (execOp a.eval o).run Try.prog w = .ok (.value v) w := by kernel_rfl) (hw : Region.wanted o (yielded ops a.tmps) = true := by kernel_rfl)
    (hd : ∀ c, o.op ≠ .defer c := by intro c h; cases h) (hb : o.about Try.prog w a.eval = none := by kernel_rfl) : WI F n ops Q (o :: rest) a w := wi_run v w hrun hw h hd hb
theorem iZ (h : WI F n ops Q rest (a.put o.dst undef) w) (hw : Region.wanted o (yielded ops a.tmps) = false := by kernel_rfl) (hb : o.about Try.prog w a.eval = none := by kernel_rfl) : WI F n ops Q (o :: rest) a w := ⟨wpListIn_skip hw hb h.out⟩
theorem wi_store (t : TypeId) (x y : Operand) (ho : o.op = .store t x y) (ad : Addr) (v : Value) (hx : a.eval x = .pointer (some ad)) (hy : a.eval y = v) (w' : World) (hrun : (storeVar t ad v).run Try.prog w = .ok () w') (hw : Region.wanted o (yielded ops a.tmps) = true) (h : WI F n ops Q rest (a.put o.dst undef) w')
    (hb : o.about Try.prog w a.eval = none := by kernel_rfl) : WI F n ops Q (o :: rest) a w := by
  refine ⟨wpListIn_step fun K hK => ?_⟩
  rw [if_pos hw]
  refine ⟨fun f e => by rw [hb] at e; (cases e), ?_⟩
  rw [Oper.semAt_eq _ _ _ (fun c e => by rw [ho] at e; cases e), exec_store t x y ho ad v hx hy hrun]
  exact hK _ _ h.out
end
theorem alloc_set (w : World) (cs cs' : Array Value) (t : TypeId) : (w.alloc (.cells cs t)).setRow w.heap.size cs' = w.alloc (.cells cs' t) := by
  unfold World.setRow World.alloc
  congr 1
  apply Array.ext
  · simp
  · intro k h1 h2
    simp only [Array.getElem_modify, Array.getElem_push]
    simp at h1
    by_cases hk : k < w.heap.size
    · simp [hk, show ¬ w.heap.size = k by omega]
    · have : w.heap.size = k := by omega
      simp [this]
theorem keepsRow {W : World} {g : Nat} {t : TypeId} {cs : Array Value} (h : Box W g t cs) (cs' : Array Value) : KeepsOthers W (W.setRow g cs') :=
  ⟨by simp [World.setRow], fun k o hk hc => by
    rw [setRow_other W g k cs' (fun e => by subst e; unfold Box at h; rw [h] at hk; cases hk; cases hc)]; exact hk⟩
theorem putL_mid (A B C D : List Value) (h : B.length = D.length) : putL (A ++ (B ++ C)) A.length D = A ++ (D ++ C) := by
  unfold putL
  rw [List.take_left' rfl]
  congr 2
  rw [← List.append_assoc]
  exact List.drop_left' (by rw [List.length_append, h])
def cmL (es : List Cm) : List Value := (es.map Cm.cs).flatten
theorem cmL_c (es : List Cm) : ∀ x ∈ es.map Cm.cs, x.length = 9 := by intro x hx; obtain ⟨e, _, rfl⟩ := List.mem_map.1 hx; rfl
theorem cmL_len (es : List Cm) : (cmL es).length = es.length * 9 := by unfold cmL; rw [flat_len 9 _ (cmL_c es), List.length_map]
theorem cmL_app (a b : List Cm) : cmL (a ++ b) = cmL a ++ cmL b := by simp [cmL]
theorem cmL_1 (e : Cm) : cmL [e] = e.cs := by simp [cmL]
theorem cmL_set (es : List Cm) (i : Nat) (e : Cm) (hi : i < es.length) : putL (cmL es) (i * 9) e.cs = cmL (es.set i e) := by
  have h : es = es.take i ++ ([es[i]] ++ es.drop (i + 1)) := by simp
  have h2 : es.set i e = es.take i ++ ([e] ++ es.drop (i + 1)) := by rw [List.set_eq_take_append_cons_drop]; simp [hi]
  have hl : (cmL (es.take i)).length = i * 9 := by rw [cmL_len, List.length_take]; congr 1; omega
  have h3 : cmL es = cmL (es.take i) ++ ((es[i]).cs ++ cmL (es.drop (i + 1))) := by
    conv => lhs; rw [h]
    rw [cmL_app, cmL_app, cmL_1]
  rw [h2, cmL_app, cmL_app, cmL_1, h3]
  rw [← hl]
  exact putL_mid _ _ _ _ rfl
def plL (es : List Pl) : List Value := (es.map Pl.cs).flatten
theorem plL_c (es : List Pl) : ∀ x ∈ es.map Pl.cs, x.length = 15 := by intro x hx; obtain ⟨e, _, rfl⟩ := List.mem_map.1 hx; rfl
theorem plL_len (es : List Pl) : (plL es).length = es.length * 15 := by unfold plL; rw [flat_len 15 _ (plL_c es), List.length_map]
theorem plL_app (a b : List Pl) : plL (a ++ b) = plL a ++ plL b := by simp [plL]
theorem plL_1 (e : Pl) : plL [e] = e.cs := by simp [plL]
theorem plL_set (es : List Pl) (i : Nat) (e : Pl) (hi : i < es.length) : putL (plL es) (i * 15) e.cs = plL (es.set i e) := by
  have h : es = es.take i ++ ([es[i]] ++ es.drop (i + 1)) := by simp
  have h2 : es.set i e = es.take i ++ ([e] ++ es.drop (i + 1)) := by rw [List.set_eq_take_append_cons_drop]; simp [hi]
  have hl : (plL (es.take i)).length = i * 15 := by rw [plL_len, List.length_take]; congr 1; omega
  have h3 : plL es = plL (es.take i) ++ ((es[i]).cs ++ plL (es.drop (i + 1))) := by
    conv => lhs; rw [h]
    rw [plL_app, plL_app, plL_1]
  rw [h2, plL_app, plL_app, plL_1, h3]
  rw [← hl]
  exact putL_mid _ _ _ _ rfl
theorem make_cm (w : World) (n : Nat) (hb : n ≤ 3518437208883) : (Instr.makeSlice 44 (.int .i64 (n : Int)) (.int .i64 (n : Int))).run Try.prog w = .ok (.slice (some ⟨w.heap.size, 0, none⟩) n n) (w.alloc (.cells (cmL (List.replicate n cZ)).toArray 43)) := by
  cases hq : Try.prog.info? 43 with
  | none => have := Try.info47; simp [hq] at this
  | some i =>
    have h1 := Try.info47
    simp only [hq, Option.map_some, Option.some.injEq, Prod.mk.injEq] at h1
    obtain ⟨hz, hs, hby⟩ := h1
    have h := run_make (P := Try.prog) w 44 43 i (.agg cZ.cells) Try.und48 hq hz .i64 .i64 (n : Int) (n : Int) (by omega) (by omega) (by rw [hby]; omega) (by omega)
    rw [h, hs, show cmL (List.replicate n cZ) = ((List.replicate n cZ.cs).flatten) by simp [cmL]]
    simp only [Int.toNat_natCast]
    rw [← made_row 9 cZ.cs rfl (by omega) n]
    rfl
def CloneOut (w : World) (bs : List Int) (e : Ending) (w' : World) : Prop := ∃ s' : Sl, e = .returned s'.v ∧ OwB w' w.heap.size s' bs ∧ Kept No w w'
set_option maxHeartbeats 2000000 in
set_option maxRecDepth 100000 in
theorem clone_some (ad0 : Addr) (n c : Nat) (zs : List Int) (w : World) (hz : zs.length = n) (hn : n ≤ 140737488355328) (hb : RdB w ⟨some ad0, n, c⟩ zs) :
    Calls Try.prog 37 #[.slice (some ad0) n c] w (CloneOut w zs) := by
  obtain ⟨i0, hi, hz0, hz1, hz2⟩ := info_parts Try.info5
  have q25 : ∀ (w : World) (a : Option Addr) (n c n' c' : Nat), (binOp .eql 24 (.slice a n c) (.slice none n' c')).run Try.prog w = .ok (.bool a.isNone) w := fun w a n c n' c' => Lib.run_eql_slice_nil w _ _ a n c n' c' Try.und26
  have HB : Hid (RdB w ⟨some ad0, n, c⟩ zs) := hb
  have HZ : Hid (zs.length = n) := hz
  clear hb hz
  go_enter Try.func37, Try.ntmps37
  go_wp2_with (at_builtin; refine wpList_append_own _ rfl _ _ 24 rfl w.heap.size 5 i0 (.int .u8 0) 1 1 Try.und26 hi hz0 hz1 hz2 rfl (by decide) _ _ _ rfl (World.ownsRow_made w #[] 0 (Nat.le_refl _) (Nat.zero_le _) rfl) ad0 n c (zs.map (Value.int .u8)) rfl ?qc1 ?qc2 ?qc3 ?qc4 ?qc5 ?qc6 ?_)
  case qc1 => simp [HZ.out]
  case qc2 =>
    intro j u hj
    obtain ⟨ad, e, h⟩ := HB.out.src j u hj
    cases e
    exact Lib.cell?_alloc_some _ h
  case qc3 => exact num_one _ _
  case qc4 => unfold maxLen; omega
  case qc5 => omega
  case qc6 => simp
  intro v' w1 hown hgrow hnil
  go_wp2
  go_ret
  have hk : Kept No w w1 := ((Kept.refl No w).alloc _).grown hgrow (by intro k hk h; simp [Value.ownBlock] at hk; omega)
  rcases hown.2 with ⟨e, _⟩ | ⟨g, cap', cur, e, hr⟩
  · exact absurd e (by first | exact hnil | (intro e; exact absurd (hnil.1 e).1 (by simp)))
  · have hown' := hown
    subst e
    refine ⟨⟨some ⟨g, 0, none⟩, n, cap'⟩, by simp [Sl.v], ⟨?_, HZ.out⟩, hk⟩
    unfold Own u8L
    simpa using hown'
set_option maxRecDepth 100000 in
set_option maxHeartbeats 1000000 in
theorem clone_nil (n c : Nat) (w : World) :
    Calls Try.prog 37 #[.slice none n c] w (fun e w' => e = .returned (.slice none 0 0) ∧ w' = w) := by
  have q25 : ∀ (w : World) (a : Option Addr) (n c n' c' : Nat), (binOp .eql 24 (.slice a n c) (.slice none n' c')).run Try.prog w = .ok (.bool a.isNone) w := fun w a n c n' c' => Lib.run_eql_slice_nil w _ _ a n c n' c' Try.und26
  go_enter Try.func37, Try.ntmps37
  go_wp2
  go_ret
  exact ⟨rfl, rfl⟩
theorem clone_any (s : Sl) (bs : List Int) (w : World) (h : RdB w s bs) (hn : s.l ≤ 140737488355328) : Calls Try.prog 37 #[s.v] w (CloneOut w bs) := by
  obtain ⟨a, l, c⟩ := s
  cases a with
  | none =>
    have hbs : bs = [] := by
      cases bs with
      | nil => rfl
      | cons z r => obtain ⟨b, o, e, _⟩ := h.row 0 (by simp); cases e
    subst hbs
    refine (clone_nil l c w).mono ?_
    rintro e w' ⟨rfl, rfl⟩
    exact ⟨slZ, rfl, OwB.nil _ _, Kept.refl _ _⟩
  | some ad => exact clone_some ad l c bs w h.len hn h

end Go.Proofs.Ytcgnbpaaalmkoab
