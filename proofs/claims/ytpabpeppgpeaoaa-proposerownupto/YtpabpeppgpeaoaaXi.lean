import Derived.Test.YtpabpeppgpeaoaaXh
namespace Go.Proofs.Ytpabpeppgpeaoaa.Md
open Go.RowKit Gt Gx
set_option linter.unusedVariables false
set_option linter.unusedSimpArgs false

theorem owE_dn {w : World} {base : Nat} {s : Ytpabpeppgpeaoaa.Sl} {es : List En} (h : Ytpabpeppgpeaoaa.OwE w base s (es.map dE)) : OwE w base (dL' s) es :=
  ⟨by
    have h1 := h.own
    have e : Ytpabpeppgpeaoaa.enL (es.map dE) = enL es := by unfold Ytpabpeppgpeaoaa.enL enL; rw [List.map_map]; rfl
    rw [e] at h1
    exact h1, by have := h.len; rw [List.length_map] at this; exact this⟩
theorem owL_dn {w : World} {base : Nat} {s : Ytpabpeppgpeaoaa.Sl} {es : List La} (h : Ytpabpeppgpeaoaa.OwL w base s (es.map dL)) : OwL w base (dL' s) es :=
  ⟨by
    have h1 := h.own
    have e : Ytpabpeppgpeaoaa.laL (es.map dL) = laL es := by unfold Ytpabpeppgpeaoaa.laL laL; rw [List.map_map]; rfl
    rw [e] at h1
    exact h1, by have := h.len; rw [List.length_map] at this; exact this⟩
theorem wtrimP {zs : List Int} {b : Bv} {es : List En} {ls : List La} {w : World} {I : Nat → Prop} {p : Nat} (h : Prp w I p (w2S zs b es ls)) : Calls Try.prog 30 #[.pointer (some ⟨p, 0, none⟩)] w (fun e w' => ∃ se sl : Sl, e = .returned (.tuple #[.agg (Bv.cells ⟨b.up, se, sl⟩), .bool true]) ∧ OwE w' w.heap.size se es ∧ OwL w' w.heap.size sl ls ∧ Kept No w w') := by
  refine (trimmed_P h).mono ?_
  rintro e w' ⟨se, sl, he, h1, h2, h3⟩
  exact ⟨dL' se, dL' sl, he, owE_dn h1, owL_dn h2, h3⟩
theorem sameK2 (u : Int) (s1 s2 t1 t2 : Sl) (es : List En) (ls : List La) (w : World) (h1 : RdE w s1 es) (h2 : RdE w s2 es) (h3 : RdL w t1 ls) (h4 : RdL w t2 ls) (hn : s1.l ≤ 4000000000000) (hm : t1.l ≤ 4000000000000) : Calls Try.prog 31 #[.agg (Bv.cells ⟨u, s1, t1⟩), .agg (Bv.cells ⟨u, s2, t2⟩)] w (fun e w' => e = .returned (.bool true) ∧ Kept No w w') := by
  obtain ⟨a1, n1, k1⟩ := s1
  obtain ⟨a2, n2, k2⟩ := s2
  obtain ⟨a3, n3, k3⟩ := t1
  obtain ⟨a4, n4, k4⟩ := t2
  have e1 : es.length = n1 := h1.len
  have e2 : es.length = n2 := h2.len
  have e3 : ls.length = n3 := h3.len
  have e4 : ls.length = n4 := h4.len
  subst e1 e3
  subst e2 e4
  exact sameK_any u a1 a2 a3 a4 _ _ k1 k2 k3 k4 es ls w h1 h2 h3 h4 hn hm
theorem slice2_b (u1 u2 : Int) (e1 l1 e2 l2 : Sl) (w : World) : (Instr.buildSlice 85 2 #[(0, .agg (Bv.cells ⟨u1, e1, l1⟩)), (1, .agg (Bv.cells ⟨u2, e2, l2⟩))]).run Try.prog w = .ok (.slice (some ⟨w.heap.size, 0, none⟩) 2 2) (w.alloc (.cells #[.int .i64 u1, e1.v, l1.v, .int .i64 u2, e2.v, l2.v] 44)) := by kernel_rfl
theorem exec_slice2b {o : Oper} {a : Act} {w : World} (parts : Array (Nat × Operand)) (ho : o.op = .buildSlice 85 2 parts) (u1 u2 : Int) (e1 l1 e2 l2 : Sl) (hp : (parts.map fun (i, x) => (i, a.eval x)) = #[(0, .agg (Bv.cells ⟨u1, e1, l1⟩)), (1, .agg (Bv.cells ⟨u2, e2, l2⟩))]) : (execOp a.eval o).run Try.prog w = .ok (.value (.slice (some ⟨w.heap.size, 0, none⟩) 2 2)) (w.alloc (.cells #[.int .i64 u1, e1.v, l1.v, .int .i64 u2, e2.v, l2.v] 44)) := by
  simp only [execOp, ho, hp, Sem.run_bind, slice2_b, Result.andThen_ok, Sem.run_pure]
namespace Gx
theorem Pm.all {α : Type} {D : Kn α} {wr : World} {lo : Nat} {K : List Sl} {i q : Nat} (h : Pm D wr lo K i 0) {e : Sl} (he : K[q]? = some e) (hq : q < i) : OwG D wr lo e.a e.k (marksOf D q e.l) := by
  obtain ⟨Z, h1, h2, _⟩ := h
  have h3 := h1.ok q e he
  have h4 := h2 q hq
  rw [h3.1] at h4
  rw [← h4]
  exact h3.2.1
end Gx
theorem bb2 {W : World} {rb : Nat} {u1 u2 : Int} {e1 l1 e2 l2 : Sl} (h : Box W rb 44 #[.int .i64 u1, e1.v, l1.v, .int .i64 u2, e2.v, l2.v]) : Bb W W rb [⟨u1, e1, l1⟩, ⟨u2, e2, l2⟩] :=
  ⟨Kept.refl _ _, fun q b hq => by
    match q, hq with
    | 0, hq => cases hq; exact ⟨by rw [h.cell]; rfl, by rw [h.cell]; rfl⟩
    | 1, hq => cases hq; exact ⟨by rw [h.cell]; rfl, by rw [h.cell]; rfl⟩
    | q + 2, hq => simp at hq, _, h⟩
theorem er2E {W : World} {lo : Nat} {e1 e2 : Sl} {es : List En} (h1 : OwE W lo e1 es) (h2 : OwE W lo e2 es) (hd : ∀ k, At e1.a k → ¬ At e2.a k) (hn : es.length ≤ 2000000) : Erow DE W lo [e1, e2] (fun _ => es) := by
  refine ⟨fun i e he => ?_, fun i j e f g he hf hg hg' => ?_⟩
  · match i, he with
    | 0, he => cases he; exact ⟨h1.len, by show Own 124 4 W lo e1.a e1.k es.length (DE.L es); rw [h1.len]; exact h1.own, by rw [← h1.len]; exact hn⟩
    | 1, he => cases he; exact ⟨h2.len, by show Own 124 4 W lo e2.a e2.k es.length (DE.L es); rw [h2.len]; exact h2.own, by rw [← h2.len]; exact hn⟩
    | i + 2, he => simp at he
  · match i, j, he, hf with
    | 0, 0, _, _ => rfl
    | 1, 1, _, _ => rfl
    | 0, 1, he, hf => cases he; cases hf; exact absurd hg' (hd g hg)
    | 1, 0, he, hf => cases he; cases hf; exact absurd hg (hd g hg')
    | i + 2, _, he, _ => simp at he
    | 0, j + 2, _, hf => simp at hf
    | 1, j + 2, _, hf => simp at hf
theorem er2L {W : World} {lo : Nat} {e1 e2 : Sl} {es : List La} (h1 : OwL W lo e1 es) (h2 : OwL W lo e2 es) (hd : ∀ k, At e1.a k → ¬ At e2.a k) (hn : es.length ≤ 2000000) : Erow DL W lo [e1, e2] (fun _ => es) := by
  refine ⟨fun i e he => ?_, fun i j e f g he hf hg hg' => ?_⟩
  · match i, he with
    | 0, he => cases he; exact ⟨h1.len, by show Own 127 7 W lo e1.a e1.k es.length (DL.L es); rw [h1.len]; exact h1.own, by rw [← h1.len]; exact hn⟩
    | 1, he => cases he; exact ⟨h2.len, by show Own 127 7 W lo e2.a e2.k es.length (DL.L es); rw [h2.len]; exact h2.own, by rw [← h2.len]; exact hn⟩
    | i + 2, he => simp at he
  · match i, j, he, hf with
    | 0, 0, _, _ => rfl
    | 1, 1, _, _ => rfl
    | 0, 1, he, hf => cases he; cases hf; exact absurd hg' (hd g hg)
    | 1, 0, he, hf => cases he; cases hf; exact absurd hg (hd g hg')
    | i + 2, _, he, _ => simp at he
    | 0, j + 2, _, hf => simp at hf
    | 1, j + 2, _, hf => simp at hf
def Sz (a : Nat) (W : World) : Prop := a ≤ W.heap.size
theorem Sz.no {S : Nat → Prop} {a : Nat} {W W' : World} (h : Sz a W) (hk : Kept S W W') : Sz a W' := Nat.le_trans h hk.size
theorem OwE.low {w : World} {b b' : Nat} {s : Sl} {es : List En} (h : OwE w b s es) (hb : b' ≤ b) : OwE w b' s es := ⟨Own.lower h.own hb, h.len⟩
theorem OwL.low {w : World} {b b' : Nat} {s : Sl} {es : List La} (h : OwL w b s es) (hb : b' ≤ b) : OwL w b' s es := ⟨Own.lower h.own hb, h.len⟩

end Go.Proofs.Ytpabpeppgpeaoaa.Md
