import Derived.Test.YtpapbleabjpbfabGe
namespace Go.Proofs.Ytpapbleabjpbfab
open Go.RowKit Gx
set_option linter.unusedVariables false
set_option linter.unusedSimpArgs false

namespace Gx
/-- A row of lists grown keeps what lay below. -/
theorem kept_row {wz v w' : World} {lo : Nat} {a a' : Option Addr} {c c' : Nat} {K : List Ent} (hz : Kept No wz v) (hlo : wz.heap.size ≤ lo) (hr : Rw v lo a c K) (hc : (a' = a ∧ c' = c ∧ Kept (At a) v w') ∨ ((∀ k, At a' k → v.heap.size ≤ k) ∧ Kept No v w')) : Kept No wz w' := by
  rcases hc with ⟨_, _, hk⟩ | ⟨_, hk⟩
  · exact hz.trans hk (fun _ e => e) (fun i hi e => by have := hr.bs e; omega)
  · exact hz.then hk
/-- .. and lists of numbers. -/
theorem own_row {v w' : World} {lo lo' : Nat} {a a' : Option Addr} {c c' : Nat} {K : List Ent} {x : Option Addr} {xc : Nat} {zs : List Int} (ho : OwI v lo' x xc zs) (hr : Rw v lo a c K) (hc : (a' = a ∧ c' = c ∧ Kept (At a) v w') ∨ ((∀ k, At a' k → v.heap.size ≤ k) ∧ Kept No v w')) : OwI w' lo' x xc zs := by
  rcases hc with ⟨_, _, hk⟩ | ⟨_, hk⟩
  · refine ho.kept hk (fun k e f => ?_)
    obtain ⟨c1, h1⟩ := ho.typ e
    obtain ⟨c2, h2⟩ := hr.typ f
    exact typ_ne h1 h2 (by decide)
  · exact ho.no hk
section
variable {W V W' : World} {lo : Nat} {la : Option Addr} {lc : Nat} {K : List Ent} {Z : Nat → List Int} {ga : Option Addr} {gc : Nat} {G : List Ent} {Y : Nat → List Int}
/-- One list more in the second row. -/
theorem Tw.one (h : Tw V lo la lc K Z ga gc G Y) {e3 : Ent} {lx : List Int} {B : Nat} (hl : lx.length = e3.l) (hb : e3.l ≤ 1000000) (ho : OwI V B e3.a e3.c lx) (hlo : lo ≤ B) (hG : ∀ k, EB G k → k < B) (hK : ∀ k, EB K k → k < B) {ga' : Option Addr} {gc' : Nat}
    (hr : Own 22 1 W' lo ga' gc' (G.length + 1) (G.map entV ++ [entV e3])) (hc : (ga' = ga ∧ gc' = gc ∧ Kept (At ga) V W') ∨ ((∀ k, At ga' k → V.heap.size ≤ k) ∧ Kept No V W')) : Tw W' lo la lc K Z ga' gc' (G ++ [e3]) (fun i => if i = G.length then lx else Y i) :=
  (h.swap.app (E := [e3]) (h.eg.fresh (W := V) hl ho hb hlo hG) (fun k e f => by
    obtain ⟨e', he, ha⟩ := e
    rw [List.mem_singleton.1 he] at ha
    have := Own.base ho ha
    have := hK k f
    omega) hr hc).swap
/-- Two lists more in the first row. -/
theorem Tw.two (h : Tw V lo la lc K Z ga gc G Y) {e1 e2 : Ent} {l1 l2 : List Int} {B1 B2 B3 : Nat} (hl1 : l1.length = e1.l) (hl2 : l2.length = e2.l) (hb1 : e1.l ≤ 1000000) (hb2 : e2.l ≤ 1000000) (o1 : OwI V B1 e1.a e1.c l1) (o2 : OwI V B2 e2.a e2.c l2) (hlo : lo ≤ B1) (h12 : B1 ≤ B2) (hK : ∀ k, EB K k → k < B1) (h1 : ∀ k, At e1.a k → k < B2) (h2 : ∀ k, At e2.a k → k < B3) (h23 : B2 ≤ B3) (hG : ∀ k, EB G k → k < B1 ∨ B3 ≤ k) {la' : Option Addr} {lc' : Nat}
    (hr : Own 22 1 W' lo la' lc' (K.length + 2) (K.map entV ++ [entV e1, entV e2])) (hc : (la' = la ∧ lc' = lc ∧ Kept (At la) V W') ∨ ((∀ k, At la' k → V.heap.size ≤ k) ∧ Kept No V W')) : ∃ Z', Tw W' lo la' lc' (K ++ [e1, e2]) Z' ga gc G Y := by
  have hE1 := h.el.fresh (W := V) hl1 o1 hb1 hlo hK
  have hE2 := hE1.fresh (W := V) hl2 o2 hb2 (Nat.le_trans hlo h12) (fun k e => by
    rcases EB_app e with e | ⟨e', he, ha⟩
    · have := hK k e; omega
    · rw [List.mem_singleton.1 he] at ha; exact h1 k ha)
  rw [List.append_assoc] at hE2
  refine ⟨_, h.app (E := [e1, e2]) hE2 (fun k e f => ?_) hr hc⟩
  obtain ⟨e', he, ha⟩ := e
  rcases List.mem_cons.1 he with rfl | he
  · have q1 := Own.base o1 ha
    have q2 := h1 k ha
    rcases hG k f with q | q <;> omega
  · rw [List.mem_singleton.1 he] at ha
    have q1 := Own.base o2 ha
    have q2 := h2 k ha
    rcases hG k f with q | q <;> omega
end
/-- What the loop over the keys holds. -/
structure Lp (wz : World) (ps : List (Int × Int)) (wn : Nat) (bu : Int) (ks : List Ky) (k : Nat) (la : Option Addr) (lc : Nat) (K : List Ent) (Z : Nat → List Int) (ga : Option Addr) (gc : Nat) (G : List Ent) (Y : Nat → List Int) (W : World) : Prop where
  kept : Kept No wz W
  tw : Tw W wz.heap.size la lc K Z ga gc G Y
  kl : K.length = 2 * k
  gn : G.length = k
  gy : ∀ (q : Nat) (x : Ky), q < k → ks[q]? = some x → Y q = grpL ps wn bu x
end Gx

end Go.Proofs.Ytpapbleabjpbfab
