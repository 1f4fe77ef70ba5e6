import Derived.Test.YtfemlnfknebalabQj
namespace Go.Proofs.Ytfemlnfknebalab
open Go.RowKit
set_option linter.unusedVariables false
set_option linter.unusedSimpArgs false


/-- A row of answers of one's own. -/
structure OwA (w : World) (base : Nat) (s : Sl) (vs : List Av) : Prop where
  own : Own 36 6 w base s.a s.k s.l (avL vs)
theorem OwA.kept {S : Nat → Prop} {w w' : World} {base : Nat} {s : Sl} {vs : List Av} (h : OwA w base s vs) (hk : Kept S w w') (hS : ∀ k, At s.a k → ¬ S k) : OwA w' base s vs := ⟨h.own.kept hk hS⟩
theorem OwA.no {w w' : World} {base : Nat} {s : Sl} {vs : List Av} (h : OwA w base s vs) (hk : Kept No w w') : OwA w' base s vs := ⟨h.own.no hk⟩
theorem OwA.cell {w : World} {base sb n k : Nat} {vs : List Av} (h : OwA w base ⟨some ⟨sb, 0, none⟩, n, k⟩ vs) {i : Nat} {v : Av} (hv : vs[i]? = some v) : w.cell? ⟨sb, 0 + i * 6 + 5, none⟩ = some v.l.v := by
  obtain ⟨b, off, e, hc⟩ := Own.rows h.own (avL_c vs) (by omega) i v.cs (by rw [List.getElem?_map, hv]; rfl)
  cases e
  exact hc 5 _ rfl
theorem AnsW.four {w : World} {base : Nat} {s : Sl} {vs : List Av} {a0 a1 a2 a3 : An} (h : AnsW w base s vs [a0, a1, a2, a3]) : ∃ v0 v1 v2 v3, vs = [v0, v1, v2, v3] ∧ 4 = s.l ∧ (∃ sb, s.a = some ⟨sb, 0, none⟩) ∧ OwE w base v0.l a0.l ∧ OwE w base v2.l a2.l ∧ OwE w base v3.l a3.l ∧ (∀ k, At v0.l.a k → ¬ At v2.l.a k) ∧ (∀ k, At v0.l.a k → ¬ At v3.l.a k) ∧ (∀ k, At v2.l.a k → ¬ At v3.l.a k) := by
  have h4 : 4 = s.l := h.la
  have hl : vs.length = s.l := h.lv
  match vs, hl, h with
  | [], hl, _ => simp at hl; omega
  | [_], hl, _ => simp at hl; omega
  | [_, _], hl, _ => simp at hl; omega
  | [_, _, _], hl, _ => simp at hl; omega
  | _ :: _ :: _ :: _ :: _ :: _, hl, _ => simp at hl; omega
  | [v0, v1, v2, v3], hl, h =>
    obtain ⟨b0, e0, o0⟩ := h.ow 0 v0 rfl
    obtain ⟨b2, e2, o2⟩ := h.ow 2 v2 rfl
    obtain ⟨b3, e3, o3⟩ := h.ow 3 v3 rfl
    cases e0
    cases e2
    cases e3
    refine ⟨v0, v1, v2, v3, rfl, h4, Own.some h.own (by omega), o0, o2, o3, fun k e f => ?_, fun k e f => ?_, fun k e f => ?_⟩
    · have := h.dis 0 2 v0 v2 k rfl rfl e f; omega
    · have := h.dis 0 3 v0 v3 k rfl rfl e f; omega
    · have := h.dis 2 3 v2 v3 k rfl rfl e f; omega
def cmR (l : List Cm) : List Value := (l.map Cm.cs).flatten
theorem cs_box {w : World} {g : Nat} {xs : List Cm} (h : Box w g 31 (cmR xs).toArray) : Cs w (some ⟨g, 0, none⟩) xs := by
  intro i it hi
  refine ⟨g, 0, rfl, fun j v hv => ?_⟩
  rw [h.cell, List.getElem?_toArray, Nat.zero_add]
  exact flat_get 9 (xs.map Cm.cs) (fun x hx => by obtain ⟨c, _, rfl⟩ := List.mem_map.1 hx; rfl) i it hi j v hv
theorem replay4 (bu : Int) (bes : List En) (bls : List La) (room : Int) (hfi : Fine 40 ⟨bu, bes, bls⟩) (hu : bu ≤ 40) : ∃ a1 E2 L2 u2, E2.length ≤ 41 ∧ L2.length ≤ 41 ∧ ∀ (ba : Option Addr) (bn bc : Nat) (la : Option Addr) (ln lc g : Nat) (W : World), RdE W ⟨ba, bn, bc⟩ bes → RdL W ⟨la, ln, lc⟩ bls → Box W g 31 (cmR [⟨4, 3, 9, ⟨#[]⟩, 0, 0, 0, 0, 0⟩, ⟨1, 3, 9, ⟨#[111, 119, 110]⟩, 0, 0, 0, 0, 0⟩, ⟨4, 3, 9, ⟨#[]⟩, 0, 0, 0, 0, 0⟩, ⟨4, 3, 9, ⟨#[]⟩, 0, 0, 0, 0, 0⟩]).toArray →
    Calls Try.prog 10 #[.agg (Bv.cells ⟨bu, ⟨ba, bn, bc⟩, ⟨la, ln, lc⟩⟩), .int .i64 room, .slice (some ⟨g, 0, none⟩) 4 4] W (RepOw W 0 ⟨u2, E2, L2⟩ [⟨0, enZ, bes⟩, a1, ⟨0, enZ, E2⟩, ⟨0, enZ, E2⟩]) := by
  obtain ⟨h1, h2, a1, h3⟩ := four bu bes bls room (by omega)
  have hf : Fine 41 (stepS ⟨bu + 1, bes, bls⟩ mkC room).1 := Fine.step (k := 40) (b := ⟨bu + 1, bes, bls⟩) ⟨by show 0 ≤ bu + 1; have := hfi.up; have h0 : 0 ≤ bu := this; omega, hfi.re, hfi.rl, hfi.ne, hfi.nl⟩ mkC room
  refine ⟨a1, (actS bes mkC room).1, (stepS ⟨bu + 1, bes, bls⟩ mkC room).1.ls, bu + 1 + 1 + 1 + 1, hf.ne, hf.nl, fun ba bn bc la ln lc g W he hl hb => ?_⟩
  have := replay_own bu ba bn bc la ln lc room (some ⟨g, 0, none⟩) 4 4 bes bls [liC, mkC, liC, liC] 40 W he hl hfi (by omega) rfl (by omega) (cs_box hb)
  rw [h1, h2, h3] at this
  exact this
theorem replay0 (bu : Int) (ba : Option Addr) (bn bc : Nat) (la : Option Addr) (ln lc : Nat) (bes : List En) (bls : List La) (room : Int) (W : World) (hfi : Fine 40 ⟨bu, bes, bls⟩) (he : RdE W ⟨ba, bn, bc⟩ bes) (hl : RdL W ⟨la, ln, lc⟩ bls) :
    Calls Try.prog 10 #[.agg (Bv.cells ⟨bu, ⟨ba, bn, bc⟩, ⟨la, ln, lc⟩⟩), .int .i64 room, .slice none 0 0] W (RepOw W 0 ⟨bu, bes, bls⟩ []) := by
  have := replay_own bu ba bn bc la ln lc room none 0 0 bes bls [] 40 W he hl hfi (by omega) rfl (by omega) (fun i it h => by simp at h)
  rw [(none4 bu bes bls room).1, (none4 bu bes bls room).2.1, (none4 bu bes bls room).2.2] at this
  exact this
theorem Gx.Nw.o {w : World} {b lo : Nat} {s : Sl} {vs : List Av} (h : OwA w b s vs) (hl : vs.length = s.l) (hb : lo ≤ b) (hn : s.l ≤ 1000) : Gx.Nw Gx.DA w lo s := by
  refine ⟨vs, hl, ?_, by omega⟩
  have := h.own.lower hb
  unfold Gx.OwG
  rw [hl]
  exact this

end Go.Proofs.Ytfemlnfknebalab
