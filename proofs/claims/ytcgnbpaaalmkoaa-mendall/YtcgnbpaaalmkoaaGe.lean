import Derived.Test.YtcgnbpaaalmkoaaGd
namespace Go.Proofs.Ytcgnbpaaalmkoaa
open Go.RowKit
set_option linter.unusedVariables false
set_option linter.unusedSimpArgs false

theorem LtAt.tp {W : World} {base : Nat} {h : Hd} {bs : List Int} {es : List En} {ls : List La} {ps : List Pl} {gb ge gl gp : Nat} (H : LtAt W base h bs es ls ps gb ge gl gp) : ∀ k, At (lentH h gb ge gl gp).r.a k → k < W.heap.size := fun k e => by obtain ⟨ad, e1, e2⟩ := e; cases e1; subst e2; exact H.p.lt
theorem LtAt.row {W : World} {base : Nat} {h : Hd} {bs : List Int} {es : List En} {ls : List La} {ps : List Pl} {gb ge gl gp : Nat} (H : LtAt W base h bs es ls ps gb ge gl gp) {g : Nat} {T : TypeId} {cs : Array Value} (hb : Box W g T cs) (hT : T ≠ 5 ∧ T ≠ 110 ∧ T ≠ 113 ∧ T ≠ 87) (cs' : Array Value) : LtAt (W.setRow g cs') base h bs es ls ps gb ge gl gp :=
  ⟨H.b.rowNe (fun e => hb.ne H.b hT.1 e.symm) _, H.e.rowNe (fun e => hb.ne H.e hT.2.1 e.symm) _, H.l.rowNe (fun e => hb.ne H.l hT.2.2.1 e.symm) _, H.p.rowNe (fun e => hb.ne H.p hT.2.2.2 e.symm) _, H.lb, H.le, H.ll, H.lp⟩
theorem TkRd.cells {W : World} {s : Sl} {z : List Ch} {bs : List Int} {es : List En} {ls : List La} {X : List Ch} (h : TkRd W s z bs es ls X) {i : Nat} (hi : i < s.l) {pb po : Nat} (ha : s.a = some ⟨pb, po, none⟩) : ∀ (j : Nat) v, (Ch.cs (hAt X i))[j]? = some v → W.cell? ⟨pb, po + i * 24 + j, none⟩ = some v := by
  obtain ⟨b, off, e, hc⟩ := h.at hi
  rw [ha] at e
  cases e
  exact hc
theorem HdAt.lens {w : World} {h : Hd} {bs : List Int} {es : List En} {ls : List La} {ps : List Pl} (H : HdAt w h bs es ls ps) : bs.length ≤ 140737488351232 ∧ es.length ≤ 3518437208780 ∧ ls.length ≤ 2513169434843 := ⟨by rw [H.b.len]; exact H.nb, by rw [H.e.len]; exact H.ne, by rw [H.l.len]; exact H.nl⟩
theorem results_ctt {fn : Func} {p q u : Tmp} {t : TypeId} (h : fn.results = #[.cell p t, .tmp q, .tmp u]) (tmps : Array Value) (w : World) (g : Nat) (cs : Array Value) (hp : tmps.getD p undef = .pointer (some ⟨g, 0, none⟩)) (hrun : (loadVar t ⟨g, 0, none⟩).run Try.prog w = .ok (.agg cs) w) :
    (results fn tmps).run Try.prog w = .ok (.tuple #[.agg cs, tmps.getD q undef, tmps.getD u undef]) w := by
  have hp' : tmps[p]?.getD undef = .pointer (some ⟨g, 0, none⟩) := by simpa using hp
  simp [results, h, hp', asAddr, hrun, Sem.run_bind, Result.andThen]
theorem ChW.three {u : Int} {s : Sp} {c : Ch} {bs : List Int} {es : List En} {ls : List La} (h : ChW u s c bs es ls) (h3 : (c.ky.k == 3) = true) : c.i = dnI c.ky.b := by
  have e : c.ky.k = 3 := by simpa using h3
  rcases h with h | h | h
  · rw [e] at h; exact absurd h.1 (by decide)
  · rw [e] at h; exact absurd h.2.1 (by decide)
  · exact h.2.2.2
end Go.Proofs.Ytcgnbpaaalmkoaa
