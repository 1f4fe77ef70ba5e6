import Derived.Test.YtfemlnfknebalabQb
import Derived.Test.YtfemlnfknebalabVa
namespace Go.Proofs.Ytfemlnfknebalab
open Go.RowKit
set_option linter.unusedVariables false
set_option linter.unusedSimpArgs false


namespace Gx
section
variable {α : Type} {D : Kn α}
theorem Rw.at0 {w : World} {base : Nat} {a : Option Addr} {c : Nat} {K : List Sl} (h : Rw D w base a c K) {i rg : Nat} {e : Sl} (he : K[i]? = some e) (ha : a = some ⟨rg, 0, none⟩) : w.cell? ⟨rg, 0 + i * 1, none⟩ = some e.v ∧ w.cell? ⟨rg, i, none⟩ = some e.v := by
  obtain ⟨g, e1, e2⟩ := h.at he
  rw [e1] at ha
  cases ha
  refine ⟨e2, ?_⟩
  rw [Nat.zero_add, Nat.mul_one] at e2
  exact e2
theorem Ph1j.rowAt {w wr : World} {base lo : Nat} {rg : Nat} {rc : Nat} {K : List Sl} {i j : Nat} (h : Ph1j D w wr base lo (some ⟨rg, 0, none⟩) rc K i j) {k : Nat} {e : Sl} (he : K[k]? = some e) : wr.cell? ⟨rg, 0 + k * 1, none⟩ = some e.v := (h.row.at0 he rfl).1
theorem Ph1j.rowAt0 {w wr : World} {base lo : Nat} {rg : Nat} {rc : Nat} {K : List Sl} {i j : Nat} (h : Ph1j D w wr base lo (some ⟨rg, 0, none⟩) rc K i j) {k : Nat} {e : Sl} (he : K[k]? = some e) : wr.cell? ⟨rg, k, none⟩ = some e.v := (h.row.at0 he rfl).2
section
variable {w wr : World} {base lo : Nat} {rg : Nat} {rc : Nat} {K : List Sl} {ma : Option Addr} {mc : Nat} {M : List Sl} {i : Nat}
theorem Ph2.rowAt (h : Ph2 D w wr base lo (some ⟨rg, 0, none⟩) rc K ma mc M i) {k : Nat} {e : Sl} (he : K[k]? = some e) : wr.cell? ⟨rg, 0 + k * 1, none⟩ = some e.v := (h.row.at0 he rfl).1
theorem Ph2.rowAt0 (h : Ph2 D w wr base lo (some ⟨rg, 0, none⟩) rc K ma mc M i) {k : Nat} {e : Sl} (he : K[k]? = some e) : wr.cell? ⟨rg, k, none⟩ = some e.v := (h.row.at0 he rfl).2
theorem Ph2.moreAt {mg : Nat} (h : Ph2 D w wr base lo (some ⟨rg, 0, none⟩) rc K (some ⟨mg, 0, none⟩) mc M i) {k : Nat} {e : Sl} (he : M[k]? = some e) : wr.cell? ⟨mg, 0 + k * 1, none⟩ = some e.v := (h.more.at0 he rfl).1
theorem OwG.at {w : World} {lo g k : Nat} {zs : List α} (h : OwG D w lo (some ⟨g, 0, none⟩) k zs) {q : Nat} {x : α} (hq : zs[q]? = some x) : ∀ (j : Nat) v, (D.cs x)[j]? = some v → w.cell? ⟨g, 0 + q * D.c + j, none⟩ = some v := by
  intro j v hv
  have := World.ownsRow.cells h (by rfl) (q * D.c + j) v (flat_get D.c (zs.map D.cs) (D.L_c zs) q (D.cs x) (by rw [List.getElem?_map, hq]; rfl) j v hv)
  rw [addr_add] at this
  rw [Nat.add_assoc]
  exact this
theorem Ph2.oldAt (h : Ph2 D w wr base lo (some ⟨rg, 0, none⟩) rc K ma mc M i) {k g el ec q : Nat} (he : K[k]? = some ⟨some ⟨g, 0, none⟩, el, ec⟩) (hq : q < el) : ∀ (j : Nat) v, (D.cs (D.mm k q))[j]? = some v → wr.cell? ⟨g, 0 + q * D.c + j, none⟩ = some v := (h.olds k _ he).at (marksOf_at hq)
theorem Ph2.newLo (h : Ph2 D w wr base lo (some ⟨rg, 0, none⟩) rc K ma mc M i) {k el ec q g fl fc : Nat} {ea : Option Addr} (he : K[k]? = some ⟨ea, el, ec⟩) (hf : M[k]? = some ⟨some ⟨g, 0, none⟩, fl, fc⟩) (hq : q < el) : ∀ (j : Nat) v, (D.cs (D.mm k q))[j]? = some v → wr.cell? ⟨g, 0 + q * D.c + j, none⟩ = some v := (h.news k _ _ he hf).2.1.at (by rw [List.getElem?_append_left (by rw [marksOf_len]; exact hq)]; exact marksOf_at hq)
theorem Ph2.newHi (h : Ph2 D w wr base lo (some ⟨rg, 0, none⟩) rc K ma mc M i) {k el ec p g fl fc : Nat} {ea : Option Addr} (he : K[k]? = some ⟨ea, el, ec⟩) (hf : M[k]? = some ⟨some ⟨g, 0, none⟩, fl, fc⟩) (hp : p < 70) : ∀ (j : Nat) v, (D.cs (D.mr k p))[j]? = some v → wr.cell? ⟨g, 0 + (el + p) * D.c + j, none⟩ = some v := (h.news k _ _ he hf).2.1.at (by show (marksOf D k el ++ growsOf D k 70)[el + p]? = _; rw [List.getElem?_append_right (by rw [marksOf_len]; omega), marksOf_len, Nat.add_sub_cancel_left]; exact growsOf_at hp)
theorem Ph2.smO (h : Ph2 D w wr base lo (some ⟨rg, 0, none⟩) rc K ma mc M i) {k : Nat} {e : Sl} (he : K[k]? = some e) (h0 : 0 < e.l) : ∃ g, e.a = some ⟨g, 0, none⟩ := Own.some (h.olds k e he) (by rw [marksOf_len]; exact h0)
theorem Ph2.smN (h : Ph2 D w wr base lo (some ⟨rg, 0, none⟩) rc K ma mc M i) {k : Nat} {e f : Sl} (he : K[k]? = some e) (hf : M[k]? = some f) : ∃ g, f.a = some ⟨g, 0, none⟩ := Own.some (h.news k e f he hf).2.1 (by rw [gr_len2]; omega)
end
end
theorem u24 : Try.prog.underlying 24 = some (.slice (Try.prog.elem 24)) := by kernel_rfl
theorem u23 : Try.prog.underlying 23 = some (.slice (Try.prog.elem 23)) := by kernel_rfl
theorem u45 : Try.prog.underlying 45 = some (.slice (Try.prog.elem 45)) := by kernel_rfl
theorem u42 : Try.prog.underlying 42 = some (.slice (Try.prog.elem 42)) := by kernel_rfl
theorem u43 : Try.prog.underlying 43 = some (.slice (Try.prog.elem 43)) := by kernel_rfl
theorem u44 : Try.prog.underlying 44 = some (.slice (Try.prog.elem 44)) := by kernel_rfl
theorem s24 : (Try.prog.info? (Try.prog.elem 24)).map (·.size) = some 7 := by kernel_rfl
theorem s23 : (Try.prog.info? (Try.prog.elem 23)).map (·.size) = some 4 := by kernel_rfl
theorem s45 : (Try.prog.info? (Try.prog.elem 45)).map (·.size) = some 6 := by kernel_rfl
theorem s42 : (Try.prog.info? (Try.prog.elem 42)).map (·.size) = some 1 := by kernel_rfl
theorem s43 : (Try.prog.info? (Try.prog.elem 43)).map (·.size) = some 1 := by kernel_rfl
theorem s44 : (Try.prog.info? (Try.prog.elem 44)).map (·.size) = some 1 := by kernel_rfl
theorem u42x : Try.prog.underlying 42 = some (.slice 23) := by kernel_rfl
theorem u43x : Try.prog.underlying 43 = some (.slice 24) := by kernel_rfl
theorem u44x : Try.prog.underlying 44 = some (.slice 45) := by kernel_rfl
theorem i23 : (Try.prog.info? 23).map (fun i => (i.zero, i.size, i.bytes)) = some (some (.slice none 0 0), 1, 24) := by kernel_rfl
theorem i24 : (Try.prog.info? 24).map (fun i => (i.zero, i.size, i.bytes)) = some (some (.slice none 0 0), 1, 24) := by kernel_rfl
theorem i45 : (Try.prog.info? 45).map (fun i => (i.zero, i.size, i.bytes)) = some (some (.slice none 0 0), 1, 24) := by kernel_rfl
theorem t23 : Try.prog.underlying 23 = some (.slice 34) := by kernel_rfl
theorem t24 : Try.prog.underlying 24 = some (.slice 67) := by kernel_rfl
theorem t45 : Try.prog.underlying 45 = some (.slice 36) := by kernel_rfl
theorem z67 : (Try.prog.info? 67).map (·.size) = some 7 := by kernel_rfl
theorem z34 : (Try.prog.info? 34).map (·.size) = some 4 := by kernel_rfl
theorem z36 : (Try.prog.info? 36).map (·.size) = some 6 := by kernel_rfl
def DL : Kn La := ⟨67, 24, 7, La.cs, fun i k => ⟨7, ((1000 * i + k : Nat) : Int), 0, 0, 0, 0, 0⟩, fun i k => ⟨8, ((1000 * i + k : Nat) : Int), 0, 0, 0, 0, 0⟩, fun _ => rfl, by decide, by decide⟩
def DE : Kn En := ⟨34, 23, 4, En.cs, fun i k => ⟨⟨#[109, 97, 114, 107]⟩, 0, 0, ((1000 * i + k : Nat) : Int)⟩, fun i k => ⟨⟨#[109, 111, 114, 101]⟩, 0, 0, ((1000 * i + k : Nat) : Int)⟩, fun _ => rfl, by decide, by decide⟩
def DA : Kn Av := ⟨36, 45, 6, Av.cs, fun i k => ⟨7, ⟨⟨#[]⟩, 0, 0, ((1000 * i + k : Nat) : Int)⟩, slZ⟩, fun i k => ⟨8, ⟨⟨#[]⟩, 0, 0, ((1000 * i + k : Nat) : Int)⟩, slZ⟩, fun _ => rfl, by decide, by decide⟩
end Gx
theorem eqL_refl (a : La) : eqL a a = true := by simp [eqL, eqF]
theorem eqE_refl (a : En) : eqE a a = true := by simp [eqE, eqF, eqN]
theorem b_mulK (y : Nat) (hy : y ≤ 1000000000) (w : World) : (binOp .mul 3 (.int .i64 1000) (.int .i64 (y : Int))).run Try.prog w = .ok (.int .i64 ((1000 * y : Nat) : Int)) w := by
  have e : (binOp .mul 3 (.int .i64 1000) (.int .i64 (y : Int))).run Try.prog w = .ok (.int .i64 (IntKind.i64.wrap (1000 * (y : Int)))) w := by kernel_rfl
  have h2 : IntKind.i64.wrap (1000 * (y : Int)) = ((1000 * y : Nat) : Int) := by rw [IntKind.wrap_i64]; omega
  rw [e, h2]

end Go.Proofs.Ytfemlnfknebalab
