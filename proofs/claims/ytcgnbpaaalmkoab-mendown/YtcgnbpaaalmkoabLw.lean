import Derived.Test.YtcgnbpaaalmkoabCa
namespace Go.Proofs.Ytcgnbpaaalmkoab
open Go.RowKit
set_option linter.unusedVariables false
set_option linter.unusedSimpArgs false

theorem Fr.lent {S : Nat → Prop} {w0 w w' : World} {l : List (Nat × TypeId × Array Value)} (h : Fr No w0 w l) (hk : Kept S w w') (hlow : ∀ k, S k → w0.heap.size ≤ k) (hne : ∀ x ∈ l, ¬ S x.1) : Fr No w0 w' l :=
  ⟨h.kept.trans hk (fun _ e => e) (fun i hi e => absurd (hlow i e) (by omega)), fun i g T cs hi => (h.box i g T cs hi).kept hk (hne _ (List.mem_of_getElem? hi)), h.low, h.inj⟩
def LS (gb ge gl gp : Nat) : Nat → Prop := fun k => k = gb ∨ k = ge ∨ k = gl ∨ k = gp
theorem LtAt.low {W : World} {base : Nat} {h : Hd} {bs : List Int} {es : List En} {ls : List La} {ps : List Pl} {gb ge gl gp : Nat} (H : LtAt W base h bs es ls ps gb ge gl gp) {n : Nat} (hn : n ≤ base) : ∀ k, LS gb ge gl gp k → n ≤ k := by
  rintro k (e | e | e | e) <;> subst e
  · exact Nat.le_trans hn H.lb
  · exact Nat.le_trans hn H.le
  · exact Nat.le_trans hn H.ll
  · exact Nat.le_trans hn H.lp
theorem LtAt.out {W : World} {base : Nat} {h : Hd} {bs : List Int} {es : List En} {ls : List La} {ps : List Pl} {gb ge gl gp : Nat} (H : LtAt W base h bs es ls ps gb ge gl gp) {g : Nat} {T : TypeId} {cs : Array Value} (hb : Box W g T cs) (hT : T ≠ 5 ∧ T ≠ 91 ∧ T ≠ 94 ∧ T ≠ 70) : ¬ LS gb ge gl gp g := by
  rintro (e | e | e | e)
  · exact hb.ne H.b hT.1 e
  · exact hb.ne H.e hT.2.1 e
  · exact hb.ne H.l hT.2.2.1 e
  · exact hb.ne H.p hT.2.2.2 e
theorem LtAt.row {W : World} {base : Nat} {h : Hd} {bs : List Int} {es : List En} {ls : List La} {ps : List Pl} {gb ge gl gp : Nat} (H : LtAt W base h bs es ls ps gb ge gl gp) {g : Nat} {T : TypeId} {cs : Array Value} (hb : Box W g T cs) (hT : T ≠ 5 ∧ T ≠ 91 ∧ T ≠ 94 ∧ T ≠ 70) (cs' : Array Value) : LtAt (W.setRow g cs') base h bs es ls ps gb ge gl gp :=
  ⟨H.b.rowNe (fun e => hb.ne H.b hT.1 e.symm) _, H.e.rowNe (fun e => hb.ne H.e hT.2.1 e.symm) _, H.l.rowNe (fun e => hb.ne H.l hT.2.2.1 e.symm) _, H.p.rowNe (fun e => hb.ne H.p hT.2.2.2 e.symm) _, H.lb, H.le, H.ll, H.lp⟩
theorem Fr.back {w0 w w' : World} {l : List (Nat × TypeId × Array Value)} {base : Nat} {h : Hd} {bs : List Int} {es : List En} {ls : List La} {ps : List Pl} {gb ge gl gp : Nat} (hF : Fr No w0 w l) (H : LtAt w base h bs es ls ps gb ge gl gp) (hk : Kept (LS gb ge gl gp) w w') (hb : w0.heap.size ≤ base) (hT : ∀ x ∈ l, x.2.1 ≠ 5 ∧ x.2.1 ≠ 91 ∧ x.2.1 ≠ 94 ∧ x.2.1 ≠ 70) : Fr No w0 w' l :=
  hF.lent hk (H.low hb) (fun x hx => by obtain ⟨i, hi⟩ := List.mem_iff_getElem?.1 hx; exact H.out (hF.box i x.1 x.2.1 x.2.2 hi) (hT x hx))
theorem Kept.no {a b c : World} (h : Kept No a b) (hk : Kept No b c) : Kept No a c := h.then hk
def LM (gb ge gl gc : Nat) : Nat → Prop := fun k => k = gb ∨ k = ge ∨ k = gl ∨ k = gc
theorem LtAt.lt {W : World} {base : Nat} {h : Hd} {bs : List Int} {es : List En} {ls : List La} {ps : List Pl} {gb ge gl gp : Nat} (H : LtAt W base h bs es ls ps gb ge gl gp) : ∀ k, LS gb ge gl gp k → k < W.heap.size := by
  rintro k (e | e | e | e) <;> subst e
  · exact H.b.lt
  · exact H.e.lt
  · exact H.l.lt
  · exact H.p.lt
theorem LmAt.lt {W : World} {base : Nat} {m : Mg} {bs : List Int} {es : List En} {ls : List La} {cs : List Cm} {gb ge gl gc : Nat} (H : LmAt W base m bs es ls cs gb ge gl gc) : ∀ k, LM gb ge gl gc k → k < W.heap.size := by
  rintro k (e | e | e | e) <;> subst e
  · exact H.b.lt
  · exact H.e.lt
  · exact H.l.lt
  · exact H.c.lt
theorem LmAt.low {W : World} {base : Nat} {m : Mg} {bs : List Int} {es : List En} {ls : List La} {cs : List Cm} {gb ge gl gc : Nat} (H : LmAt W base m bs es ls cs gb ge gl gc) {n : Nat} (hn : n ≤ base) : ∀ k, LM gb ge gl gc k → n ≤ k := by
  rintro k (e | e | e | e) <;> subst e
  · exact Nat.le_trans hn H.lb
  · exact Nat.le_trans hn H.le
  · exact Nat.le_trans hn H.ll
  · exact Nat.le_trans hn H.lc
theorem LmAt.out {W : World} {base : Nat} {m : Mg} {bs : List Int} {es : List En} {ls : List La} {cs : List Cm} {gb ge gl gc : Nat} (H : LmAt W base m bs es ls cs gb ge gl gc) {g : Nat} {T : TypeId} {cs' : Array Value} (hb : Box W g T cs') (hT : T ≠ 5 ∧ T ≠ 91 ∧ T ≠ 94 ∧ T ≠ 43) : ¬ LM gb ge gl gc g := by
  rintro (e | e | e | e)
  · exact hb.ne H.b hT.1 e
  · exact hb.ne H.e hT.2.1 e
  · exact hb.ne H.l hT.2.2.1 e
  · exact hb.ne H.c hT.2.2.2 e
theorem LmAt.row {W : World} {base : Nat} {m : Mg} {bs : List Int} {es : List En} {ls : List La} {cs : List Cm} {gb ge gl gc : Nat} (H : LmAt W base m bs es ls cs gb ge gl gc) {g : Nat} {T : TypeId} {cs' : Array Value} (hb : Box W g T cs') (hT : T ≠ 5 ∧ T ≠ 91 ∧ T ≠ 94 ∧ T ≠ 43) (ds : Array Value) : LmAt (W.setRow g ds) base m bs es ls cs gb ge gl gc :=
  ⟨H.b.rowNe (fun e => hb.ne H.b hT.1 e.symm) _, H.e.rowNe (fun e => hb.ne H.e hT.2.1 e.symm) _, H.l.rowNe (fun e => hb.ne H.l hT.2.2.1 e.symm) _, H.c.rowNe (fun e => hb.ne H.c hT.2.2.2 e.symm) _, H.lb, H.le, H.ll, H.lc⟩
theorem LmAt.kept {S : Nat → Prop} {W W' : World} {base : Nat} {m : Mg} {bs : List Int} {es : List En} {ls : List La} {cs : List Cm} {gb ge gl gc : Nat} (H : LmAt W base m bs es ls cs gb ge gl gc) (hk : Kept S W W') (hS : ∀ k, S k → k < base) : LmAt W' base m bs es ls cs gb ge gl gc :=
  ⟨H.b.kept hk (fun e => by have := hS _ e; have := H.lb; omega), H.e.kept hk (fun e => by have := hS _ e; have := H.le; omega), H.l.kept hk (fun e => by have := hS _ e; have := H.ll; omega), H.c.kept hk (fun e => by have := hS _ e; have := H.lc; omega), H.lb, H.le, H.ll, H.lc⟩
end Go.Proofs.Ytcgnbpaaalmkoab
