import Derived.Test.YtcgnbpaaalmkoabMb
import Derived.Test.YtcgnbpaaalmkoabLw
namespace Go.Proofs.Ytcgnbpaaalmkoab
open Go.RowKit
set_option linter.unusedVariables false
set_option linter.unusedSimpArgs false

def ownQ (n : Int) : Mg := ⟨21, ⟨false, 1⟩, ⟨false, 2⟩, 0, 0, ⟨2, 0, 0, 0⟩, ⟨n, 0⟩, spZ, slZ, cZ, bvZ, slZ, false⟩
def oneC : Cm := ⟨0, 0, 1, ⟨#[]⟩, 0, 0, 0, 0, 0⟩
def twoC : Cm := ⟨0, 0, 2, ⟨#[]⟩, 0, 0, 0, 0, 0⟩
theorem own_b (n : Int) (h : Hd) (bs : List Int) (es : List En) (ls : List La) (ps : List Pl) : (haveA (ownQ n) h bs es ls ps).b = [] := by
  unfold haveA
  have e : ((ownQ n).ky.k == 1) = false := rfl
  rw [e]
  cases ((ownQ n).k == 21 && (false || ((ownQ n).ky.k == 2 && askB (ownQ n).st.n))) with
  | false => rfl
  | true => cases decide ((ownQ n).st.n ≤ h.k.up) <;> rfl
@[reducible] def owA (n : Int) (h : Hd) (bs : List Int) (es : List En) (ls : List La) (ps : List Pl) : Aw := haveA (ownQ n) h bs es ls ps
@[reducible] def owT (n : Int) (m : Mg) (h : Hd) (bs : List Int) (es : List En) (ls : List La) (ps : List Pl) : Tw := takeA m hdZ (owA n h bs es ls ps).b (owA n h bs es ls ps).e (owA n h bs es ls ps).l (owA n h bs es ls ps).c []
theorem own_k1 (n : Int) (h : Hd) (bs : List Int) (es : List En) (ls : List La) (ps : List Pl) : ((haveA (ownQ n) h bs es ls ps).m.ky.k == 1) = false := by
  unfold haveA
  have e : ((ownQ n).ky.k == 1) = false := rfl
  rw [e]
  cases ((ownQ n).k == 21 && (false || ((ownQ n).ky.k == 2 && askB (ownQ n).st.n))) with
  | false => rfl
  | true => cases decide ((ownQ n).st.n ≤ h.k.up) <;> rfl
theorem LtAt.keptS {S : Nat → Prop} {W W' : World} {base : Nat} {h : Hd} {bs : List Int} {es : List En} {ls : List La} {ps : List Pl} {gb ge gl gp : Nat} (H : LtAt W base h bs es ls ps gb ge gl gp) (hk : Kept S W W') (hS : ∀ k, LS gb ge gl gp k → ¬ S k) : LtAt W' base h bs es ls ps gb ge gl gp :=
  ⟨H.b.kept hk (hS _ (.inl rfl)), H.e.kept hk (hS _ (.inr (.inl rfl))), H.l.kept hk (hS _ (.inr (.inr (.inl rfl)))), H.p.kept hk (hS _ (.inr (.inr (.inr rfl)))), H.lb, H.le, H.ll, H.lp⟩
theorem XOw.kept {S : Nat → Prop} {W W' : World} {base : Nat} {s : Sl} {X : List Ch} (h : XOw W base s X) (hk : Kept S W W') (hS : ∀ k, base ≤ k → ¬ S k) : XOw W' base s X :=
  ⟨h.own.kept hk (fun k e => hS k (h.own.base e)), h.len, by
    rcases h.el with e | ⟨e, es, ls, h1, h2⟩
    · exact .inl e
    · exact .inr ⟨e, es, ls, h1.kept hk (fun k e => hS k (h1.own.base e)), h2.kept hk (fun k e => hS k (h2.own.base e))⟩⟩
theorem XOw.no {W W' : World} {base : Nat} {s : Sl} {X : List Ch} (h : XOw W base s X) (hk : Kept No W W') : XOw W' base s X := h.kept hk (fun _ _ e => e)
theorem XOw.lt {W : World} {base : Nat} {s : Sl} {X : List Ch} (h : XOw W base s X) {i k : Nat} (hi : i < s.l) (hk : At (hAt X i).bk.e.a k ∨ At (hAt X i).bk.l.a k) : base ≤ k ∧ k < W.heap.size := by
  rcases h.el with e | ⟨e, es, ls, h1, h2⟩
  · rw [(e i hi).1, (e i hi).2] at hk
    rcases hk with hk | hk <;> exact absurd hk At.none
  · have : i = 0 := by omega
    subst this
    rcases hk with hk | hk
    · exact ⟨h1.own.base hk, h1.own.lt hk⟩
    · exact ⟨h2.own.base hk, h2.own.lt hk⟩
/-- What is left of the buckets of changes that are written over. -/
def XL (W : World) (base : Nat) (s : Sl) (X : List Ch) (i : Nat) : Prop := ∀ j, i ≤ j → j < s.l → ∃ es ls, OwE W base (hAt X j).bk.e es ∧ OwL W base (hAt X j).bk.l ls
theorem XOw.xl {W : World} {base : Nat} {s : Sl} {X : List Ch} (h : XOw W base s X) : XL W base s X 0 := fun j _ hj => by
  rcases h.el with e | ⟨e, es, ls, h1, h2⟩
  · rw [(e j hj).1, (e j hj).2]; exact ⟨[], [], OwE.nil _ _, OwL.nil _ _⟩
  · have : j = 0 := by omega
    subst this
    exact ⟨es, ls, h1, h2⟩
theorem XL.no {W W' : World} {base : Nat} {s : Sl} {X : List Ch} {i : Nat} (h : XL W base s X i) (hk : Kept No W W') : XL W' base s X i := fun j h1 h2 => by
  obtain ⟨es, ls, e1, e2⟩ := h j h1 h2
  exact ⟨es, ls, e1.no hk, e2.no hk⟩
def XOne (s : Sl) (X : List Ch) : Prop := (∀ i, i < s.l → (hAt X i).bk.e = slZ ∧ (hAt X i).bk.l = slZ) ∨ s.l = 1
theorem XOw.one {W : World} {base : Nat} {s : Sl} {X : List Ch} (h : XOw W base s X) : XOne s X := by
  rcases h.el with e | e
  · exact .inl e
  · exact .inr e.1
theorem XL.next {S : Nat → Prop} {W W' : World} {base : Nat} {s : Sl} {X : List Ch} {i : Nat} (h : XL W base s X i) (ho : XOne s X) (hk : Kept S W W') : XL W' base s X (i + 1) := fun j h1 h2 => by
  rcases ho with e | e
  · rw [(e j h2).1, (e j h2).2]; exact ⟨[], [], OwE.nil _ _, OwL.nil _ _⟩
  · omega
theorem XL.next2 {S : Nat → Prop} {W W' : World} {base : Nat} {s : Sl} {X : List Ch} {i : Nat} (h : XL W base s X (i + 1)) (ho : XOne s X) (hk : Kept S W W') : XL W' base s X (i + 1) := fun j h1 h2 => by
  rcases ho with e | e
  · rw [(e j h2).1, (e j h2).2]; exact ⟨[], [], OwE.nil _ _, OwL.nil _ _⟩
  · omega
theorem hd_zero (W : World) : HdAt W hdZ [] [] [] [] := ⟨RdB.nil _, RdE.nil _, RdL.nil _, ⟨RowsAt.nil _ _ _, rfl, fun _ => rfl⟩, by show 0 ≤ _; omega, by show 0 ≤ _; omega, by show 0 ≤ _; omega, by show 0 ≤ _; omega⟩
theorem may_zero : MayP hdZ [] := ⟨⟨by show (0 : Int) ≤ 0; omega, by show (0 : Int) ≤ _; omega⟩, fun _ => ⟨rfl, rfl⟩, fun i hi => absurd hi (Nat.not_lt_zero _)⟩
theorem app_lo {cur : List Cm} {n m i : Nat} {x : Cm} (hl : cur.length = n) (hs : ∀ j, j < n → cur[j]? = some spoC) (hi : i < n) : (cur ++ List.replicate m x)[i]? = some spoC := by
  rw [List.getElem?_append_left (by omega)]; exact hs i hi
theorem app_hi {cur : List Cm} {n m i : Nat} {x : Cm} (hl : cur.length = n) (h1 : n ≤ i) (h2 : i < n + m) : (cur ++ List.replicate m x)[i]? = some x := by
  rw [List.getElem?_append_right (by omega), List.getElem?_replicate, if_pos (by omega)]
theorem rep_succ (cur : List Cm) (i : Nat) (x : Cm) : cmL (cur ++ List.replicate (i + 1) x) = cmL (cur ++ List.replicate i x) ++ x.cs := by
  rw [List.replicate_succ', ← List.append_assoc, cmL_app, cmL_1]
theorem RdC.get {W : World} {s : Sl} {cs : List Cm} (h : RdC W s cs) {i : Nat} {x : Cm} (hx : cs[i]? = some x) : ∃ b off, s.a = some ⟨b, off, none⟩ ∧ ∀ (j : Nat) v, x.cs[j]? = some v → W.cell? ⟨b, off + i * 9 + j, none⟩ = some v := h.row i x.cs (by rw [List.getElem?_map, hx]; rfl)
theorem ch_get {W : World} {base : Nat} {a : Option Addr} {k n : Nat} {cur : List Ch} (h : Own 67 24 W base a k n (chL cur)) {i g : Nat} {x : Ch} (ha : a = some ⟨g, 0, none⟩) (hx : cur[i]? = some x) : ∀ (j : Nat) v, x.cs[j]? = some v → W.cell? ⟨g, 0 + i * 24 + j, none⟩ = some v := by
  obtain ⟨b, off, e, hc⟩ := (Own.rows h (chL_c cur) (by omega)) i x.cs (by rw [List.getElem?_map, hx]; rfl)
  rw [ha] at e
  cases e
  exact hc
theorem ch_bk {W : World} {g i : Nat} {x : Ch} (h : ∀ (j : Nat) v, x.cs[j]? = some v → W.cell? ⟨g, 0 + i * 24 + j, none⟩ = some v) : ∀ (j : Nat) v, (Bv.cs x.bk)[j]? = some v → W.cell? ⟨g, 0 + i * 24 + 21 + j, none⟩ = some v := fun j v hv => by
  have := h (21 + j) v (part_of (cs := x.cs) (sub := Bv.cs x.bk) (off := 21) (by kernel_rfl) j v hv)
  rwa [← Nat.add_assoc] at this
theorem hAt_eq {X : List Ch} {i : Nat} (h : i < X.length) : X[i]? = some (hAt X i) := by unfold hAt; rw [List.getElem?_eq_getElem h]; rfl

end Go.Proofs.Ytcgnbpaaalmkoab
