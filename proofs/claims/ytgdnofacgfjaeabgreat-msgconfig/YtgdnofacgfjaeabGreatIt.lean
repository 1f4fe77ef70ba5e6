import Derived.Test.YtgdnofacgfjaeabGreatD
namespace Go.Proofs.YtgdnofacgfjaeabGreat
open Go.RowKit
set_option linter.unusedVariables false

/-- One thing that is put: its kind, the number, where its bytes lie, and the bytes. -/
structure Item where
  k : Int
  n : Int
  a : Option Addr
  m : Nat
  c : Nat
  zs : List Int

def Item.val (x : Item) : Value := .agg #[.int .i64 x.k, .int .i64 x.n, .slice x.a x.m x.c]

structure ItOk (w : World) (x : Item) : Prop where
  sl : Sl w x.a x.m x.c x.zs
  lo : -9223372036854775808 ≤ x.n
  hi : x.n ≤ 9223372036854775807

theorem ItOk.no {w w' : World} {x : Item} (h : ItOk w x) (hk : Kept No w w') : ItOk w' x := ⟨h.sl.no hk, h.lo, h.hi⟩

/-- Things in a row. -/
def Its (w : World) (a : Option Addr) (xs : List Item) : Prop := ∀ (i : Nat) x, xs[i]? = some x → ∃ b off, a = some ⟨b, off, none⟩ ∧
  w.cell? ⟨b, off + i * 3, none⟩ = some (.int .i64 x.k) ∧ w.cell? ⟨b, off + i * 3 + 1, none⟩ = some (.int .i64 x.n) ∧ w.cell? ⟨b, off + i * 3 + 2, none⟩ = some (.slice x.a x.m x.c)

theorem Its.kept {S : Nat → Prop} {w w' : World} {a : Option Addr} {xs : List Item} (h : Its w a xs) (hk : Kept S w w') (hS : ∀ k, At a k → ¬ S k) : Its w' a xs := by
  intro i x hx
  obtain ⟨b, off, rfl, h1, h2, h3⟩ := h i x hx
  exact ⟨b, off, rfl, hk.cell h1 (hS b ⟨_, rfl, rfl⟩), hk.cell h2 (hS b ⟨_, rfl, rfl⟩), hk.cell h3 (hS b ⟨_, rfl, rfl⟩)⟩
theorem Its.no {w w' : World} {a : Option Addr} {xs : List Item} (h : Its w a xs) (hk : Kept No w w') : Its w' a xs := h.kept hk (fun _ _ e => e)

def putOf (x : Item) : List Int := if x.k = 1 then vint x.n.toNat else if x.k = 2 then vint (zz x.n) else vint x.zs.length ++ x.zs

theorem putOf_len {w : World} {x : Item} (h : ItOk w x) : (putOf x).length ≤ 10 + x.m := by
  have h1 := h.lo; have h2 := h.hi; have h3 := h.sl.len; have h4 := h.sl.bd
  unfold putOf
  split
  · have := vint_len10 x.n.toNat (by omega); omega
  · split
    · have := vint_len10 (zz x.n) (zz_64 _ h1 h2); omega
    · have := vint_len10 x.zs.length (by omega); rw [List.length_append]; omega

set_option maxRecDepth 1000000 in
set_option maxHeartbeats 1000000 in
theorem rput_any (x : Item) (w : World) (h : ItOk w x) (hneg : x.k = 1 → 0 ≤ x.n) :
    Calls Tryz.prog 232 #[.agg #[.int .i64 x.k, .int .i64 x.n, .slice x.a x.m x.c]] w fun e w' => ∃ a' n' c', e = .returned (.slice a' n' c') ∧ n' = (putOf x).length ∧ OwnS w' w.heap.size a' c' (putOf x) ∧ Kept No w w' := by
  obtain ⟨k, n, a, m, c, zs⟩ := x
  obtain ⟨hs, h0, h1⟩ := h
  simp only at hs h0 h1 hneg ⊢
  have HS : Hid (Sl w a m c zs) := hs
  have hbd := hs.bd
  clear hs
  by_cases e1 : k = 1
  · obtain ⟨u, rfl⟩ := Int.eq_ofNat_of_zero_le (hneg e1)
    have HP : Hid (putOf ⟨k, (u : Int), a, m, c, zs⟩ = vint u) := by unfold Hid putOf; simp [e1]
    have e1' : (k == 1) = true := by simpa using e1
    generalize putOf ⟨k, (u : Int), a, m, c, zs⟩ = P at HP ⊢
    clear e1 hneg
    go_enter Tryz.func232, Tryz.ntmps232
    go_wp2_with fail
    refine (rvarint_any u _ (by unfold W64; omega)).mono ?_
    rintro e w1 ⟨a1, n1, c1, rfl, hn1, hO1, hK1⟩
    have HF : Hid (n1 = P.length ∧ OwnS w1 w.heap.size a1 c1 P ∧ Kept No w w1) := ⟨by rw [HP.out]; exact hn1, by rw [HP.out]; exact hO1.lower (by simp), ((Kept.refl _ _).alloc _).then hK1⟩
    clear hn1 hO1 hK1
    go_wp2
    go_ret
    exact ⟨a1, n1, c1, rfl, HF.out⟩
  have e1' : (k == 1) = false := by simpa using e1
  by_cases e2 : k = 2
  · have HP : Hid (putOf ⟨k, n, a, m, c, zs⟩ = vint (zz n)) := by unfold Hid putOf; simp [e2]
    have e2' : (k == 2) = true := by simpa using e2
    generalize putOf ⟨k, n, a, m, c, zs⟩ = P at HP ⊢
    clear e1 e2 hneg
    go_enter Tryz.func232, Tryz.ntmps232
    go_wp2_with fail
    refine (rzigzag_any n _ h0 h1).mono ?_
    rintro e w1 ⟨rfl, rfl⟩
    go_wp2_with fail
    refine (rvarint_any (zz n) _ (zz_64 n h0 h1)).mono ?_
    rintro e w1 ⟨a1, n1, c1, rfl, hn1, hO1, hK1⟩
    have HF : Hid (n1 = P.length ∧ OwnS w1 w.heap.size a1 c1 P ∧ Kept No w w1) := ⟨by rw [HP.out]; exact hn1, by rw [HP.out]; exact hO1.lower (by simp), ((Kept.refl _ _).alloc _).then hK1⟩
    clear hn1 hO1 hK1
    go_wp2
    go_ret
    exact ⟨a1, n1, c1, rfl, HF.out⟩
  · have HP : Hid (putOf ⟨k, n, a, m, c, zs⟩ = vint m ++ zs) := by unfold Hid putOf; simp [e1, e2, HS.out.len]
    have e2' : (k == 2) = false := by simpa using e2
    generalize putOf ⟨k, n, a, m, c, zs⟩ = P at HP ⊢
    clear e1 e2 hneg
    go_enter Tryz.func232, Tryz.ntmps232
    go_wp2_with fail
    refine (rvarint_any m _ (by unfold W64; omega)).mono ?_
    rintro e w1 ⟨a1, n1, c1, rfl, hn1, hO1, hK1⟩
    have HO1 : Hid (OwnS w1 w.heap.size a1 c1 (vint m)) := hO1.lower (by simp)
    have HK1 : Hid (Kept No w w1) := ((Kept.refl _ _).alloc _).then hK1
    have HN1 : Hid (n1 = (vint m).length) := hn1
    have hl : n1 ≤ 10 := by rw [hn1]; exact vint_len10 m (by omega)
    have hcl : w1.cell? ⟨w.heap.size, 2, none⟩ = some (.slice a m c) := hK1.cell (by simp) (fun e => e)
    clear hn1 hO1 hK1
    go_wp2_with (at_builtin; go_must (refine wp_appB _ Tryz.underlying30 Tryz.info5 rfl _ _ rfl w.heap.size _ _ _ (vint m) rfl HN1.out.symm HO1.out _ _ _ zs rfl HS.out.len (HS.out.no HK1.out).bytes HS.out.nil (by omega) HK1.out.size ?_; intro a2 c2 w2 HO2 HK2 HM2))
    go_ret
    exact ⟨a2, _, c2, rfl, by rw [HP.out, HN1.out, List.length_append, HS.out.len], by rw [HP.out]; exact HO2.out, HK1.out.fresh HK2.out (fun i e => HO1.out.base e)⟩

end Go.Proofs.YtgdnofacgfjaeabGreat
