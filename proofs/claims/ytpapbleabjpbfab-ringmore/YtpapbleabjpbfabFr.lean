import Derived.RangeFuncNested
import Derived.RangeFuncBound
import Derived.RangeFuncCalls
import Derived.RangeFuncLeaves
import Derived.Shelf.Abstract
import Derived.Sort.QuietTacIn
import Derived.Shelf.RegionOpen
import Derived.OwnWalkIn
import Derived.TacticsInMore
import Derived.LoopNIn
import Derived.LoopIn
import Derived.Test.YtpapbleabjpbfabUg
namespace Go.Proofs.Ytpapbleabjpbfab
open Go.RowKit Go.Shelf
set_option linter.unusedVariables false

attribute [local go_sem] Oper.semAt_some

theorem take_next {ps : List (Int × Int)} {k : Nat} (h : k < ps.length) : ps.take k ++ [ps[k]?.getD (0, 0)] = ps.take (k + 1) := by
  rw [List.take_succ_eq_append_getElem h, List.getElem?_eq_getElem h]; rfl

set_option maxRecDepth 100000 in
set_option maxHeartbeats 2000000 in
/-- What Points tells, gone over: every body that keeps what lay below n₀. -/
theorem pts1_in (F : Fence) (n : Nat) (h29 : F.fn 29) (hro : F.round = none) (hn : 1 ≤ n) (l Bs n₀ pg pc m : Nat) (ps : List (Int × Int)) (hm : m ≤ 4096) (hl : ps.length = m) (hb : pg < n₀) (J Jx : List (Int × Int) → World → Prop) (W : World) (hJ : AbidesFrom W.heap.size J) (hn0 : n₀ ≤ W.heap.size)
    (hY : ∀ pre x W1, J pre W1 → pre.length < m → YieldAt F (n - 1) Try.prog l #[.int .i64 x.1, .int .i64 x.2] W1 fun e W' =>
      (e = .returned (.bool true) ∧ J (pre ++ [x]) W' ∧ Below n₀ W1 W') ∨ (e = .returned (.bool false) ∧ Jx (pre ++ [x]) W'))
    (hBs : W.cell? ⟨Bs, 0, none⟩ = some (.slice (some ⟨pg, 0, none⟩) m pc))
    (hc : ∀ i, i < m → W.cell? ⟨pg, i * 2, none⟩ = some (.int .i64 (ps[i]?.getD (0, 0)).1) ∧ W.cell? ⟨pg, i * 2 + 1, none⟩ = some (.int .i64 (ps[i]?.getD (0, 0)).2)) (h0 : J [] W) :
    CallsIn F n Try.prog 29 #[.func (.yield l) #[] #[], .pointer (some ⟨Bs, 0, none⟩)] W fun e W' => (∃ v, e = .returned v) ∧
      ((∃ ys, ys = ps ∧ J ys W') ∨ (∃ pre, pre <+: ps ∧ Jx pre W')) := by
  have HC : Hid (∀ i, i < m → W.cell? ⟨pg, i * 2, none⟩ = some (.int .i64 (ps[i]?.getD (0, 0)).1) ∧ W.cell? ⟨pg, i * 2 + 1, none⟩ = some (.int .i64 (ps[i]?.getD (0, 0)).2)) := hc
  have HL : Hid (ps.length = m) := hl
  have HJ : Hid (AbidesFrom W.heap.size J) := hJ
  have HY : Hid (∀ pre x W1, J pre W1 → pre.length < m → YieldAt F (n - 1) Try.prog l #[.int .i64 x.1, .int .i64 x.2] W1 fun e W' =>
      (e = .returned (.bool true) ∧ J (pre ++ [x]) W' ∧ Below n₀ W1 W') ∨ (e = .returned (.bool false) ∧ Jx (pre ++ [x]) W')) := hY
  clear hc hl hJ hY
  refine callsIn_of_wp Try.func29 rfl h29 ?_ hro
  simp only [Try.ntmps29, List.size_toArray, List.length_cons, List.length_nil, Nat.reduceAdd, Nat.reduceSub, Array.replicate_succ, Array.replicate_zero, List.push_toArray, List.append_toArray, List.nil_append, List.cons_append]
  gi_wp2
  gi_loopw [7] (fun i wr => ∃ k : Nat, k ≤ m ∧ i = .int .i64 k ∧ Hid (J (ps.take k) wr) ∧ Hid (Below n₀ W wr)) (fun i _ => m - (intOf i).toNat)
  case atStart => exact ⟨0, Nat.zero_le _, rfl, h0, Below.refl _ _⟩
  case round =>
    obtain ⟨k, hk, rfl, HJs, HB⟩ := hrel
    by_cases hlt : k < m
    · have c0 : wr.cell? ⟨pg, k * 2, none⟩ = some (.int .i64 (ps[k]?.getD (0, 0)).1) := (HB.out.cell (p := ⟨pg, k * 2, none⟩) hb).trans (HC.out k hlt).1
      have c1 : wr.cell? ⟨pg, k * 2 + 1, none⟩ = some (.int .i64 (ps[k]?.getD (0, 0)).2) := (HB.out.cell (p := ⟨pg, k * 2 + 1, none⟩) hb).trans (HC.out k hlt).2
      have HTk : Hid (ps.take k ++ [ps[k]?.getD (0, 0)] = ps.take (k + 1)) := take_next (by rw [HL.out]; exact hlt)
      have hlen : (ps.take k).length < m := by rw [List.length_take, HL.out]; omega
      generalize ps[k]?.getD (0, 0) = x at c0 c1 HTk
      obtain ⟨x1, x2⟩ := x
      simp only at c0 c1
      obtain ⟨w5, hw5⟩ : ∃ w5, w5 = wr.alloc (.cells #[.int .i64 x1, .int .i64 x2] 68) := ⟨_, rfl⟩
      have hJ5 : J (ps.take k) w5 := by rw [hw5]; exact HJ.out _ wr _ none HJs.out (World.grownBy_alloc wr _ none) (fun r e => by cases e)
      have HB5 : Hid (Below n₀ W w5) := by rw [hw5]; exact HB.out.trans ((Below.refl n₀ wr).alloc (Nat.le_trans hn0 HB.out.size) _)
      obtain ⟨fn, tmps, assign, body, hy, hR⟩ := HY.out _ (x1, x2) w5 hJ5 hlen
      dsimp only at hy
      have hlt' : (k : Int) < (m : Int) := by omega
      clear hlen hJ5
      rw [hw5] at hy hR
      gi_wp2
      refine hR.mono ?_
      rw [← hw5]
      rintro e W3 (⟨rfl, hJ3, hk3⟩ | ⟨rfl, hJx3⟩)
      · rw [HTk.out] at hJ3
        have HJ3 : Hid (J (ps.take (k + 1)) W3) := hJ3
        have HB3 : Hid (Below n₀ W W3) := HB5.out.trans hk3
        clear hJ3 hk3 hy hR HJs HB c0 c1
        gi_wp2
        go_roundw
        case rel => exact ⟨k + 1, by omega, by go_num, HJ3, HB3⟩
        case measure => simp [intOf]; omega
      · rw [HTk.out] at hJx3
        have HJ3 : Hid (Jx (ps.take (k + 1)) W3) := hJx3
        clear hJx3 hy hR HJs HB c0 c1
        gi_wp2
        refine bodyPost_ret (results_none rfl _ _ _) rfl ?_
        exact ⟨⟨_, rfl⟩, .inr ⟨_, List.take_prefix _ _, HJ3.out⟩⟩
    · obtain rfl : k = m := by omega
      have hlt' : ¬ (k : Int) < (k : Int) := by omega
      gi_wp2
      go_end0
      have hJe := HJs.out
      rw [List.take_of_length_le (by rw [HL.out]; omega)] at hJe
      exact ⟨⟨_, rfl⟩, .inl hJe⟩

theorem pts_stops (F : Fence) (n : Nat) (h29 : F.fn 29) (hro : F.round = none) (hn : 1 ≤ n) (Bs n₀ pg pc m : Nat) (ps : List (Int × Int)) (hm : m ≤ 4096) (hl : ps.length = m) (w : World) (hb : pg < n₀) (hBs : Bs < w.heap.size) (hn₀ : n₀ ≤ w.heap.size)
    (hc : w.cell? ⟨Bs, 0, none⟩ = some (.slice (some ⟨pg, 0, none⟩) m pc))
    (hI : ∀ i, i < m → w.cell? ⟨pg, i * 2, none⟩ = some (.int .i64 (ps[i]?.getD (0, 0)).1) ∧ w.cell? ⟨pg, i * 2 + 1, none⟩ = some (.int .i64 (ps[i]?.getD (0, 0)).2)) :
    SeqStopsK F n Try.prog 29 #[.pointer (some ⟨Bs, 0, none⟩)] (fun x : Int × Int => #[Value.int .i64 x.1, Value.int .i64 x.2]) (Below n₀) (fun ys => ys = ps) (fun pre => pre <+: ps) m w := fun l J Jx W hW hJ _ hY h0 => by
  have hs := hW.size
  exact pts1_in F n h29 hro hn l Bs n₀ pg pc m ps hm hl hb J Jx W hJ (by omega) hY ((hW.cell (p := ⟨Bs, 0, none⟩) hBs).trans hc)
    (fun i hi => ⟨(hW.cell (p := ⟨pg, i * 2, none⟩) (show pg < w.heap.size by omega)).trans (hI i hi).1, (hW.cell (p := ⟨pg, i * 2 + 1, none⟩) (show pg < w.heap.size by omega)).trans (hI i hi).2⟩) h0


theorem keepsN (W : World) (n : Nat) : KeepsOthers W (W.drewN n) := ⟨Nat.le_refl _, fun _ _ h _ => h⟩
theorem belowN (B : Nat) (W : World) (n : Nat) : Below B W (W.drewN n) := ⟨rfl, rfl, rfl, Nat.le_refl _, fun _ _ => rfl⟩

/-! what the points tell, gone over -/
def lastF (l : List (Int × Int)) : Int := l.foldl (fun _ x => x.1) (-1)
def leastF (l : List (Int × Int)) : Int := l.foldl (fun a x => if a = -1 then x.2 else a) (-1)
def atF (h : Int) (l : List (Int × Int)) : Int := l.foldl (fun a x => if a = -1 ∧ h ≤ x.1 then x.2 else a) (-1)
theorem lastF_app (l : List (Int × Int)) (x : Int × Int) : lastF (l ++ [x]) = x.1 := by simp [lastF]
theorem leastF_app (l : List (Int × Int)) (x : Int × Int) : leastF (l ++ [x]) = if leastF l = -1 then x.2 else leastF l := by unfold leastF; rw [List.foldl_append]; rfl
theorem atF_app (h : Int) (l : List (Int × Int)) (x : Int × Int) : atF h (l ++ [x]) = if atF h l = -1 ∧ h ≤ x.1 then x.2 else atF h l := by unfold atF; rw [List.foldl_append]; rfl

/-- No prefix of rising points breaks the rule. -/
theorem no_break {ps ini : List (Int × Int)} {x : Int × Int} (hR : Rising ps) (hH : HashI ps) (h : ini ++ [x] <+: ps) : ¬ (x.1 < lastF ini ∨ x.1 < 0 ∨ 4294967296 ≤ x.1) := by
  obtain ⟨t, rfl⟩ := h
  have e1 : ((ini ++ [x] ++ t)[ini.length]?.getD (0, 0)) = x := by simp
  have h1 := hH ini.length
  rw [e1] at h1
  rintro (h | h | h)
  · rcases List.eq_nil_or_concat ini with rfl | ⟨i2, y, rfl⟩
    · simp [lastF] at h; omega
    · rw [List.concat_eq_append] at *
      rw [lastF_app] at h
      have e2 : ((i2 ++ [y] ++ [x] ++ t)[i2.length]?.getD (0, 0)) = y := by simp
      have := hR i2.length (i2 ++ [y]).length (by simp) (by simp)
      rw [e1, e2] at this
      omega
  · omega
  · omega

theorem leastF_eq {ps : List (Int × Int)} (hs : ∀ i, i < ps.length → (ps[i]?.getD (0, 0)).2 ≠ -1) (hm : 0 < ps.length) : leastF ps = (ps[0]?.getD (0, 0)).2 := by
  cases ps with
  | nil => simp at hm
  | cons x l =>
    have hx : x.2 ≠ -1 := by have := hs 0 (by simp); simpa using this
    have : ∀ (l : List (Int × Int)) (a : Int), a ≠ -1 → l.foldl (fun a x => if a = -1 then x.2 else a) a = a := by
      intro l
      induction l with
      | nil => intro a _; rfl
      | cons y l ih => intro a ha; rw [List.foldl_cons, if_neg ha]; exact ih a ha
    simp only [leastF, List.foldl_cons, if_true, List.getElem?_cons_zero, Option.getD_some]
    exact this l _ hx
theorem firstN_cons (x : Int × Int) (l : List (Int × Int)) (h : Int) : firstN (x :: l) h = (if h ≤ x.1 then 0 else 1) + firstN l h := by
  unfold firstN
  rw [List.length_cons, List.range_succ_eq_map, List.countP_cons, List.countP_map]
  have : List.countP ((fun i => !decide (((x :: l)[i]?.getD (0, 0)).1 ≥ h)) ∘ Nat.succ) (List.range l.length) = List.countP (fun i => !decide ((l[i]?.getD (0, 0)).1 ≥ h)) (List.range l.length) := by
    congr 1
  rw [this, Nat.add_comm]
  congr 1
  by_cases e : h ≤ x.1 <;> simp [e]
theorem rising_tail {x : Int × Int} {l : List (Int × Int)} (h : Rising (x :: l)) : Rising l := fun a b hab hb => by
  have := h (a + 1) (b + 1) (by omega) (by simp; omega)
  simpa using this
theorem firstN_zero {x : Int × Int} {l : List (Int × Int)} {h : Int} (hR : Rising (x :: l)) (hx : h ≤ x.1) : firstN l h = 0 := by
  unfold firstN
  rw [List.countP_eq_zero]
  intro i hi
  have := hR 0 (i + 1) (by omega) (by have := List.mem_range.1 hi; simp; omega)
  simp at this ⊢
  omega
theorem atF_eq (h : Int) : ∀ (ps : List (Int × Int)), Rising ps → (∀ i, i < ps.length → (ps[i]?.getD (0, 0)).2 ≠ -1) → atF h ps = if firstN ps h < ps.length then (ps[firstN ps h]?.getD (0, 0)).2 else -1
  | [], _, _ => rfl
  | x :: l, hR, hs => by
    have hx : x.2 ≠ -1 := by have := hs 0 (by simp); simpa using this
    have ih := atF_eq h l (rising_tail hR) (fun i hi => by have := hs (i + 1) (by simp; omega); simpa using this)
    have hstay : ∀ (l : List (Int × Int)) (a : Int), a ≠ -1 → l.foldl (fun a x => if a = -1 ∧ h ≤ x.1 then x.2 else a) a = a := by
      intro l
      induction l with
      | nil => intro a _; rfl
      | cons y l ih => intro a ha; rw [List.foldl_cons, if_neg (fun e => ha e.1)]; exact ih a ha
    rw [firstN_cons]
    by_cases e : h ≤ x.1
    · rw [if_pos e, firstN_zero hR e, if_pos (by simp)]
      simp only [atF, List.foldl_cons, true_and, if_pos e, Nat.add_zero, List.getElem?_cons_zero, Option.getD_some]
      exact hstay l _ hx
    · rw [if_neg e]
      have : atF h (x :: l) = atF h l := by simp [atF, e]
      rw [this, ih, List.length_cons]
      by_cases e2 : firstN l h < l.length
      · rw [if_pos e2, if_pos (by omega), Nat.add_comm 1, List.getElem?_cons_succ]
      · rw [if_neg e2, if_neg (by omega)]
theorem firstN_le (ps : List (Int × Int)) (h : Int) : firstN ps h ≤ ps.length := by
  unfold firstN
  have := List.countP_le_length (p := fun i => !decide ((ps[i]?.getD (0, 0)).1 ≥ h)) (l := List.range ps.length)
  simpa using this
/-- What is asked in the end. -/
theorem first_end {ps : List (Int × Int)} (h : Int) (hR : Rising ps) (hs : ∀ i, i < ps.length → (ps[i]?.getD (0, 0)).2 ≠ -1) (hm : 0 < ps.length) :
    (atF h ps = -1 → leastF ps = srvAt ps (firstN ps h) 0) ∧ (atF h ps ≠ -1 → atF h ps = srvAt ps (firstN ps h) 0) := by
  have hle := firstN_le ps h
  rw [atF_eq h ps hR hs, leastF_eq hs hm]
  unfold srvAt
  rw [Nat.add_zero]
  by_cases e : firstN ps h < ps.length
  · rw [if_pos e, Nat.mod_eq_of_lt e]
    exact ⟨fun h1 => absurd h1 (hs _ e), fun _ => rfl⟩
  · have : firstN ps h = ps.length := by omega
    rw [if_neg e, this, Nat.mod_self]
    exact ⟨fun _ => rfl, fun h1 => absurd rfl h1⟩


/-- The cells of the question, by the way. -/
structure FS (W : World) (b hb rb : Nat) (H l a t : Int) : Prop where
  d1 : hb < b
  d2 : rb < hb
  c0 : W.cell? ⟨b, 0, none⟩ = some (.int .i64 (-1))
  c1 : W.cell? ⟨b + 1, 0, none⟩ = some (.int .i64 t)
  f1 : W.frozen? ⟨b + 1, 0, none⟩ = false
  c2 : W.cell? ⟨b + 1 + 1, 0, none⟩ = some (.int .i64 a)
  f2 : W.frozen? ⟨b + 1 + 1, 0, none⟩ = false
  c3 : W.cell? ⟨b + 1 + 1 + 1, 0, none⟩ = some (.int .i64 l)
  f3 : W.frozen? ⟨b + 1 + 1 + 1, 0, none⟩ = false
  ch : W.cell? ⟨hb, 0, none⟩ = some (.int .i64 H)
  cr : W.cell? ⟨rb, 0, none⟩ = some (.bool false)
  fr : W.frozen? ⟨rb, 0, none⟩ = false
theorem cell_other {W : World} {k g : Nat} {v x : Value} (h : W.cell? ⟨k, 0, none⟩ = some x) (hn : k ≠ g) : (W.setCell ⟨g, 0, none⟩ v).cell? ⟨k, 0, none⟩ = some x :=
  ((Kept.refl (Only g) W).setCell (p := ⟨g, 0, none⟩) (fun _ => rfl) _).cell h (fun e => hn e)
theorem cell_self {W : World} {g : Nat} {v x : Value} (h : W.cell? ⟨g, 0, none⟩ = some x) : (W.setCell ⟨g, 0, none⟩ v).cell? ⟨g, 0, none⟩ = some v :=
  World.cell?_setCell_same' _ _ _ (by rw [h]; rfl)
theorem frz {W : World} {k g : Nat} {v : Value} (h : W.frozen? ⟨k, 0, none⟩ = false) : (W.setCell ⟨g, 0, none⟩ v).frozen? ⟨k, 0, none⟩ = false := by rw [World.frozen?_setCell]; exact h
theorem FS.set3 {W : World} {b hb rb : Nat} {H l a t : Int} (h : FS W b hb rb H l a t) (x : Int) : FS (W.setCell ⟨b + 1 + 1 + 1, 0, none⟩ (.int .i64 x)) b hb rb H x a t :=
  have d1 := h.d1
  have d2 := h.d2
  ⟨d1, d2, cell_other h.c0 (by omega), cell_other h.c1 (by omega), frz h.f1, cell_other h.c2 (by omega), frz h.f2, cell_self h.c3, frz h.f3, cell_other h.ch (by omega), cell_other h.cr (by omega), frz h.fr⟩
theorem FS.set2 {W : World} {b hb rb : Nat} {H l a t : Int} (h : FS W b hb rb H l a t) (x : Int) : FS (W.setCell ⟨b + 1 + 1, 0, none⟩ (.int .i64 x)) b hb rb H l x t :=
  have d1 := h.d1
  have d2 := h.d2
  ⟨d1, d2, cell_other h.c0 (by omega), cell_other h.c1 (by omega), frz h.f1, cell_self h.c2, frz h.f2, cell_other h.c3 (by omega), frz h.f3, cell_other h.ch (by omega), cell_other h.cr (by omega), frz h.fr⟩
theorem FS.set1 {W : World} {b hb rb : Nat} {H l a t : Int} (h : FS W b hb rb H l a t) (x : Int) : FS (W.setCell ⟨b + 1, 0, none⟩ (.int .i64 x)) b hb rb H l a x :=
  have d1 := h.d1
  have d2 := h.d2
  ⟨d1, d2, cell_other h.c0 (by omega), cell_self h.c1, frz h.f1, cell_other h.c2 (by omega), frz h.f2, cell_other h.c3 (by omega), frz h.f3, cell_other h.ch (by omega), cell_other h.cr (by omega), frz h.fr⟩

/-- A point out of order. -/
def Bad (pre : List (Int × Int)) : Prop := ∃ ini y, pre = ini ++ [y] ∧ (y.1 < lastF ini ∨ y.1 < 0 ∨ 4294967296 ≤ y.1)
theorem bset {n₀ g : Nat} {A W : World} {v : Value} (h : Below n₀ A W) (hg : n₀ ≤ g) : Below n₀ A (W.setCell ⟨g, 0, none⟩ v) := h.setCell (p := ⟨g, 0, none⟩) hg _
theorem k1 {W : World} {g : Addr} {v : Value} : KeepsOthers W (W.setCell g v) := KeepsOthers.setCell _ _ _
theorem FS.to {W : World} {b hb rb : Nat} {H l a t l' a' t' : Int} (h : FS W b hb rb H l a t) (h1 : l' = l) (h2 : a' = a) (h3 : t' = t) : FS W b hb rb H l' a' t' := by subst h1 h2 h3; exact h

set_option maxRecDepth 100000 in
set_option maxHeartbeats 4000000 in
theorem isFirst_any (r : Nat) (sa : Option Addr) (sn sc : Nat) (f p bu bl ro : Int) (pg pc m : Nat) (ps : List (Int × Int)) (kd a b c s : Int) (w : World) (hR : RingV w r sa sn sc f p bu bl ro pg pc m ps) (hm : m ≤ 4096) (hm1 : 1 ≤ m) (hRi : Rising ps) (hHa : HashI ps) (hsv : ∀ i, i < ps.length → (ps[i]?.getD (0, 0)).2 ≠ -1)
    (hs : s = srvAt ps (firstN ps (homeH kd a b c)) 0) :
    Calls Try.prog 15 #[.pointer (some ⟨r, 0, none⟩), keyV kd a b c, .int .i64 s] w fun e w' => e = .returned (.bool true) ∧ Below w.heap.size w w' := by
  have HR : Hid (RingV w r sa sn sc f p bu bl ro pg pc m ps) := hR
  have HL : Hid (ps.length = m) := hR.len
  have HE : Hid _ := first_end (homeH kd a b c) hRi hsv (by rw [hR.len]; exact hm1)
  have HNb : Hid (∀ ini x, ini ++ [x] <+: ps → ¬ (x.1 < lastF ini ∨ x.1 < 0 ∨ 4294967296 ≤ x.1)) := fun ini x h => no_break hRi hHa h
  rw [← hs] at HE
  obtain ⟨H, hHe⟩ : ∃ H, H = homeH kd a b c := ⟨_, rfl⟩
  rw [← hHe] at HE
  have hpg : pg < w.heap.size := World.block_lt_of_cell? w ⟨pg, 0 * 2, none⟩ (hR.cell 0 hm1).1
  have HRc : Hid (∀ W, Kept No w W → ∀ i, i < m → W.cell? ⟨pg, i * 2, none⟩ = some (.int .i64 (ps[i]?.getD (0, 0)).1) ∧ W.cell? ⟨pg, i * 2 + 1, none⟩ = some (.int .i64 (ps[i]?.getD (0, 0)).2)) := fun W hk i hi => (hR.no hk).cell i hi
  clear hR hRi hHa hsv hs
  refine (callsIn_wide (n := 3)).1 ?_
  refine callsIn_of_wp_marks Try.func15 rfl trivial ?_ rfl
  simp only [Try.ntmps15, List.size_toArray, List.length_cons, List.length_nil, Nat.reduceAdd, Nat.reduceSub, Array.replicate_succ, Array.replicate_zero, List.push_toArray, List.append_toArray, List.nil_append, List.cons_append]
  obtain ⟨w1, hw1⟩ : ∃ w1, w1 = (w.alloc (.cells #[.int .i64 kd, .int .i64 a, .int .i64 b, .int .i64 c] 35)).alloc (.cells #[.bool false] 4) := ⟨_, rfl⟩
  have hs1 : w1.heap.size = w.heap.size + 1 + 1 := by rw [hw1]; simp
  have HB1 : Hid (Box w1 w.heap.size 35 #[.int .i64 kd, .int .i64 a, .int .i64 b, .int .i64 c]) := by rw [hw1]; exact (Box.new _ _ _).alloc _
  have HR1 : Hid (Box w1 (w.heap.size + 1) 4 #[.bool false]) := by
    rw [hw1]
    show Box _ _ _ _
    have := Box.new (w.alloc (.cells #[.int .i64 kd, .int .i64 a, .int .i64 b, .int .i64 c] 35)) 4 #[.bool false]
    simpa [Box] using this
  have HK1 : Hid (Kept No w w1) := by rw [hw1]; exact ((Kept.refl No w).alloc _).alloc _
  gi_wp2_with fail
  rw [← hw1]
  refine ⟨trivial, (callsIn_wide.2 (hash_any kd a b c w1)).mono ?_⟩
  rintro e w2 ⟨rfl, hk2⟩
  have HK2 : Hid (Kept No w w2) := HK1.out.then hk2
  have HB2 : Hid (Box w2 w.heap.size 35 #[.int .i64 kd, .int .i64 a, .int .i64 b, .int .i64 c]) := HB1.out.kept hk2 (fun e => e)
  have HR2 : Hid (Box w2 (w.heap.size + 1) 4 #[.bool false]) := HR1.out.kept hk2 (fun e => e)
  have h2s : w.heap.size + 1 + 1 ≤ w2.heap.size := by rw [← hs1]; exact hk2.size
  clear hw1 hs1 HB1 HR1 HK1 hk2
  obtain ⟨w3, hw3⟩ : ∃ w3, w3 = w2.alloc (.cells #[.int .i64 (hashK kd a b c)] 3) := ⟨_, rfl⟩
  have HK3 : Hid (Kept No w w3) := by rw [hw3]; exact HK2.out.alloc _
  have HB3 : Hid (Box w3 w.heap.size 35 #[.int .i64 kd, .int .i64 a, .int .i64 b, .int .i64 c]) := by rw [hw3]; exact HB2.out.alloc _
  have HR3 : Hid (Box w3 (w.heap.size + 1) 4 #[.bool false]) := by rw [hw3]; exact HR2.out.alloc _
  have HH3 : Hid (Box w3 w2.heap.size 3 #[.int .i64 (hashK kd a b c)]) := by rw [hw3]; exact Box.new _ _ _
  have k0 := HB3.out.cell 0
  have k1 := HB3.out.cell 1
  simp only [List.getElem?_toArray, List.getElem?_cons_zero, List.getElem?_cons_succ] at k0 k1
  rw [hw3] at k0 k1
  by_cases hk3 : kd = 3
  subst hk3
  gi_wp2_with fail
  rw [← hw3]
  refine ⟨trivial, (callsIn_wide.2 (hash_any 2 a 0 0 w3)).mono ?_⟩
  rintro e w4 ⟨rfl, hk4⟩
  have HK4 : Hid (Kept No w w4) := HK3.out.then hk4
  have HR4 : Hid (Box w4 (w.heap.size + 1) 4 #[.bool false]) := HR3.out.kept hk4 (fun e => e)
  have HH4 : Hid (Box w4 w2.heap.size 3 #[.int .i64 (hashK 3 a b c)]) := HH3.out.kept hk4 (fun e => e)
  have h4s : w2.heap.size < w4.heap.size := HH4.out.lt
  generalize w2.heap.size = hb at h2s HH4 h4s ⊢
  have q1 := HH4.out.cell 0
  have q2 := HH4.out.frozen 0
  simp only [List.getElem?_toArray, List.getElem?_cons_zero] at q1
  obtain ⟨w5, hw5⟩ : ∃ w5, w5 = w4.setCell ⟨hb, 0, none⟩ (.int .i64 (hashK 2 a 0 0)) := ⟨_, rfl⟩
  have HK5 : Hid (Kept No w w5) := by rw [hw5]; exact HK4.out.setCell (p := ⟨hb, 0, none⟩) (fun h => by have : hb < w.heap.size := h; omega) _
  have HR5 : Hid (Box w5 (w.heap.size + 1) 4 #[.bool false]) := by rw [hw5]; exact HR4.out.kept ((Kept.refl (Only hb) w4).setCell (p := ⟨hb, 0, none⟩) (fun _ => rfl) _) (fun e => by have : w.heap.size + 1 = hb := e; omega)
  have HH5 : Hid (Box w5 hb 3 #[.int .i64 H]) := by rw [hw5, hHe]; exact HH4.out.set 0 _
  have h5 : w4.heap.size = w5.heap.size := by rw [hw5]; simp
  clear hw3 k0 k1 HK2 HB2 HR2 HK3 HB3 HR3 HH3 hk4 HK4 HR4 HH4 w3
  gi_wp2_with fail
  rw [← hw5]
  try rw [h5]
  rw [h5] at h4s
  clear hw5 h5 q1 q2
  gi_wp2_with fail
  rotate_left
  have hkb : (kd == 3) = false := by simpa using hk3
  have HH5 : Hid (Box w3 w2.heap.size 3 #[.int .i64 H]) := by rw [hHe, homeH, if_neg hk3]; exact HH3
  gi_wp2_with fail
  rw [← hw3]
  have h5 : w2.heap.size + 1 = w3.heap.size := by rw [hw3]; simp
  rw [h5]
  have h4s : w2.heap.size < w3.heap.size := by omega
  generalize w2.heap.size = hb at h2s HH5 h4s ⊢
  clear hw3 k0 k1 h5 hkb HK2 HB2 HR2 HB3 HH3
  obtain ⟨w5, hw5⟩ : ∃ w5, w5 = w3 := ⟨_, rfl⟩
  subst hw5
  have HK5 := HK3
  have HR5 := HR3
  clear HK3 HR3
  all_goals
    obtain ⟨w6, hw6⟩ : ∃ w6, w6 = (((w5.alloc (.cells #[.int .i64 (-1)] 3)).alloc (.cells #[.int .i64 (-1)] 3)).alloc (.cells #[.int .i64 (-1)] 3)).alloc (.cells #[.int .i64 (-1)] 3) := ⟨_, rfl⟩
    rw [← hw6]
    have HK56 : Hid (Kept No w5 w6) := by rw [hw6]; exact ((((Kept.refl No w5).alloc _).alloc _).alloc _).alloc _
    have HB8 : Hid (Box w6 w5.heap.size 3 #[.int .i64 (-1)]) := by rw [hw6]; exact (((Box.new _ _ _).alloc _).alloc _).alloc _
    have HB9 : Hid (Box w6 (w5.heap.size + 1) 3 #[.int .i64 (-1)]) := by
      have h1 : (w5.alloc (.cells #[.int .i64 (-1)] 3)).heap.size = w5.heap.size + 1 := by simp
      rw [hw6, ← h1]; exact ((Box.new _ _ _).alloc _).alloc _
    have HB10 : Hid (Box w6 (w5.heap.size + 1 + 1) 3 #[.int .i64 (-1)]) := by
      have h1 : ((w5.alloc (.cells #[.int .i64 (-1)] 3)).alloc (.cells #[.int .i64 (-1)] 3)).heap.size = w5.heap.size + 1 + 1 := by simp
      rw [hw6, ← h1]; exact (Box.new _ _ _).alloc _
    have HB11 : Hid (Box w6 (w5.heap.size + 1 + 1 + 1) 3 #[.int .i64 (-1)]) := by
      have h1 : (((w5.alloc (.cells #[.int .i64 (-1)] 3)).alloc (.cells #[.int .i64 (-1)] 3)).alloc (.cells #[.int .i64 (-1)] 3)).heap.size = w5.heap.size + 1 + 1 + 1 := by simp
      rw [hw6, ← h1]; exact Box.new _ _ _
    have HK6 : Hid (Kept No w w6) := HK5.out.then HK56.out
    have HR6 : Hid (Box w6 (w.heap.size + 1) 4 #[.bool false]) := HR5.out.kept HK56.out (fun e => e)
    have HH6 : Hid (Box w6 hb 3 #[.int .i64 H]) := HH5.out.kept HK56.out (fun e => e)
    clear hw6 HK56 HK5 HR5 HH5
    generalize w5.heap.size = b8 at h4s HB8 HB9 HB10 HB11 ⊢
    refine ⟨trivial, (callsIn_wide.2 (points_any r sa sn sc f p bu bl ro pg pc m ps w6 (HR.out.no HK6.out))).mono ?_⟩
    rintro e w7 ⟨rfl, hb7, hk7⟩
    have HS7 : Hid (Box w7 w6.heap.size 63 #[.slice (some ⟨pg, 0, none⟩) m pc]) := hb7
    have HK7 : Hid (Kept No w w7) := HK6.out.then hk7
    have h67 : b8 + 1 + 1 + 1 < w6.heap.size := HB11.out.lt
    have h7s : w6.heap.size < w7.heap.size := hb7.lt
    have b0 := HB8.out.kept hk7 (fun e => e)
    have b1 := HB9.out.kept hk7 (fun e => e)
    have b2 := HB10.out.kept hk7 (fun e => e)
    have b3 := HB11.out.kept hk7 (fun e => e)
    have bh := HH6.out.kept hk7 (fun e => e)
    have br := HR6.out.kept hk7 (fun e => e)
    clear hHe
    have HF7 : Hid (FS w7 b8 hb (w.heap.size + 1) H (-1) (-1) (-1)) := ⟨h4s, by omega, (b0.cell 0).trans rfl, (b1.cell 0).trans rfl, b1.frozen 0, (b2.cell 0).trans rfl, b2.frozen 0, (b3.cell 0).trans rfl, b3.frozen 0, (bh.cell 0).trans rfl, (br.cell 0).trans rfl, br.frozen 0⟩
    clear b0 b1 b2 b3 bh br hb7 hk7 HB8 HB9 HB10 HB11 HH6 HR6 HK6
    generalize w6.heap.size = sb at HS7 h67 h7s ⊢
    have hB7 : Below w.heap.size w w7 := HK7.out.below (Nat.le_refl _) (fun _ e => e.elim)
    have hws : w.heap.size ≤ w7.heap.size := HK7.out.size
    have hwb : w.heap.size ≤ b8 := by omega
    gi_wp2
    refine' wpIn_rangeFunc_ownG (F := Fence.wide) rfl (by omega) (gf := 29) (lb := #[.pointer (some ⟨sb, 0, none⟩)]) rfl trivial (enters_of Try.func29 (by kernel_rfl) rfl)
      (pts_stops Fence.wide (3 - 1) trivial rfl (by omega) sb w.heap.size pg pc m ps hm HL.out w7 hpg h7s hws ((HS7.out.cell 0).trans rfl) (HRc.out w7 HK7.out)) belowK_t (belowK_b hws) (Below.refl _ _) (fun _ => rfl)
      (fun pre W => FS W b8 hb (w.heap.size + 1) H (lastF pre) (leastF pre) (atF H pre) ∧ Below w.heap.size w W)
      (fun _ pre _ => Bad pre)
      (OwnFrom.and (Own.from (fun s A B row hs hg hr => ⟨hs.d1, hs.d2, cell_kept hs.c0 hg hr, cell_kept hs.c1 hg hr, (frozen_kept hs.c1 hg hr).trans hs.f1, cell_kept hs.c2 hg hr, (frozen_kept hs.c2 hg hr).trans hs.f2, cell_kept hs.c3 hg hr, (frozen_kept hs.c3 hg hr).trans hs.f3, cell_kept hs.ch hg hr, cell_kept hs.cr hg hr, (frozen_kept hs.cr hg hr).trans hs.fr⟩) _) (ownFrom_below (Nat.le_refl _) hws))
      (fun _ _ _ _ _ hs _ _ => hs)
      ⟨HF7.out, hB7⟩
      _ ?assign ?body ?done ?stop
    case assign =>
      intro l x W K hK
      gi_wp2
      exact hK
    case body =>
      rintro l pre x W ⟨hF, hB⟩ hlen
      have HF : Hid (FS W b8 hb (w.heap.size + 1) H (lastF pre) (leastF pre) (atF H pre)) := hF
      have HB : Hid (Below w.heap.size w W) := hB
      have HT : Hid ((x.1 < lastF pre ∨ x.1 < 0 ∨ 4294967296 ≤ x.1) → Bad (pre ++ [x])) := fun h => ⟨pre, x, rfl, h⟩
      have HA : Hid (lastF (pre ++ [x]) = x.1 ∧ leastF (pre ++ [x]) = (if leastF pre = -1 then x.2 else leastF pre) ∧ atF H (pre ++ [x]) = if atF H pre = -1 ∧ H ≤ x.1 then x.2 else atF H pre) := ⟨lastF_app _ _, leastF_app _ _, atF_app _ _ _⟩
      clear hF hB hlen
      generalize lastF pre = la at HF HT
      generalize leastF pre = le at HF HA
      generalize atF H pre = tt at HF HA
      obtain ⟨x1, x2⟩ := x
      simp only at HT HA ⊢
      obtain ⟨_, _, e0, e1, g1, e2, g2, e3, g3, eh, er, gr⟩ := HF.out
      by_cases t1 : x1 < la
      · have HX : Hid (Bad (pre ++ [(x1, x2)])) := HT.out (.inl t1)
        gi_wp2
        exact ⟨k1.from _, HX.out⟩
      · by_cases t2 : x1 < 0
        · have HX : Hid (Bad (pre ++ [(x1, x2)])) := HT.out (.inr (.inl t2))
          gi_wp2
          exact ⟨k1.from _, HX.out⟩
        · by_cases t3 : 4294967296 ≤ x1
          · have HX : Hid (Bad (pre ++ [(x1, x2)])) := HT.out (.inr (.inr t3))
            gi_wp2
            exact ⟨k1.from _, HX.out⟩
          · have HF3 : Hid (FS (W.setCell ⟨b8 + 1 + 1 + 1, 0, none⟩ (.int .i64 x1)) b8 hb (w.heap.size + 1) H x1 le tt) := HF.out.set3 x1
            obtain ⟨_, _, e0', e1', g1', e2', g2', e3', g3', eh', er', gr'⟩ := HF3.out
            by_cases t4 : le = -1
            · have HF2 : Hid (FS ((W.setCell ⟨b8 + 1 + 1 + 1, 0, none⟩ (.int .i64 x1)).setCell ⟨b8 + 1 + 1, 0, none⟩ (.int .i64 x2)) b8 hb (w.heap.size + 1) H x1 x2 tt) := HF3.out.set2 x2
              obtain ⟨_, _, e0'', e1'', g1'', e2'', g2'', e3'', g3'', eh'', er'', gr''⟩ := HF2.out
              subst t4
              by_cases t5 : tt = -1
              · subst t5
                by_cases t6 : H ≤ x1
                · have A1 : Hid _ := HA.out.1
                  have A2 : Hid _ := HA.out.2.1.trans (if_pos rfl)
                  have A3 : Hid _ := HA.out.2.2.trans (if_pos ⟨rfl, t6⟩)
                  clear HA HT HF3
                  gi_wp2
                  exact ⟨((k1.trans k1).trans k1).from _, (bset (bset (bset (Below.refl w.heap.size W) (g := b8 + 1 + 1 + 1) (by omega)) (g := b8 + 1 + 1) (by omega)) (g := b8 + 1) (by omega)), (((HF.out.set3 x1).set2 x2).set1 x2).to A1.out A2.out A3.out, (bset (bset (bset HB.out (g := b8 + 1 + 1 + 1) (by omega)) (g := b8 + 1 + 1) (by omega)) (g := b8 + 1) (by omega))⟩
                · have A1 : Hid _ := HA.out.1
                  have A2 : Hid _ := HA.out.2.1.trans (if_pos rfl)
                  have A3 : Hid _ := HA.out.2.2.trans (if_neg (fun h => t6 h.2))
                  clear HA HT HF3
                  gi_wp2
                  exact ⟨(k1.trans k1).from _, (bset (bset (Below.refl w.heap.size W) (g := b8 + 1 + 1 + 1) (by omega)) (g := b8 + 1 + 1) (by omega)), ((HF.out.set3 x1).set2 x2).to A1.out A2.out A3.out, (bset (bset HB.out (g := b8 + 1 + 1 + 1) (by omega)) (g := b8 + 1 + 1) (by omega))⟩
              · have t5' : (tt == -1) = false := by simpa using t5
                have A1 : Hid _ := HA.out.1
                have A2 : Hid _ := HA.out.2.1.trans (if_pos rfl)
                have A3 : Hid _ := HA.out.2.2.trans (if_neg (fun h => t5 h.1))
                clear HA HT HF3
                gi_wp2
                exact ⟨(k1.trans k1).from _, (bset (bset (Below.refl w.heap.size W) (g := b8 + 1 + 1 + 1) (by omega)) (g := b8 + 1 + 1) (by omega)), ((HF.out.set3 x1).set2 x2).to A1.out A2.out A3.out, (bset (bset HB.out (g := b8 + 1 + 1 + 1) (by omega)) (g := b8 + 1 + 1) (by omega))⟩
            · have t4' : (le == -1) = false := by simpa using t4
              by_cases t5 : tt = -1
              · subst t5
                by_cases t6 : H ≤ x1
                · have A1 : Hid _ := HA.out.1
                  have A2 : Hid _ := HA.out.2.1.trans (if_neg t4)
                  have A3 : Hid _ := HA.out.2.2.trans (if_pos ⟨rfl, t6⟩)
                  clear HA HT HF3
                  gi_wp2
                  exact ⟨(k1.trans k1).from _, (bset (bset (Below.refl w.heap.size W) (g := b8 + 1 + 1 + 1) (by omega)) (g := b8 + 1) (by omega)), ((HF.out.set3 x1).set1 x2).to A1.out A2.out A3.out, (bset (bset HB.out (g := b8 + 1 + 1 + 1) (by omega)) (g := b8 + 1) (by omega))⟩
                · have A1 : Hid _ := HA.out.1
                  have A2 : Hid _ := HA.out.2.1.trans (if_neg t4)
                  have A3 : Hid _ := HA.out.2.2.trans (if_neg (fun h => t6 h.2))
                  clear HA HT HF3
                  gi_wp2
                  exact ⟨k1.from _, (bset (Below.refl w.heap.size W) (g := b8 + 1 + 1 + 1) (by omega)), (HF.out.set3 x1).to A1.out A2.out A3.out, (bset HB.out (g := b8 + 1 + 1 + 1) (by omega))⟩
              · have t5' : (tt == -1) = false := by simpa using t5
                have A1 : Hid _ := HA.out.1
                have A2 : Hid _ := HA.out.2.1.trans (if_neg t4)
                have A3 : Hid _ := HA.out.2.2.trans (if_neg (fun h => t5 h.1))
                clear HA HT HF3
                gi_wp2
                exact ⟨k1.from _, (bset (Below.refl w.heap.size W) (g := b8 + 1 + 1 + 1) (by omega)), (HF.out.set3 x1).to A1.out A2.out A3.out, (bset HB.out (g := b8 + 1 + 1 + 1) (by omega))⟩
    case done =>
      rintro D ys W hD rfl ⟨hF, hB⟩ hK
      have HE1 := HE.out.1
      have HE2 := HE.out.2
      generalize atF H ys = tt at hF HE1 HE2
      generalize leastF ys = le at hF HE1
      have HF : Hid _ := hF
      have HKd : Hid _ := hK
      obtain ⟨_, _, e0, e1, g1, e2, g2, e3, g3, eh, er, gr⟩ := hF
      by_cases t5 : tt = -1
      · have hle := HE1 t5
        subst t5
        subst hle
        clear HE1 HE2
        have hF1 := HF.out.set1 le
        obtain ⟨_, _, e0', e1', g1', e2', g2', e3', g3', eh', er', gr'⟩ := hF1
        gi_wp2
        have hK' := ((KeepsOthers.setCell W ⟨b8 + 1, 0, none⟩ (.int .i64 le)).trans (KeepsOthers.setCell _ ⟨w.heap.size + 1, 0, none⟩ (.bool true))).same D _ HKd.out rfl
        have hcc : ((W.setCell ⟨b8 + 1, 0, none⟩ (.int .i64 le)).setCell ⟨w.heap.size + 1, 0, none⟩ (.bool true)).cell? ⟨w.heap.size + 1, 0, none⟩ = some (.bool true) := cell_self er'
        refine ⟨by simp, .inl ⟨_, _, rfl, run_takeDeferred hK', ?_⟩⟩
        have hc5 := cell_kept hcc (grownBy_putObj' _ D (.deferred none)) (fun r e => by cases e; exact ⟨_, hK', rfl⟩)
        have hBd : Below w.heap.size w ((W.setCell ⟨b8 + 1, 0, none⟩ (.int .i64 le)).setCell ⟨w.heap.size + 1, 0, none⟩ (.bool true)) := bset (bset hB (by omega)) (by omega)
        refine ⟨.bool true, ?_, rfl, hBd.trans (belowK_b (w := w) (Nat.le_refl _) _ D _ _ (by omega) hK' rfl rfl)⟩
        simp [results, Try.results15, go_sem, hc5]
      · have hle := HE2 t5
        subst hle
        have t5' : (tt == -1) = false := by simpa using t5
        clear HE1 HE2
        gi_wp2
        have hK' := (KeepsOthers.setCell W ⟨w.heap.size + 1, 0, none⟩ (.bool true)).same D _ HKd.out rfl
        have hcc : (W.setCell ⟨w.heap.size + 1, 0, none⟩ (.bool true)).cell? ⟨w.heap.size + 1, 0, none⟩ = some (.bool true) := cell_self er
        refine ⟨by simp, .inl ⟨_, _, rfl, run_takeDeferred hK', ?_⟩⟩
        have hc5 := cell_kept hcc (grownBy_putObj' _ D (.deferred none)) (fun r e => by cases e; exact ⟨_, hK', rfl⟩)
        have hBd : Below w.heap.size w (W.setCell ⟨w.heap.size + 1, 0, none⟩ (.bool true)) := bset hB (by omega)
        refine ⟨.bool true, ?_, rfl, hBd.trans (belowK_b (w := w) (Nat.le_refl _) _ D _ _ (by omega) hK' rfl rfl)⟩
        simp [results, Try.results15, go_sem, hc5]
    case stop =>
      rintro D c pre W hD hpre ⟨ini, x, rfl, h⟩ _
      exact absurd h (HNb.out ini x hpre)

end Go.Proofs.Ytpapbleabjpbfab
