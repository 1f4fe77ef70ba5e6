import Derived.Test.YtnhjpghkmbgeaaaRj
import Derived.Test.YtnhjpghkmbgeaaaWWrites
namespace Go.Proofs.Ytnhjpghkmbgeaaa
open Go.RowKit
set_option linter.unusedVariables false
namespace wireBack
open wireWrites (tot_le sl_lt)

/-- It may be put. -/
def ItR (x : Item) : Prop := (1 ≤ x.k ∧ x.k ≤ 4) ∧ (x.k = 1 → 0 ≤ x.n)

def flat (xs : List Item) : List Int := xs.flatMap putOf
theorem allOf_flat (xs : List Item) (h : ∀ x ∈ xs, ItR x) : allOf xs = some (flat xs) := by
  suffices H : ∀ (xs : List Item) (zs : List Int), (∀ x ∈ xs, ItR x) → xs.foldl putIt (some zs) = some (zs ++ flat xs) by
    have := H xs [] h; simpa [allOf] using this
  intro xs
  induction xs with
  | nil => intro zs _; simp [flat]
  | cons x r ih =>
    intro zs h
    rw [List.foldl_cons, putIt_some zs (h x (List.mem_cons_self ..)).2, ih _ (fun y hy => h y (List.mem_cons_of_mem _ hy))]
    simp [flat]

theorem putOf_pos (x : Item) : 0 < (putOf x).length := by
  have h : ∀ u, 0 < (vint u).length := by
    intro u; by_cases h : u < 128
    · rw [vint_lo h]; simp
    · rw [vint_hi h]; simp
  unfold putOf
  split
  · exact h _
  · split
    · exact h _
    · rw [List.length_append]; have := h x.zs.length; omega

theorem putOf_u8 {w : World} {x : Item} (h : ItOk w x) : U8 (putOf x) := by
  unfold putOf
  split
  · exact vint_u8 _
  · split
    · exact vint_u8 _
    · exact (vint_u8 _).append h.sl.u8

theorem flat_u8 {w : World} (xs : List Item) (h : ∀ x ∈ xs, ItOk w x) : U8 (flat xs) := by
  induction xs with
  | nil => exact U8.nil
  | cons x r ih =>
    have : flat (x :: r) = putOf x ++ flat r := by simp [flat]
    rw [this]
    exact (putOf_u8 (h x (List.mem_cons_self ..))).append (ih (fun y hy => h y (List.mem_cons_of_mem _ hy)))

theorem flat_len {w : World} (xs : List Item) (h : ∀ x ∈ xs, ItOk w x) : (flat xs).length ≤ tot xs := by
  induction xs with
  | nil => simp [flat]
  | cons x r ih =>
    have e : flat (x :: r) = putOf x ++ flat r := by simp [flat]
    have h1 := putOf_len (h x (List.mem_cons_self ..))
    have h2 := ih (fun y hy => h y (List.mem_cons_of_mem _ hy))
    have h3 : tot (x :: r) = (10 + x.m) + tot r := by simp [tot]
    rw [e, List.length_append]; omega

/-- What was put is read by the same call. -/
theorem readS_put {w : World} {x : Item} (hr : ItR x) (hx : ItOk w x) (rest : List Int) (at_ : Nat) :
    readS (.ok (putOf x ++ rest) at_) x.k = (.ok rest (at_ + (putOf x).length), (if x.k ≤ 2 then x.n else 0), (if x.k ≤ 2 then [] else x.zs)) := by
  have hlo := hx.lo; have hhi := hx.hi; have hl := hx.sl.len; have hbd := hx.sl.bd
  by_cases h1 : x.k = 1
  · have hn := hr.2 h1
    have hp : putOf x = vint x.n.toNat := by unfold putOf; rw [if_pos h1]
    unfold readS
    rw [if_pos h1, if_pos (by omega), if_pos (by omega), hp]
    simp only [numS]
    rw [nr_vint x.n.toNat rest (by omega)]
    simp only [List.drop_left]
    rw [Int.toNat_of_nonneg hn]
  · by_cases h2 : x.k = 2
    · have hp : putOf x = vint (zz x.n) := by unfold putOf; rw [if_neg h1, if_pos h2]
      unfold readS
      rw [if_neg h1, if_pos h2, if_pos (by omega), if_pos (by omega), hp]
      simp only [intS]
      rw [vr_vint (zz x.n) rest (zz_64 _ hlo hhi)]
      simp only [List.drop_left, unzz_zz]
    · have hk := hr.1
      have hp : putOf x = vint x.zs.length ++ x.zs := by unfold putOf; rw [if_neg h1, if_neg h2]
      unfold readS
      rw [if_neg h1, if_neg h2, if_neg (by omega), if_neg (by omega), hp]
      simp only [bytesS]
      rw [cr_vint x.zs rest (by omega)]
      simp only
      have e1 : (vint x.zs.length ++ x.zs ++ rest).drop ((vint x.zs.length).length + x.zs.length) = rest := by
        rw [← List.length_append, List.drop_left]
      have e2 : ((vint x.zs.length ++ x.zs ++ rest).drop (vint x.zs.length).length).take x.zs.length = x.zs := by
        rw [List.append_assoc, List.drop_left, List.take_left]
      rw [e1, e2, List.length_append]

/-- What the Writer and the list hold. -/
def Has (w wr : World) (i : Nat) (na : Option Addr) (nn nc : Nat) (a : Option Addr) (c : Nat) (xs : List Item) : Prop :=
  Ws wr w.heap.size w.heap.size a c (allOf xs) ∧ OwnI wr w.heap.size na nc xs ∧ xs.length = nn ∧ nn ≤ i ∧ (∀ x ∈ xs, ItOk w x ∧ x.m ≤ 65536) ∧ ∀ x ∈ xs, ItR x

/-- At the head of a round of puts. -/
structure Inv (w wr : World) (i : Nat) (na : Option Addr) (nn nc : Nat) : Prop where
  ex : ∃ a c xs, Has w wr i na nn nc a c xs
  kept : Kept No w wr

theorem Inv.step {w wr w2 : World} {k nn nc : Nat} {na : Option Addr} (h : Inv w wr k na nn nc) (hK : Kept No wr w2) : Inv w w2 (k + 1) na nn nc := by
  obtain ⟨⟨a, c, ys, hW, hI, hl, hle, hok, hr⟩, hk⟩ := h
  exact ⟨⟨a, c, ys, hW.no hK, hI.no hK, hl, by omega, hok, hr⟩, hk.then hK⟩

theorem Inv.same {w wr w2 : World} {k nn nc : Nat} {na : Option Addr} (h : Inv w wr k na nn nc) (hK : Kept No wr w2) : Inv w w2 k na nn nc := by
  obtain ⟨⟨a, c, ys, hW, hI, hl, hle, hok, hr⟩, hk⟩ := h
  exact ⟨⟨a, c, ys, hW.no hK, hI.no hK, hl, hle, hok, hr⟩, hk.then hK⟩

theorem Inv.put {w wr w1 w2 w3 w4 : World} {k nn nc : Nat} {na a' : Option Addr} {c' : Nat} {x : Item} {a a2 : Option Addr} {c c2 : Nat} {ys : List Item} (hk : Kept No w wr) (hWs : Ws wr w.heap.size w.heap.size a c (allOf ys)) (hI : OwnI wr w.heap.size na nc ys) (hl : ys.length = nn) (hle : nn ≤ k) (hok : ∀ x ∈ ys, ItOk w x ∧ x.m ≤ 65536) (hir : ∀ x ∈ ys, ItR x)
    (hx : ItOk w x) (hxm : x.m ≤ 65536) (hxr : ItR x) (h1 : Kept No wr w1) (hw2 : Ws w2 w.heap.size w.heap.size a2 c2 (putIt (allOf ys) x)) (hk2 : Kept (WrAt w.heap.size a) w1 w2) (h3 : Kept No w2 w3)
    (ho4 : OwnI w4 w.heap.size a' c' (ys ++ [x])) (hk4 : Kept (At na) w3 w4) (hI3 : OwnI w3 w.heap.size na nc ys) : Inv w w4 (k + 1) a' (nn + 1) c' := by
  refine ⟨⟨a2, c2, ys ++ [x], ?_, ho4, by simp [hl], by omega, ?_, ?_⟩, ?_⟩
  · rw [allOf_app]
    exact (hw2.no h3).kept hk4 (fun i hi e => OwnI.apart (hw2.no h3) hI3 hi e)
  · intro y hy
    rcases List.mem_append.1 hy with h | h
    · exact hok y h
    · simp at h; subst h; exact ⟨hx, hxm⟩
  · intro y hy
    rcases List.mem_append.1 hy with h | h
    · exact hir y h
    · simp at h; subst h; exact hxr
  · refine Kept.fresh (((hk.then h1).fresh hk2 (fun i e => hWs.base e)).then h3) hk4 (fun i e => ?_)
    exact own_at hI e

theorem flat_drop (ys : List Item) (j : Nat) (x : Item) (h : ys[j]? = some x) : flat (ys.drop j) = putOf x ++ flat (ys.drop (j + 1)) := by
  obtain ⟨hj, rfl⟩ := List.getElem?_eq_some_iff.1 h
  unfold flat; rw [List.drop_eq_getElem_cons hj, List.flatMap_cons]

/-- A Reader is no row of things. -/
theorem rs_apart {w : World} {g lb base : Nat} {st : RS} {na : Option Addr} {nc : Nat} {ys : List Item} (hr : Rs w g lb st) (hi : OwnI w base na nc ys) {k : Nat} (hk : At na k) : k ≠ g := by
  rintro rfl
  obtain ⟨cur, hc⟩ := own_type hi hk
  cases st with
  | ok zs at_ => obtain ⟨la, lc, h, _⟩ := hr; rw [h.cell] at hc; cases hc
  | bad p c => rw [hr.1] at hc; cases hc

set_option maxHeartbeats 4000000 in
theorem walk (la : Option Addr) (ln lc : Nat) (xs : List Item) (w : World) (hn : xs.length = ln) (hb : ln ≤ 140737488355328) (hx : Its w la xs) (hok : ∀ x ∈ xs, ItOk w x) :
    Calls Try.prog 7 #[.slice la ln lc] w fun e w' => e = .returned (.bool true) ∧ Below w.heap.size w w' := by
  have HX : Hid (Its w la xs) := hx
  have HO : Hid (∀ x ∈ xs, ItOk w x) := hok
  have HN : Hid (xs.length = ln) := hn
  clear hx hok hn
  go_enter Try.func7, Try.ntmps7
  go_wp2
  go_loopw [4, 5] (fun o i wr => ∃ k : Nat, ∃ na nn nc, k ≤ ln ∧ k ≤ 400 ∧ i = .int .i64 (k : Int) ∧ o = .slice na nn nc ∧ Hid (Inv w wr k na nn nc)) (fun _ i _ => ln - (intOf i).toNat)
  case atStart =>
    refine ⟨0, none, 0, 0, Nat.zero_le _, Nat.zero_le _, rfl, rfl, ⟨none, 0, [], ⟨?_, OwnS.nil _ _, Nat.le_refl _⟩, OwnI.nil _ _, rfl, Nat.le_refl _, fun x hx => by simp at hx, fun x hx => by simp at hx⟩, (Kept.refl _ _).alloc _⟩
    exact heap_new _ _
  case round =>
    obtain ⟨k, na, nn, nc, hk, hk4, rfl, rfl, HI⟩ := hrel
    by_cases hlt : k < ln ∧ k < 400
    · obtain ⟨hl1, hl2⟩ := hlt
      obtain ⟨x, hxk⟩ : ∃ x, xs[k]? = some x := ⟨xs[k]'(by rw [HN.out]; exact hl1), by rw [List.getElem?_eq_getElem]⟩
      have HIx0 : Hid (ItOk w x) := HO.out x (List.mem_of_getElem? hxk)
      obtain ⟨b, off, rfl, hc0, hc1, hc2⟩ := (HX.out.no HI.out.kept) k x hxk
      clear hxk
      have i1 : (k : Int) < (ln : Int) := by omega
      have i2 : (k : Int) < 400 := by omega
      obtain ⟨xk, xn, xa, xm, xc, zs⟩ := x
      simp only at hc0 hc1 hc2
      go_wp2_with fail
      refine (right_any xk xn xa xm xc wr HIx0.out.lo HIx0.out.hi).mono ?_
      rintro e w0 ⟨rfl, hK0⟩
      have hnb := rightN_bd xk xn HIx0.out.lo HIx0.out.hi
      have HIx : Hid (ItOk w ⟨rightK xk, rightN xk xn, xa, xm, xc, zs⟩) := ⟨HIx0.out.sl, hnb.1, hnb.2⟩
      have HRx : Hid (ItR ⟨rightK xk, rightN xk xn, xa, xm, xc, zs⟩) := ⟨rightK_bd xk, rightN_pos xk xn⟩
      have hkb := rightK_bd xk
      have HI0 : Hid (Inv w w0 k na nn nc) := HI.out.same hK0
      clear hK0 HI hc0 hc1 hc2 HIx0
      generalize rightK xk = rk at HIx HRx hkb
      generalize rightN xk xn = rn at HIx HRx hnb
      have HC : Hid (∀ W, Kept No (w0.alloc (Obj.cells #[.int .i64 rk, .int .i64 rn, .slice xa xm xc] 27)) W → W.cell? ⟨w0.heap.size, 0, none⟩ = some (.int .i64 rk) ∧ W.cell? ⟨w0.heap.size, 1, none⟩ = some (.int .i64 rn) ∧ W.cell? ⟨w0.heap.size, 2, none⟩ = some (.slice xa xm xc)) :=
        fun W h => ⟨h.cell (by simp) (fun e => e), h.cell (by simp) (fun e => e), h.cell (by simp) (fun e => e)⟩
      have HNB : Hid (-9223372036854775808 ≤ rn ∧ rn ≤ 9223372036854775807) := hnb
      have HKB : Hid (1 ≤ rk ∧ rk ≤ 4) := hkb
      clear hnb hkb
      by_cases hm : 65536 < (xm : Int)
      · have HI2 : Hid (Inv w (w0.alloc (Obj.cells #[.int .i64 rk, .int .i64 rn, .slice xa xm xc] 27)) (k + 1) na nn nc) := by
          obtain ⟨⟨a, c, ys, hW, hI, hl, hle, hok, hr⟩, hk⟩ := HI0.out
          exact ⟨⟨a, c, ys, hW.no ((Kept.refl _ _).alloc _), hI.no ((Kept.refl _ _).alloc _), hl, by omega, hok, hr⟩, hk.alloc _⟩
        clear HI0
        go_wp2
        go_roundw
        case rel => exact ⟨k + 1, na, nn, nc, by omega, by omega, by go_num, rfl, HI2⟩
        case measure => simp [intOf]; omega
      obtain ⟨⟨a, c, ys, hWs, hI, hl, hle, hok, hir⟩, hkp⟩ := HI0.out
      have HWs : Hid (Ws w0 w.heap.size w.heap.size a c (allOf ys)) := hWs
      have HOI : Hid (OwnI w0 w.heap.size na nc ys) := hI
      have HL : Hid (ys.length = nn) := hl
      have HLE : Hid (nn ≤ k) := hle
      have HLK : Hid (nn ≤ k) := hle
      have HOK : Hid (∀ x ∈ ys, ItOk w x ∧ x.m ≤ 65536) := hok
      have HIR : Hid (∀ x ∈ ys, ItR x) := hir
      have HKP : Hid (Kept No w w0) := hkp
      have HT : Hid (stLen (allOf ys) ≤ 30000000) := by
        have e1 := allOf_len ys (fun x hx => (hok x hx).1)
        have e2 := tot_le ys hok
        rw [hl] at e2
        have e3 : nn * 65546 ≤ 401 * 65546 := Nat.mul_le_mul_right _ (by omega)
        show _ ≤ _; omega
      have HKL : Hid (k < ln) := hl1
      clear hWs hI hl hok hkp hir hle HI0 i1 i2 hl1 hk
      go_wp2_with fail
      refine (put_any w.heap.size w.heap.size a c (allOf ys) rk rn xa xm xc zs _ (HWs.out.no ((Kept.refl _ _).alloc _)) ((HIx.out.no HKP.out).no ((Kept.refl _ _).alloc _)).sl HNB.out.1 HNB.out.2 (fun h0 k hk e => by have e1 := sl_lt HIx.out.sl h0 hk; have e2 := HWs.out.base e; omega) HKB.out (by have := HT.out; omega) (by have := HKP.out.size; simp; omega)).mono ?_
      rintro e w2 ⟨rfl, a2, c2, hw2, hk2, hm2⟩
      have cA : w2.cell? ⟨w0.heap.size, 0, none⟩ = some (.int .i64 rk) := hk2.cell (HC.out _ (Kept.refl _ _)).1 (fun e => by have := HWs.out.lt e; simp at this)
      have cB : w2.cell? ⟨w0.heap.size, 1, none⟩ = some (.int .i64 rn) := hk2.cell (HC.out _ (Kept.refl _ _)).2.1 (fun e => by have := HWs.out.lt e; simp at this)
      have cC : w2.cell? ⟨w0.heap.size, 2, none⟩ = some (.slice xa xm xc) := hk2.cell (HC.out _ (Kept.refl _ _)).2.2 (fun e => by have := HWs.out.lt e; simp at this)
      have HW2 : Hid (Ws w2 w.heap.size w.heap.size a2 c2 (putIt (allOf ys) ⟨rk, rn, xa, xm, xc, zs⟩)) := hw2
      have HK2 : Hid (Kept (WrAt w.heap.size a) (w0.alloc (Obj.cells #[.int .i64 rk, .int .i64 rn, .slice xa xm xc] 27)) w2) := hk2
      have HO2 : Hid (OwnI w2 w.heap.size na nc ys) := (HOI.out.no ((Kept.refl _ _).alloc _)).kept hk2 (fun i hi e => OwnI.apart HWs.out HOI.out e hi)
      have HB2 : Hid (w.heap.size ≤ w2.heap.size) := by have e1 := HKP.out.size; have e2 := hk2.size; simp at e2; show _ ≤ _; omega
      clear hw2 hk2 hm2 HC
      go_wp2_with (at_builtin; go_must (refine wp_appI _ Try.underlying22 Try.info27 rfl _ _ rfl w.heap.size _ _ _ ys rfl HL.out (HO2.out.no ((Kept.refl _ _).alloc _)) w2.heap.size _ ⟨rk, rn, xa, xm, xc, zs⟩ rfl (by simp) (by simp) (by simp) (by have := HLE.out; omega) (by have := HB2.out; simp; omega) ?_; intro a4 c4 w4 HO4 HK4 HM4))
      have HI4 : Hid (Inv w w4 (k + 1) a4 (nn + 1) c4) := Inv.put HKP.out HWs.out HOI.out HL.out HLK.out HOK.out HIR.out HIx.out (by simp only; omega) HRx.out ((Kept.refl _ _).alloc _) HW2.out HK2.out ((Kept.refl _ _).alloc _) HO4.out HK4.out (HO2.out.no ((Kept.refl _ _).alloc _))
      go_roundw
      case rel => exact ⟨k + 1, a4, nn + 1, c4, by have := HKL.out; omega, by omega, by go_num, rfl, HI4⟩
      case measure => have := HKL.out; simp [intOf]; omega
    · obtain ⟨⟨a, c, ys, hWs, hI, hl, hle, hok, hir⟩, hkp⟩ := HI.out
      have HWs : Hid (Ws wr w.heap.size w.heap.size a c (allOf ys)) := hWs
      have HOI : Hid (OwnI wr w.heap.size na nc ys) := hI
      have HL : Hid (ys.length = nn) := hl
      have HOK : Hid (∀ x ∈ ys, ItOk w x ∧ x.m ≤ 65536) := hok
      have HIR : Hid (∀ x ∈ ys, ItR x) := hir
      have HKP : Hid (Kept No w wr) := hkp
      have HFL : Hid ((flat ys).length ≤ 30000000) := by
        have e1 := flat_len ys (fun x hx => (hok x hx).1)
        have e2 := tot_le ys hok
        rw [hl] at e2
        have e3 : nn * 65546 ≤ 400 * 65546 := Nat.mul_le_mul_right _ (by omega)
        show _ ≤ _; omega
      have hnn : nn ≤ 400 := by omega
      have hd := Done_all w.heap.size w.heap.size a c (allOf ys) wr hWs (by rw [allOf_flat ys hir]; have := HFL.out; simp only [stLen]; omega)
      rw [allOf_flat ys hir] at hd
      simp only [doneOf] at hd
      clear hWs hI hl hok hkp hir hle HI
      by_cases hl1 : k < ln
      · have i1 : (k : Int) < (ln : Int) := by omega
        have i2 : ¬ (k : Int) < 400 := by omega
        clear hlt
        go_wp2_with fail
        refine hd.mono ?_
        rintro e w1 ⟨a1, n1, c1, rfl, hn1, hO1, hK1⟩
        have hF8 : U8 (flat ys) := flat_u8 ys (fun x hx => (HOK.out x hx).1)
        have HS1 : Hid (Sl w1 a1 n1 c1 (flat ys)) := hO1.sl hn1.symm hF8 (by rw [hn1]; have := HFL.out; omega)
        have HK1 : Hid (Kept No w w1) := HKP.out.then hK1
        have HI1 : Hid (OwnI w1 w.heap.size na nc ys) := HOI.out.no hK1
        clear hn1 hO1 hK1 hF8 hd
        go_wp2_with fail
        refine (Read_any a1 n1 c1 (flat ys) w1 HS1.out).mono ?_
        rintro e w2 ⟨g, lb, rfl, hg, hlb, hr, hK2, hgl, hlbl⟩
        have HG : Hid (w1.heap.size ≤ g ∧ w1.heap.size ≤ lb) := ⟨hg, hlb⟩
        have HR2 : Hid (Rs w2 g lb (.ok (flat (ys.drop 0)) 0)) := hr
        have HK2 : Hid (Kept No w w2) := HK1.out.then hK2
        have HI2 : Hid (OwnI w2 w.heap.size na nc ys) := HI1.out.no hK2
        have HLB : Hid (lb < w2.heap.size) := hlbl
        have HGB : Hid (w.heap.size ≤ g) := by have := HK1.out.size; show _ ≤ _; omega
        clear hg hlb hr hK2 hgl hlbl HS1 HI1
        go_wp2
        go_loopw [10] (fun i wr => ∃ j : Nat, j ≤ nn ∧ i = .int .i64 (j : Int) ∧ Hid (∃ at_, Rs wr g lb (.ok (flat (ys.drop j)) at_)) ∧ Hid (OwnI wr w.heap.size na nc ys) ∧ Hid (Kept No w wr) ∧ Hid (lb < wr.heap.size)) (fun i _ => nn - (intOf i).toNat)
        case atStart => exact ⟨0, Nat.zero_le _, rfl, ⟨0, HR2.out⟩, HI2, HK2, HLB⟩
        case round =>
          obtain ⟨j, hj, rfl, HRq, HIq, HKq, HLq⟩ := hrel
          clear HR2 HI2 HK2 HLB HWs HOI HKP HFL HK1 HG
          by_cases hjn : j < nn
          · have i3 : (j : Int) < (nn : Int) := by omega
            obtain ⟨x, hxj⟩ : ∃ x, ys[j]? = some x := ⟨ys[j]'(by rw [HL.out]; exact hjn), by rw [List.getElem?_eq_getElem]⟩
            have hmem := List.mem_of_getElem? hxj
            have HIx : Hid (ItOk w x) := (HOK.out x hmem).1
            have HRx : Hid (ItR x) := HIR.out x hmem
            obtain ⟨at_, hrq⟩ := HRq.out
            rw [flat_drop ys j x hxj] at hrq
            have HRq1 : Hid (Rs wr g lb (.ok (putOf x ++ flat (ys.drop (j + 1))) at_)) := hrq
            have HM : Hid (moreS (.ok (putOf x ++ flat (ys.drop (j + 1))) at_) = true) := by
              show decide (0 < (putOf x ++ flat (ys.drop (j + 1))).length) = true
              have := putOf_pos x
              rw [List.length_append]; exact decide_eq_true (by omega)
            obtain ⟨nb, off, hna, d0, d1, d2⟩ := HIq.out.its j x hxj
            subst hna
            clear hrq hmem HRq
            go_wp2_with fail
            have hmr := More_all g lb _ wr HRq1.out
            rw [HM.out] at hmr
            refine hmr.mono ?_
            rintro e w3 ⟨rfl, rfl⟩
            clear hmr
            go_wp2_with fail
            refine (read_all g lb _ x.k w3 HRq1.out HLq.out HRx.out.1).mono ?_
            rintro e w4 ⟨a4, m4, c4, rfl, hs4, ha4, hr4, hk4'⟩
            rw [readS_put HRx.out HIx.out] at hs4 hr4 ⊢
            simp only at hs4 hr4 ⊢
            have hng : nb ≠ g := rs_apart HRq1.out HIq.out ⟨_, rfl, rfl⟩
            have q0 : w4.cell? ⟨nb, off + j * 3, none⟩ = some (.int .i64 x.k) := hk4'.cell d0 hng
            have q1 : w4.cell? ⟨nb, off + j * 3 + 1, none⟩ = some (.int .i64 x.n) := hk4'.cell d1 hng
            have q2 : w4.cell? ⟨nb, off + j * 3 + 2, none⟩ = some (.slice x.a x.m x.c) := hk4'.cell d2 hng
            have hnb4 : nb < w4.heap.size := World.block_lt_of_cell? w4 _ q0
            have HK4 : Hid (Kept No w w4) := HKq.out.fresh hk4' (fun i e => by have e' : i = g := e; have := HGB.out; omega)
            have HI4 : Hid (OwnI w4 w.heap.size (some ⟨nb, off, none⟩) nc ys) := HIq.out.kept hk4' (fun i hi e => rs_apart HRq1.out HIq.out hi e)
            have HL4 : Hid (lb < w4.heap.size) := by have e1 := hk4'.size; have e2 := HLq.out; show _ < _; omega
            have HR4 : Hid (Rs w4 g lb (.ok (flat (ys.drop (j + 1))) (at_ + (putOf x).length))) := hr4
            have HS4 : Hid (Sl w4 a4 m4 c4 (if x.k ≤ 2 then [] else x.zs)) := hs4
            clear hr4 hs4 ha4 hk4' d0 d1 d2 HRq1 HIq HKq HLq HM
            by_cases hk2 : x.k ≤ 2
            · have t1 : decide (x.k ≤ 2) = true := decide_eq_true hk2
              have t2 : decide (2 < x.k) = false := decide_eq_false (by omega)
              rw [if_pos hk2]
              clear hk2
              go_wp2
              obtain ⟨w5, hw5⟩ : ∃ w5, w5 = w4.alloc (Obj.cells #[.int .i64 x.k, .int .i64 x.n, .slice a4 m4 c4] 27) := ⟨_, rfl⟩
              have r0 : w5.cell? ⟨nb, off + j * 3, none⟩ = some (.int .i64 x.k) := by rw [hw5]; exact ((Kept.refl No w4).alloc _).cell q0 (fun e => e)
              have r1 : w5.cell? ⟨nb, off + j * 3 + 1, none⟩ = some (.int .i64 x.n) := by rw [hw5]; exact ((Kept.refl No w4).alloc _).cell q1 (fun e => e)
              have r2 : w5.cell? ⟨nb, off + j * 3 + 2, none⟩ = some (.slice x.a x.m x.c) := by rw [hw5]; exact ((Kept.refl No w4).alloc _).cell q2 (fun e => e)
              have x0 : w5.cell? ⟨w4.heap.size, 0, none⟩ = some (.int .i64 x.k) := by rw [hw5]; simp
              have x1 : w5.cell? ⟨w4.heap.size, 1, none⟩ = some (.int .i64 x.n) := by rw [hw5]; simp
              have x2 : w5.cell? ⟨w4.heap.size, 2, none⟩ = some (.slice a4 m4 c4) := by rw [hw5]; simp
              have HP : Hid (∀ q, (∃ at_, Rs (w5.drewN q) g lb (.ok (flat (ys.drop (j + 1))) at_)) ∧ OwnI (w5.drewN q) w.heap.size (some ⟨nb, off, none⟩) nc ys ∧ Kept No w (w5.drewN q) ∧ lb < (w5.drewN q).heap.size) := by
                rw [hw5]
                intro q
                have hq := ((Kept.refl No w4).alloc (Obj.cells #[.int .i64 x.k, .int .i64 x.n, .slice a4 m4 c4] 27)).drewN q
                exact ⟨⟨_, HR4.out.no hq⟩, HI4.out.no hq, HK4.out.then hq, by have e1 := hq.size; have e2 := HL4.out; omega⟩
              rw [← hw5]
              clear hw5 q0 q1 q2 HR4 HI4 HK4 HL4 HS4 hnb4
              go_quiet (fail)
              go_wp2
              go_roundw
              case rel => exact ⟨j + 1, by omega, by go_num, (HP.out _).1, (HP.out _).2.1, (HP.out _).2.2.1, (HP.out _).2.2.2⟩
              case measure => simp [intOf]; omega
            · have t1 : decide (x.k ≤ 2) = false := decide_eq_false hk2
              have t2 : decide (2 < x.k) = true := decide_eq_true (by omega)
              rw [if_neg hk2]
              rw [if_neg hk2] at HS4
              clear hk2
              go_wp2
              obtain ⟨w5, hw5⟩ : ∃ w5, w5 = w4.alloc (Obj.cells #[.int .i64 x.k, .int .i64 0, .slice a4 m4 c4] 27) := ⟨_, rfl⟩
              have r0 : w5.cell? ⟨nb, off + j * 3, none⟩ = some (.int .i64 x.k) := by rw [hw5]; exact ((Kept.refl No w4).alloc _).cell q0 (fun e => e)
              have r1 : w5.cell? ⟨nb, off + j * 3 + 1, none⟩ = some (.int .i64 x.n) := by rw [hw5]; exact ((Kept.refl No w4).alloc _).cell q1 (fun e => e)
              have r2 : w5.cell? ⟨nb, off + j * 3 + 2, none⟩ = some (.slice x.a x.m x.c) := by rw [hw5]; exact ((Kept.refl No w4).alloc _).cell q2 (fun e => e)
              have x0 : w5.cell? ⟨w4.heap.size, 0, none⟩ = some (.int .i64 x.k) := by rw [hw5]; simp
              have x1 : w5.cell? ⟨w4.heap.size, 1, none⟩ = some (.int .i64 0) := by rw [hw5]; simp
              have x2 : w5.cell? ⟨w4.heap.size, 2, none⟩ = some (.slice a4 m4 c4) := by rw [hw5]; simp
              have HP : Hid (∀ q, (∃ at_, Rs (w5.drewN q) g lb (.ok (flat (ys.drop (j + 1))) at_)) ∧ OwnI (w5.drewN q) w.heap.size (some ⟨nb, off, none⟩) nc ys ∧ Kept No w (w5.drewN q) ∧ lb < (w5.drewN q).heap.size) := by
                rw [hw5]
                intro q
                have hq := ((Kept.refl No w4).alloc (Obj.cells #[.int .i64 x.k, .int .i64 0, .slice a4 m4 c4] 27)).drewN q
                exact ⟨⟨_, HR4.out.no hq⟩, HI4.out.no hq, HK4.out.then hq, by have e1 := hq.size; have e2 := HL4.out; omega⟩
              have HQ : Hid (∀ q, Calls Try.prog 18 #[.slice a4 m4 c4, .slice x.a x.m x.c] (w5.drewN q) fun e w' => e = .returned (.bool true) ∧ ∃ m, w' = (w5.drewN q).drewN m) := by
                intro q
                have hs5 : Sl (w5.drewN q) a4 m4 c4 x.zs := by rw [hw5]; exact HS4.out.no (((Kept.refl _ _).alloc _).drewN q)
                have hx5 := HIx.out.no (HP.out q).2.2.1
                have := sameN_any a4 x.a m4 x.m c4 x.c x.zs x.zs (w5.drewN q) hs5.len hx5.sl.len (by have := hs5.bd; omega) (by have := hx5.sl.bd; omega) hs5.bytes hx5.sl.bytes
                rw [eqB_refl] at this
                exact this
              rw [← hw5]
              clear hw5 q0 q1 q2 HR4 HI4 HK4 HL4 HS4 hnb4
              go_quiet ((go_at_call 18; exact Calls.quiet_of (HQ.out _)))
              go_wp2
              go_roundw
              case rel => exact ⟨j + 1, by omega, by go_num, (HP.out _).1, (HP.out _).2.1, (HP.out _).2.2.1, (HP.out _).2.2.2⟩
              case measure => simp [intOf]; omega
          · obtain ⟨at_, hrq⟩ := HRq.out
            have i3 : ¬ (j : Int) < (nn : Int) := by omega
            have e0 : flat (ys.drop j) = [] := by rw [List.drop_eq_nil_of_le (by rw [HL.out]; omega)]; rfl
            rw [e0] at hrq
            have HRf : Hid (Rs wr g lb (.ok [] at_)) := hrq
            clear hrq e0 HRq
            go_wp2_with fail
            refine (More_all g lb (.ok [] at_) wr HRf.out).mono ?_
            rintro e w6 ⟨rfl, rfl⟩
            go_wp2_with fail
            refine (End_all g lb (.ok [] at_) w6 HRf.out).mono ?_
            rintro e w7 ⟨rfl, hr7, hk7⟩
            have HR7 : Hid (Rs w7 g lb (.ok [] at_)) := hr7
            have HK7 : Hid (Kept No w w7) := HKq.out.fresh hk7 (fun i e => by have e' : i = g := e; have := HGB.out; omega)
            clear hr7 hk7
            go_wp2_with fail
            refine (Err_all g lb (.ok [] at_) w7 HR7.out).mono ?_
            rintro e w8 ⟨rfl, n8, rfl⟩
            go_wp2
            go_ret
            exact ⟨rfl, (HK7.out.drewN _).below (Nat.le_refl _) (fun _ e => e.elim)⟩
      · have i1 : ¬ (k : Int) < (ln : Int) := by omega
        clear hlt
        go_wp2_with fail
        refine hd.mono ?_
        rintro e w1 ⟨a1, n1, c1, rfl, hn1, hO1, hK1⟩
        have hF8 : U8 (flat ys) := flat_u8 ys (fun x hx => (HOK.out x hx).1)
        have HS1 : Hid (Sl w1 a1 n1 c1 (flat ys)) := hO1.sl hn1.symm hF8 (by rw [hn1]; have := HFL.out; omega)
        have HK1 : Hid (Kept No w w1) := HKP.out.then hK1
        have HI1 : Hid (OwnI w1 w.heap.size na nc ys) := HOI.out.no hK1
        clear hn1 hO1 hK1 hF8 hd
        go_wp2_with fail
        refine (Read_any a1 n1 c1 (flat ys) w1 HS1.out).mono ?_
        rintro e w2 ⟨g, lb, rfl, hg, hlb, hr, hK2, hgl, hlbl⟩
        have HG : Hid (w1.heap.size ≤ g ∧ w1.heap.size ≤ lb) := ⟨hg, hlb⟩
        have HR2 : Hid (Rs w2 g lb (.ok (flat (ys.drop 0)) 0)) := hr
        have HK2 : Hid (Kept No w w2) := HK1.out.then hK2
        have HI2 : Hid (OwnI w2 w.heap.size na nc ys) := HI1.out.no hK2
        have HLB : Hid (lb < w2.heap.size) := hlbl
        have HGB : Hid (w.heap.size ≤ g) := by have := HK1.out.size; show _ ≤ _; omega
        clear hg hlb hr hK2 hgl hlbl HS1 HI1
        go_wp2
        go_loopw [10] (fun i wr => ∃ j : Nat, j ≤ nn ∧ i = .int .i64 (j : Int) ∧ Hid (∃ at_, Rs wr g lb (.ok (flat (ys.drop j)) at_)) ∧ Hid (OwnI wr w.heap.size na nc ys) ∧ Hid (Kept No w wr) ∧ Hid (lb < wr.heap.size)) (fun i _ => nn - (intOf i).toNat)
        case atStart => exact ⟨0, Nat.zero_le _, rfl, ⟨0, HR2.out⟩, HI2, HK2, HLB⟩
        case round =>
          obtain ⟨j, hj, rfl, HRq, HIq, HKq, HLq⟩ := hrel
          clear HR2 HI2 HK2 HLB HWs HOI HKP HFL HK1 HG
          by_cases hjn : j < nn
          · have i3 : (j : Int) < (nn : Int) := by omega
            obtain ⟨x, hxj⟩ : ∃ x, ys[j]? = some x := ⟨ys[j]'(by rw [HL.out]; exact hjn), by rw [List.getElem?_eq_getElem]⟩
            have hmem := List.mem_of_getElem? hxj
            have HIx : Hid (ItOk w x) := (HOK.out x hmem).1
            have HRx : Hid (ItR x) := HIR.out x hmem
            obtain ⟨at_, hrq⟩ := HRq.out
            rw [flat_drop ys j x hxj] at hrq
            have HRq1 : Hid (Rs wr g lb (.ok (putOf x ++ flat (ys.drop (j + 1))) at_)) := hrq
            have HM : Hid (moreS (.ok (putOf x ++ flat (ys.drop (j + 1))) at_) = true) := by
              show decide (0 < (putOf x ++ flat (ys.drop (j + 1))).length) = true
              have := putOf_pos x
              rw [List.length_append]; exact decide_eq_true (by omega)
            obtain ⟨nb, off, hna, d0, d1, d2⟩ := HIq.out.its j x hxj
            subst hna
            clear hrq hmem HRq
            go_wp2_with fail
            have hmr := More_all g lb _ wr HRq1.out
            rw [HM.out] at hmr
            refine hmr.mono ?_
            rintro e w3 ⟨rfl, rfl⟩
            clear hmr
            go_wp2_with fail
            refine (read_all g lb _ x.k w3 HRq1.out HLq.out HRx.out.1).mono ?_
            rintro e w4 ⟨a4, m4, c4, rfl, hs4, ha4, hr4, hk4'⟩
            rw [readS_put HRx.out HIx.out] at hs4 hr4 ⊢
            simp only at hs4 hr4 ⊢
            have hng : nb ≠ g := rs_apart HRq1.out HIq.out ⟨_, rfl, rfl⟩
            have q0 : w4.cell? ⟨nb, off + j * 3, none⟩ = some (.int .i64 x.k) := hk4'.cell d0 hng
            have q1 : w4.cell? ⟨nb, off + j * 3 + 1, none⟩ = some (.int .i64 x.n) := hk4'.cell d1 hng
            have q2 : w4.cell? ⟨nb, off + j * 3 + 2, none⟩ = some (.slice x.a x.m x.c) := hk4'.cell d2 hng
            have hnb4 : nb < w4.heap.size := World.block_lt_of_cell? w4 _ q0
            have HK4 : Hid (Kept No w w4) := HKq.out.fresh hk4' (fun i e => by have e' : i = g := e; have := HGB.out; omega)
            have HI4 : Hid (OwnI w4 w.heap.size (some ⟨nb, off, none⟩) nc ys) := HIq.out.kept hk4' (fun i hi e => rs_apart HRq1.out HIq.out hi e)
            have HL4 : Hid (lb < w4.heap.size) := by have e1 := hk4'.size; have e2 := HLq.out; show _ < _; omega
            have HR4 : Hid (Rs w4 g lb (.ok (flat (ys.drop (j + 1))) (at_ + (putOf x).length))) := hr4
            have HS4 : Hid (Sl w4 a4 m4 c4 (if x.k ≤ 2 then [] else x.zs)) := hs4
            clear hr4 hs4 ha4 hk4' d0 d1 d2 HRq1 HIq HKq HLq HM
            by_cases hk2 : x.k ≤ 2
            · have t1 : decide (x.k ≤ 2) = true := decide_eq_true hk2
              have t2 : decide (2 < x.k) = false := decide_eq_false (by omega)
              rw [if_pos hk2]
              clear hk2
              go_wp2
              obtain ⟨w5, hw5⟩ : ∃ w5, w5 = w4.alloc (Obj.cells #[.int .i64 x.k, .int .i64 x.n, .slice a4 m4 c4] 27) := ⟨_, rfl⟩
              have r0 : w5.cell? ⟨nb, off + j * 3, none⟩ = some (.int .i64 x.k) := by rw [hw5]; exact ((Kept.refl No w4).alloc _).cell q0 (fun e => e)
              have r1 : w5.cell? ⟨nb, off + j * 3 + 1, none⟩ = some (.int .i64 x.n) := by rw [hw5]; exact ((Kept.refl No w4).alloc _).cell q1 (fun e => e)
              have r2 : w5.cell? ⟨nb, off + j * 3 + 2, none⟩ = some (.slice x.a x.m x.c) := by rw [hw5]; exact ((Kept.refl No w4).alloc _).cell q2 (fun e => e)
              have x0 : w5.cell? ⟨w4.heap.size, 0, none⟩ = some (.int .i64 x.k) := by rw [hw5]; simp
              have x1 : w5.cell? ⟨w4.heap.size, 1, none⟩ = some (.int .i64 x.n) := by rw [hw5]; simp
              have x2 : w5.cell? ⟨w4.heap.size, 2, none⟩ = some (.slice a4 m4 c4) := by rw [hw5]; simp
              have HP : Hid (∀ q, (∃ at_, Rs (w5.drewN q) g lb (.ok (flat (ys.drop (j + 1))) at_)) ∧ OwnI (w5.drewN q) w.heap.size (some ⟨nb, off, none⟩) nc ys ∧ Kept No w (w5.drewN q) ∧ lb < (w5.drewN q).heap.size) := by
                rw [hw5]
                intro q
                have hq := ((Kept.refl No w4).alloc (Obj.cells #[.int .i64 x.k, .int .i64 x.n, .slice a4 m4 c4] 27)).drewN q
                exact ⟨⟨_, HR4.out.no hq⟩, HI4.out.no hq, HK4.out.then hq, by have e1 := hq.size; have e2 := HL4.out; omega⟩
              rw [← hw5]
              clear hw5 q0 q1 q2 HR4 HI4 HK4 HL4 HS4 hnb4
              go_quiet (fail)
              go_wp2
              go_roundw
              case rel => exact ⟨j + 1, by omega, by go_num, (HP.out _).1, (HP.out _).2.1, (HP.out _).2.2.1, (HP.out _).2.2.2⟩
              case measure => simp [intOf]; omega
            · have t1 : decide (x.k ≤ 2) = false := decide_eq_false hk2
              have t2 : decide (2 < x.k) = true := decide_eq_true (by omega)
              rw [if_neg hk2]
              rw [if_neg hk2] at HS4
              clear hk2
              go_wp2
              obtain ⟨w5, hw5⟩ : ∃ w5, w5 = w4.alloc (Obj.cells #[.int .i64 x.k, .int .i64 0, .slice a4 m4 c4] 27) := ⟨_, rfl⟩
              have r0 : w5.cell? ⟨nb, off + j * 3, none⟩ = some (.int .i64 x.k) := by rw [hw5]; exact ((Kept.refl No w4).alloc _).cell q0 (fun e => e)
              have r1 : w5.cell? ⟨nb, off + j * 3 + 1, none⟩ = some (.int .i64 x.n) := by rw [hw5]; exact ((Kept.refl No w4).alloc _).cell q1 (fun e => e)
              have r2 : w5.cell? ⟨nb, off + j * 3 + 2, none⟩ = some (.slice x.a x.m x.c) := by rw [hw5]; exact ((Kept.refl No w4).alloc _).cell q2 (fun e => e)
              have x0 : w5.cell? ⟨w4.heap.size, 0, none⟩ = some (.int .i64 x.k) := by rw [hw5]; simp
              have x1 : w5.cell? ⟨w4.heap.size, 1, none⟩ = some (.int .i64 0) := by rw [hw5]; simp
              have x2 : w5.cell? ⟨w4.heap.size, 2, none⟩ = some (.slice a4 m4 c4) := by rw [hw5]; simp
              have HP : Hid (∀ q, (∃ at_, Rs (w5.drewN q) g lb (.ok (flat (ys.drop (j + 1))) at_)) ∧ OwnI (w5.drewN q) w.heap.size (some ⟨nb, off, none⟩) nc ys ∧ Kept No w (w5.drewN q) ∧ lb < (w5.drewN q).heap.size) := by
                rw [hw5]
                intro q
                have hq := ((Kept.refl No w4).alloc (Obj.cells #[.int .i64 x.k, .int .i64 0, .slice a4 m4 c4] 27)).drewN q
                exact ⟨⟨_, HR4.out.no hq⟩, HI4.out.no hq, HK4.out.then hq, by have e1 := hq.size; have e2 := HL4.out; omega⟩
              have HQ : Hid (∀ q, Calls Try.prog 18 #[.slice a4 m4 c4, .slice x.a x.m x.c] (w5.drewN q) fun e w' => e = .returned (.bool true) ∧ ∃ m, w' = (w5.drewN q).drewN m) := by
                intro q
                have hs5 : Sl (w5.drewN q) a4 m4 c4 x.zs := by rw [hw5]; exact HS4.out.no (((Kept.refl _ _).alloc _).drewN q)
                have hx5 := HIx.out.no (HP.out q).2.2.1
                have := sameN_any a4 x.a m4 x.m c4 x.c x.zs x.zs (w5.drewN q) hs5.len hx5.sl.len (by have := hs5.bd; omega) (by have := hx5.sl.bd; omega) hs5.bytes hx5.sl.bytes
                rw [eqB_refl] at this
                exact this
              rw [← hw5]
              clear hw5 q0 q1 q2 HR4 HI4 HK4 HL4 HS4 hnb4
              go_quiet ((go_at_call 18; exact Calls.quiet_of (HQ.out _)))
              go_wp2
              go_roundw
              case rel => exact ⟨j + 1, by omega, by go_num, (HP.out _).1, (HP.out _).2.1, (HP.out _).2.2.1, (HP.out _).2.2.2⟩
              case measure => simp [intOf]; omega
          · obtain ⟨at_, hrq⟩ := HRq.out
            have i3 : ¬ (j : Int) < (nn : Int) := by omega
            have e0 : flat (ys.drop j) = [] := by rw [List.drop_eq_nil_of_le (by rw [HL.out]; omega)]; rfl
            rw [e0] at hrq
            have HRf : Hid (Rs wr g lb (.ok [] at_)) := hrq
            clear hrq e0 HRq
            go_wp2_with fail
            refine (More_all g lb (.ok [] at_) wr HRf.out).mono ?_
            rintro e w6 ⟨rfl, rfl⟩
            go_wp2_with fail
            refine (End_all g lb (.ok [] at_) w6 HRf.out).mono ?_
            rintro e w7 ⟨rfl, hr7, hk7⟩
            have HR7 : Hid (Rs w7 g lb (.ok [] at_)) := hr7
            have HK7 : Hid (Kept No w w7) := HKq.out.fresh hk7 (fun i e => by have e' : i = g := e; have := HGB.out; omega)
            clear hr7 hk7
            go_wp2_with fail
            refine (Err_all g lb (.ok [] at_) w7 HR7.out).mono ?_
            rintro e w8 ⟨rfl, n8, rfl⟩
            go_wp2
            go_ret
            exact ⟨rfl, (HK7.out.drewN _).below (Nat.le_refl _) (fun _ e => e.elim)⟩

end wireBack
end Go.Proofs.Ytnhjpghkmbgeaaa
