import Derived.Test.YtnhjpghkmbgeaaaNw
namespace Go.Proofs.Ytnhjpghkmbgeaaa
open Go.RowKit
set_option linter.unusedVariables false
namespace wireWrites

/-- What holds at the head of a round: the Writer holds what was put, and 'now' what was put. -/
structure Inv (w wr : World) (i : Nat) (na : Option Addr) (nn nc : Nat) : Prop where
  ex : ∃ a c xs, Ws wr w.heap.size w.heap.size a c (allOf xs) ∧ OwnI wr w.heap.size na nc xs ∧ xs.length = nn ∧ nn ≤ i ∧ (∀ x ∈ xs, ItOk w x ∧ x.m ≤ 65536)
  kept : Kept No w wr

theorem heap_new (w : World) (o : Obj) : (w.alloc o).heap[w.heap.size]? = some o := by
  show (w.heap.push o)[w.heap.size]? = some o
  simp

theorem tot_le {w : World} (xs : List Item) (h : ∀ x ∈ xs, ItOk w x ∧ x.m ≤ 65536) : tot xs ≤ xs.length * 65546 := by
  induction xs with
  | nil => simp [tot]
  | cons x r ih =>
    have := ih (fun y hy => h y (List.mem_cons_of_mem _ hy))
    have h1 := (h x (List.mem_cons_self ..)).2
    have : tot (x :: r) = (10 + x.m) + tot r := by simp [tot]
    simp; omega

theorem Inv.step {w wr w2 : World} {k nn nc : Nat} {na : Option Addr} (h : Inv w wr k na nn nc) (hK : Kept No wr w2) : Inv w w2 (k + 1) na nn nc := by
  obtain ⟨⟨a, c, ys, hW, hI, hl, hle, hok⟩, hk⟩ := h
  exact ⟨⟨a, c, ys, hW.no hK, hI.no hK, hl, by omega, hok⟩, hk.then hK⟩

/-- Done is asked: it tells what the document tells. -/
theorem asks {w wr W : World} {k nn nc : Nat} {na : Option Addr} (h : Inv w wr k na nn nc) (hk4 : k ≤ 400) (hW : Kept No wr W) :
    Calls Try.prog 9 #[.pointer (some ⟨w.heap.size, 0, none⟩), .slice na nn nc] W fun e w' => e = .returned (.bool true) ∧ Kept No W w' := by
  obtain ⟨⟨a, c, ys, hWs, hI, hl, hle, hok⟩, hk⟩ := h
  refine done_any w.heap.size w.heap.size a c na nn nc ys W (hWs.no hW) hl (by omega) (hI.no hW).its (fun x hx => ((hok x hx).1.no hk).no hW) ?_
  have := tot_le ys hok
  rw [hl] at this
  have h2 : nn * 65546 ≤ 400 * 65546 := Nat.mul_le_mul_right _ (by omega)
  omega

theorem sl_lt {w : World} {a : Option Addr} {m c : Nat} {zs : List Int} (h : Sl w a m c zs) (h0 : 0 < zs.length) {k : Nat} (hk : At a k) : k < w.heap.size := by
  obtain ⟨b, off, rfl, hc⟩ := h.bytes 0 h0
  obtain ⟨ad, e, rfl⟩ := hk
  cases e
  exact World.block_lt_of_cell? w _ hc

/-- What a put leaves. -/
theorem Inv.put {w wr w1 w2 w3 w4 : World} {k nn nc : Nat} {na a' : Option Addr} {c' : Nat} {x : Item} {a a2 : Option Addr} {c c2 : Nat} {ys : List Item} (hk : Kept No w wr) (hWs : Ws wr w.heap.size w.heap.size a c (allOf ys)) (hI : OwnI wr w.heap.size na nc ys) (hl : ys.length = nn) (hle : nn ≤ k) (hok : ∀ x ∈ ys, ItOk w x ∧ x.m ≤ 65536)
    (hx : ItOk w x) (hxm : x.m ≤ 65536) (h1 : Kept No wr w1) (hw2 : Ws w2 w.heap.size w.heap.size a2 c2 (putIt (allOf ys) x)) (hk2 : Kept (WrAt w.heap.size a) w1 w2) (h3 : Kept No w2 w3)
    (ho4 : OwnI w4 w.heap.size a' c' (ys ++ [x])) (hk4 : Kept (At na) w3 w4) (hI3 : OwnI w3 w.heap.size na nc ys) : Inv w w4 (k + 1) a' (nn + 1) c' := by
  refine ⟨⟨a2, c2, ys ++ [x], ?_, ho4, by simp [hl], by omega, ?_⟩, ?_⟩
  · rw [allOf_app]
    exact (hw2.no h3).kept hk4 (fun i hi e => OwnI.apart (hw2.no h3) hI3 hi e)
  · intro y hy
    rcases List.mem_append.1 hy with h | h
    · exact hok y h
    · simp at h; subst h; exact ⟨hx, hxm⟩
  · refine Kept.fresh (((hk.then h1).fresh hk2 (fun i e => hWs.base e)).then h3) hk4 (fun i e => ?_)
    exact own_at hI e

set_option maxHeartbeats 2000000 in
theorem walk (la : Option Addr) (ln lc : Nat) (xs : List Item) (w : World) (hn : xs.length = ln) (hb : ln ≤ 140737488355328) (hx : Its w la xs) (hok : ∀ x ∈ xs, ItOk w x) :
    Calls Try.prog 3 #[.slice la ln lc] w fun e w' => e = .returned (.bool true) ∧ Below w.heap.size w w' := by
  have HX : Hid (Its w la xs) := hx
  have HO : Hid (∀ x ∈ xs, ItOk w x) := hok
  have HN : Hid (xs.length = ln) := hn
  clear hx hok hn
  go_enter Try.func3, Try.ntmps3
  go_wp2
  go_loopw [4, 5] (fun o i wr => ∃ k : Nat, ∃ na nn nc, k ≤ ln ∧ k ≤ 400 ∧ i = .int .i64 (k : Int) ∧ o = .slice na nn nc ∧ Hid (Inv w wr k na nn nc)) (fun _ i _ => ln - (intOf i).toNat)
  case atStart =>
    refine ⟨0, none, 0, 0, Nat.zero_le _, Nat.zero_le _, rfl, rfl, ⟨none, 0, [], ⟨?_, OwnS.nil _ _, Nat.le_refl _⟩, OwnI.nil _ _, rfl, Nat.le_refl _, fun x hx => by simp at hx⟩, (Kept.refl _ _).alloc _⟩
    exact heap_new _ _
  case round =>
    obtain ⟨k, na, nn, nc, hk, hk4, rfl, rfl, HI⟩ := hrel
    by_cases hlt : k < ln ∧ k < 400
    · obtain ⟨hl1, hl2⟩ := hlt
      obtain ⟨x, hxk⟩ : ∃ x, xs[k]? = some x := ⟨xs[k]'(by rw [HN.out]; exact hl1), by rw [List.getElem?_eq_getElem]⟩
      have HIx : Hid (ItOk w x) := HO.out x (List.mem_of_getElem? hxk)
      obtain ⟨b, off, rfl, hc0, hc1, hc2⟩ := (HX.out.no HI.out.kept) k x hxk
      clear hxk
      have i1 : (k : Int) < (ln : Int) := by omega
      have i2 : (k : Int) < 400 := by omega
      obtain ⟨xk, xn, xa, xm, xc, zs⟩ := x
      simp only at hc0 hc1 hc2
      have HC : Hid (∀ W, Kept No (wr.alloc (Obj.cells #[.int .i64 xk, .int .i64 xn, .slice xa xm xc] 27)) W → W.cell? ⟨wr.heap.size, 0, none⟩ = some (.int .i64 xk) ∧ W.cell? ⟨wr.heap.size, 1, none⟩ = some (.int .i64 xn) ∧ W.cell? ⟨wr.heap.size, 2, none⟩ = some (.slice xa xm xc)) :=
        fun W h => ⟨h.cell (by simp) (fun e => e), h.cell (by simp) (fun e => e), h.cell (by simp) (fun e => e)⟩
      by_cases h5 : xk = 5
      · subst h5
        go_wp2_with fail
        refine (asks HI.out hk4 ((Kept.refl _ _).alloc _)).mono ?_
        rintro e w2 ⟨rfl, hK2⟩
        have cK := (HC.out w2 hK2).1
        have HI2 : Hid (Inv w w2 (k + 1) na nn nc) := HI.out.step (((Kept.refl _ _).alloc _).then hK2)
        clear hK2 HI
        go_wp2
        go_roundw
        case rel => exact ⟨k + 1, na, nn, nc, by omega, by omega, by go_num, rfl, HI2⟩
        case measure => simp [intOf]; omega
      have q5 : (xk == 5) = false := by simpa using h5
      have HI2 : Hid (Inv w (wr.alloc (Obj.cells #[.int .i64 xk, .int .i64 xn, .slice xa xm xc] 27)) (k + 1) na nn nc) := HI.out.step ((Kept.refl _ _).alloc _)
      by_cases h1 : xk < 1
      · go_wp2
        go_roundw
        case rel => exact ⟨k + 1, na, nn, nc, by omega, by omega, by go_num, rfl, HI2⟩
        case measure => simp [intOf]; omega
      by_cases h4 : 4 < xk
      · go_wp2
        go_roundw
        case rel => exact ⟨k + 1, na, nn, nc, by omega, by omega, by go_num, rfl, HI2⟩
        case measure => simp [intOf]; omega
      by_cases hm : 65536 < (xm : Int)
      · go_wp2
        go_roundw
        case rel => exact ⟨k + 1, na, nn, nc, by omega, by omega, by go_num, rfl, HI2⟩
        case measure => simp [intOf]; omega
      clear HI2
      obtain ⟨⟨a, c, ys, hWs, hI, hl, hle, hok⟩, hkp⟩ := HI.out
      have HWs : Hid (Ws wr w.heap.size w.heap.size a c (allOf ys)) := hWs
      have HOI : Hid (OwnI wr w.heap.size na nc ys) := hI
      have HL : Hid (ys.length = nn) := hl
      have HOK : Hid (∀ x ∈ ys, ItOk w x ∧ x.m ≤ 65536) := hok
      have HKP : Hid (Kept No w wr) := hkp
      have HT : Hid (stLen (allOf ys) ≤ 30000000) := by
        have e1 := allOf_len ys (fun x hx => (hok x hx).1)
        have e2 := tot_le ys hok
        rw [hl] at e2
        have e3 : nn * 65546 ≤ 400 * 65546 := Nat.mul_le_mul_right _ (by omega)
        show _ ≤ _; omega
      clear hWs hI hl hok hkp HI
      go_wp2_with fail
      refine (put_any w.heap.size w.heap.size a c (allOf ys) xk xn xa xm xc zs _ (HWs.out.no ((Kept.refl _ _).alloc _)) ((HIx.out.no HKP.out).no ((Kept.refl _ _).alloc _)).sl HIx.out.lo HIx.out.hi (fun h0 k hk e => by have e1 := sl_lt HIx.out.sl h0 hk; have e2 := HWs.out.base e; omega) (by omega) (by have := HT.out; omega) (by have := HKP.out.size; simp; omega)).mono ?_
      rintro e w2 ⟨rfl, a2, c2, hw2, hk2, hm2⟩
      have cA : w2.cell? ⟨wr.heap.size, 0, none⟩ = some (.int .i64 xk) := hk2.cell (HC.out _ (Kept.refl _ _)).1 (fun e => by have := HWs.out.lt e; simp at this)
      have cB : w2.cell? ⟨wr.heap.size, 1, none⟩ = some (.int .i64 xn) := hk2.cell (HC.out _ (Kept.refl _ _)).2.1 (fun e => by have := HWs.out.lt e; simp at this)
      have cC : w2.cell? ⟨wr.heap.size, 2, none⟩ = some (.slice xa xm xc) := hk2.cell (HC.out _ (Kept.refl _ _)).2.2 (fun e => by have := HWs.out.lt e; simp at this)
      have HW2 : Hid (Ws w2 w.heap.size w.heap.size a2 c2 (putIt (allOf ys) ⟨xk, xn, xa, xm, xc, zs⟩)) := hw2
      have HK2 : Hid (Kept (WrAt w.heap.size a) (wr.alloc (Obj.cells #[.int .i64 xk, .int .i64 xn, .slice xa xm xc] 27)) w2) := hk2
      have HO2 : Hid (OwnI w2 w.heap.size na nc ys) := (HOI.out.no ((Kept.refl _ _).alloc _)).kept hk2 (fun i hi e => OwnI.apart HWs.out HOI.out e hi)
      have HB2 : Hid (w.heap.size ≤ w2.heap.size) := by have e1 := HKP.out.size; have e2 := hk2.size; simp at e2; show _ ≤ _; omega
      clear hw2 hk2 hm2 HC
      go_wp2_with (at_builtin; go_must (refine wp_appI _ Try.underlying22 Try.info27 rfl _ _ rfl w.heap.size _ _ _ ys rfl HL.out (HO2.out.no ((Kept.refl _ _).alloc _)) w2.heap.size _ ⟨xk, xn, xa, xm, xc, zs⟩ rfl (by simp) (by simp) (by simp) (by omega) (by have := HB2.out; simp; omega) ?_; intro a4 c4 w4 HO4 HK4 HM4))
      have HI4 : Hid (Inv w w4 (k + 1) a4 (nn + 1) c4) := Inv.put HKP.out HWs.out HOI.out HL.out hle HOK.out HIx.out (by simp only; omega) ((Kept.refl _ _).alloc _) HW2.out HK2.out ((Kept.refl _ _).alloc _) HO4.out HK4.out (HO2.out.no ((Kept.refl _ _).alloc _))
      go_roundw
      case rel => exact ⟨k + 1, a4, nn + 1, c4, by omega, by omega, by go_num, rfl, HI4⟩
      case measure => simp [intOf]; omega
    · have hfin : ∀ (hc : k = ln ∨ k = 400), True := fun _ => trivial
      by_cases hl1 : k < ln
      · have i1 : (k : Int) < (ln : Int) := by omega
        have i2 : ¬ (k : Int) < 400 := by omega
        clear hfin
        go_wp2_with fail
        refine (asks HI.out hk4 (Kept.refl _ _)).mono ?_
        rintro e w2 ⟨rfl, hK2⟩
        have HK2 : Hid (Kept No wr w2) := hK2
        clear hK2
        go_wp2_with fail
        refine (asks HI.out hk4 HK2.out).mono ?_
        rintro e w3 ⟨rfl, hK3⟩
        have HK3 : Hid (Kept No w w3) := (HI.out.kept.then HK2.out).then hK3
        clear hK3
        go_wp2
        go_ret
        exact ⟨rfl, HK3.out.below (Nat.le_refl _) (fun _ e => e.elim)⟩
      · have i1 : ¬ (k : Int) < (ln : Int) := by omega
        clear hfin
        go_wp2_with fail
        refine (asks HI.out hk4 (Kept.refl _ _)).mono ?_
        rintro e w2 ⟨rfl, hK2⟩
        have HK2 : Hid (Kept No wr w2) := hK2
        clear hK2
        go_wp2_with fail
        refine (asks HI.out hk4 HK2.out).mono ?_
        rintro e w3 ⟨rfl, hK3⟩
        have HK3 : Hid (Kept No w w3) := (HI.out.kept.then HK2.out).then hK3
        clear hK3
        go_wp2
        go_ret
        exact ⟨rfl, HK3.out.below (Nat.le_refl _) (fun _ e => e.elim)⟩

end wireWrites
end Go.Proofs.Ytnhjpghkmbgeaaa
