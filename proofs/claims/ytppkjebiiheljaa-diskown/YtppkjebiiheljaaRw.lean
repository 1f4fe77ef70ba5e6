import Derived.Test.YtppkjebiiheljaaRb
import Derived.Deep.RegionHeld3
namespace Go.Proofs.Ytppkjebiiheljaa
open Go.RowKit
set_option linter.unusedVariables false
set_option linter.unusedSimpArgs false

/-- What a Write of the reference's leaves. -/
def RwR (w : World) (r gs : Nat) (F : Nat → Prop) (x : DS) (n : Int) (bs : List Int) (e : Ending) (w' : World) : Prop :=
  e = .returned (.int .i64 (wrE x n bs.length)) ∧ RD w' r gs (fun g => F g ∨ w.heap.size ≤ g) (wrD x n bs) ∧ Kept (RG r gs) w w'

theorem Rdk.weak {w : World} {r gs : Nat} {F G : Nat → Prop} {x : DS} {arm : Bool} {lf tn : Int} {vs : List Value} (h : Rdk w r gs F x arm lf tn vs) (hF : ∀ g, F g → G g) : Rdk w r gs G x arm lf tn vs :=
  ⟨h.box, h.row, h.len, fun n hn => (h.sec n hn).imp id (fun ⟨g, e, hb, hf⟩ => ⟨g, e, hb, hF g hf⟩), h.pw⟩

/-- A sector is laid down. -/
theorem Rdk.lay {w : World} {r gs : Nat} {F : Nat → Prop} {x : DS} {arm : Bool} {lf tn : Int} {vs : List Value} (h : Rdk w r gs F x arm lf tn vs) (n g : Nat) (s : List Int) (hn : n < x.N) (hb : Box w g 5 (u8s s)) (hf : F g) :
    Rdk (w.setCell ⟨gs, n, none⟩ (.slice (some ⟨g, 0, none⟩) 512 512)) r gs F { x with c := updC x.c n s } arm lf tn (vs.set n (.slice (some ⟨g, 0, none⟩) 512 512)) := by
  have hk : Kept (Only gs) w (w.setCell ⟨gs, n, none⟩ (.slice (some ⟨g, 0, none⟩) 512 512)) := (Kept.refl (Only gs) w).setCell (fun _ => onlySelf gs) _
  refine ⟨h.box.kept hk (fun e => h.box.diff h.row (by decide) e), ?_, ?_, fun m hm => ?_, h.pw⟩
  · have := h.row.set n (.slice (some ⟨g, 0, none⟩) 512 512)
    simpa using this
  · rw [List.length_set]; exact h.len
  · have hm' : m < x.N := hm
    have hl := h.len
    by_cases e : m = n
    · subst e
      right
      refine ⟨g, ?_, ?_, hf⟩
      · rw [List.getElem?_set_self (by omega)]
      · have : updC x.c m s m = s := by simp [updC]
        show Box _ g 5 (u8s (updC x.c m s m))
        rw [this]
        exact hb.kept hk (fun e => hb.diff h.row (by decide) e)
    · have e2 : updC x.c n s m = x.c m := by simp [updC, e]
      show (_ ∧ updC x.c n s m = zs) ∨ ∃ g', _ ∧ Box _ g' 5 (u8s (updC x.c n s m)) ∧ F g'
      rw [e2, List.getElem?_set_ne (fun h => e h.symm)]
      exact (h.sec m hm').imp id (fun ⟨g', e', hb', hf'⟩ => ⟨g', e', hb'.kept hk (fun e => hb'.diff h.row (by decide) e), hf'⟩)

set_option maxRecDepth 100000 in
theorem refWriteNo_any (r gs : Nat) (n : Int) (a : Option Addr) (m cap : Nat) (bs : List Int) (F : Nat → Prop) (x : DS) (w : World) (h : RD w r gs F x) (hm : bs.length = m) (hc : ¬ (refE x n = 0 ∧ bs.length = 512)) :
    Calls Try.prog 26 #[.pointer (some ⟨r, 0, none⟩), .int .i64 n, .slice a m cap] w (RwR w r gs F x n bs) := by
  obtain ⟨arm, lf, tn, vs, h⟩ := h
  obtain ⟨c0, c1, c2, c3, c4, c5, c6⟩ := h.cells
  clear c1 c3 c4 c5 c6
  have HW : Hid (∀ E, wrE x n bs.length = E → RwR w r gs F x n bs (.returned (.int .i64 E)) w) := by
    intro E hE
    exact ⟨by rw [hE], ⟨arm, lf, tn, vs, by rw [wrD_no hc]; exact h.weak (fun g hg => .inl hg)⟩, Kept.refl _ _⟩
  rcases refE_cases x n with ⟨hf, he⟩ | ⟨hf, hn, he⟩ | ⟨hf, hn, he⟩
  · rw [hf] at c2
    have HE : Hid (wrE x n bs.length = 5) := by show wrE x n bs.length = 5; unfold wrE; rw [if_pos (by rw [he]; decide), he]
    clear h hf he hc
    go_enter Try.func26, Try.ntmps26
    go_wp2
    all_goals go_ret
    all_goals exact HW.out _ HE.out
  · rw [hf] at c2
    have HE : Hid (wrE x n bs.length = 31) := by show wrE x n bs.length = 31; unfold wrE; rw [if_pos (by rw [he]; decide), he]
    clear h hf he hc
    rcases hn with hn | hn
    · go_enter Try.func26, Try.ntmps26
      go_wp2
      all_goals go_ret
      all_goals exact HW.out _ HE.out
    · have hn0 : ¬ (n < 0) := by omega
      go_enter Try.func26, Try.ntmps26
      go_wp2
      all_goals go_ret
      all_goals exact HW.out _ HE.out
  · rw [hf] at c2
    have hlen : bs.length ≠ 512 := fun e => hc ⟨he, e⟩
    have HE : Hid (wrE x n bs.length = 32) := by show wrE x n bs.length = 32; unfold wrE; rw [if_neg (fun e => e he), if_pos hlen]
    have hn0 : ¬ (n < 0) := by omega
    have hn1 : ¬ ((x.N : Int) ≤ n) := by omega
    have hm5 : ((m : Int) == 512) = false := by simp; omega
    clear h hf he hc hlen hn hm
    go_enter Try.func26, Try.ntmps26
    go_wp2
    all_goals go_ret
    all_goals exact HW.out _ HE.out

theorem spentP_pos {l t : Int} (h : 0 < l) : spentP (some (l, t)) = some (l - 1, t) := if_pos h
theorem tornS_0 (c bs : List Int) : tornS c bs 0 = c := by simp [tornS]
theorem tornS_at {c bs : List Int} {k : Nat} (hc : c.length = 512) (hb : bs.length = 512) (hk : k < 512) : (u8s (tornS c bs k))[k]? = some (.int .u8 (c[k]?.getD 0)) := by
  unfold u8s tornS
  rw [List.getElem?_toArray, List.getElem?_map, List.getElem?_append_right (by rw [List.length_take]; omega), List.getElem?_drop, List.length_take, Nat.min_eq_left (by omega), show k + (k - k) = k by omega, List.getElem?_eq_getElem (by omega)]
  rfl
theorem tornS_set {c bs : List Int} {k : Nat} (hc : c.length = 512) (hb : bs.length = 512) (hk : k < 512) : (u8s (tornS c bs k)).setIfInBounds k (.int .u8 (bs[k]?.getD 0)) = u8s (tornS c bs (k + 1)) := by
  unfold u8s tornS
  apply Array.ext_getElem?
  intro i
  rw [Array.getElem?_setIfInBounds]
  simp only [List.getElem?_toArray, List.size_toArray, List.getElem?_map, List.length_map, List.length_append, List.length_take, List.length_drop]
  by_cases e : k = i
  · subst e
    rw [if_pos rfl, if_pos (by omega)]
    rw [List.getElem?_append_left (by rw [List.length_take]; omega), List.getElem?_take, if_pos (by omega), List.getElem?_eq_getElem (by omega)]
    rfl
  · rw [if_neg e]
    congr 1
    by_cases h1 : i < k
    · rw [List.getElem?_append_left (by rw [List.length_take]; omega), List.getElem?_append_left (by rw [List.length_take]; omega), List.getElem?_take, List.getElem?_take, if_pos h1, if_pos (by omega)]
    · rw [List.getElem?_append_right (by rw [List.length_take]; omega), List.getElem?_append_right (by rw [List.length_take]; omega), List.getElem?_drop, List.getElem?_drop, List.length_take, List.length_take, Nat.min_eq_left (by omega), Nat.min_eq_left (by omega), show k + (i - k) = i by omega, show k + 1 + (i - (k + 1)) = i by omega]

set_option maxRecDepth 100000 in
set_option maxHeartbeats 2000000 in
theorem refWriteOk_any (r gs n : Nat) (a : Option Addr) (cap : Nat) (bs : List Int) (F : Nat → Prop) (x : DS) (w : World) (h : RD w r gs F x) (ho : Ok x) (hf : x.fl = false) (hn : n < x.N) (hb : Nums .u8 w a bs) (hbl : bs.length = 512) (hp : holdsP x.pw = true) :
    Calls Try.prog 26 #[.pointer (some ⟨r, 0, none⟩), .int .i64 n, .slice a 512 cap] w (RwR w r gs F x n bs) := by
  obtain ⟨arm, lf, tn, vs, h⟩ := h
  have hr0 := refE_zero hf hn
  obtain ⟨c0, c1, c2, c3, c4, c5, c6⟩ := h.cells
  rw [hf] at c2
  have f6 := h.box.frozen 6
  have hl0 : laidP x.pw = 512 := by
    match hpp : x.pw with
    | none => rfl
    | some (l, t) => rw [hpp] at hp; exact if_pos (of_decide_eq_true hp)
  have hD : wrD x n bs = { x with c := updC x.c n bs, wr := x.wr + 1, pw := spentP x.pw } := by
    rw [wrD_yes hr0 hbl, hl0, show (512 : Int).toNat = 512 from rfl, Int.toNat_natCast, tornS_all (ho.fine.len n) hbl, hp, hf]
    rfl
  have hE : wrE x n bs.length = 0 := by unfold wrE; rw [if_neg (fun e => e hr0), if_neg (fun e => e hbl), hp]; rfl
  have H1 := h.set 6 (.int .i64 (x.wr + 1)) { x with wr := x.wr + 1 } arm lf tn rfl rfl rfl h.pw
  have hni : (n : Int) < (x.N : Int) := by omega
  have hn0 : ¬ ((n : Int) < 0) := by omega
  have hn1 : ¬ ((x.N : Int) ≤ (n : Int)) := by omega
  have hw0 : 0 ≤ x.wr := ho.wr0
  have hw1' : x.wr < 4611686018427387904 := ho.wr1
  -- the disk behind the counts, ahead of the sector
  have hst : ∃ w2, Rdk w2 r gs F { x with wr := x.wr + 1, pw := spentP x.pw } arm (if arm then lf - 1 else lf) tn vs ∧ Kept (Only r) w w2 ∧ w2 = (if arm then (w.setCell ⟨r, 6, none⟩ (.int .i64 (x.wr + 1))).setCell ⟨r, 3, none⟩ (.int .i64 (lf - 1)) else w.setCell ⟨r, 6, none⟩ (.int .i64 (x.wr + 1))) := by
    have hk1 : Kept (Only r) w (w.setCell ⟨r, 6, none⟩ (.int .i64 (x.wr + 1))) := (Kept.refl (Only r) w).setCell (fun _ => onlySelf r) _
    rcases h.pw hf with ⟨hp0, ha⟩ | ⟨hp0, ha⟩
    · subst ha
      refine ⟨_, ?_, hk1, rfl⟩
      rw [hp0]
      have := H1
      rw [hp0] at this
      exact this
    · subst ha
      refine ⟨_, ?_, hk1.setCell (fun _ => onlySelf r) _, rfl⟩
      rw [hp0] at hp ⊢
      have hlt : 0 < lf := of_decide_eq_true hp
      refine H1.set 3 (.int .i64 (lf - 1)) { x with wr := x.wr + 1, pw := spentP (some (lf, tn)) } true (lf - 1) tn rfl rfl rfl (fun _ => .inr ⟨?_, rfl⟩)
      exact spentP_pos hlt
  have HQ : Hid (Nums .u8 w a bs) := hb
  have HQ2 : Hid (∀ off, a ≠ some ⟨r, off, none⟩) := by
    intro off e
    obtain ⟨g', off', e', hc⟩ := hb 0 (by omega)
    rw [e] at e'
    cases e'
    rw [h.box.cell] at hc
    generalize off + 0 = o at hc
    match o, hc with
    | 0, hc => cases hc
    | 1, hc => cases hc
    | 2, hc => cases hc
    | 3, hc => cases hc
    | 4, hc => cases hc
    | 5, hc => cases hc
    | 6, hc => cases hc
    | o + 7, hc => simp at hc
  have HBL : Hid (bs.length = 512) := hbl
  have HNn : Hid (n < x.N) := hn
  have HD : Hid (wrD x n bs = { x with c := updC x.c n bs, wr := x.wr + 1, pw := spentP x.pw } ∧ wrE x n bs.length = 0) := ⟨hD, hE⟩
  obtain ⟨w2, hX2, hK2, hw2⟩ := hst
  have HK2 : Hid (Kept (Only r) w w2) := hK2
  have g1 := H1.cells.2.1
  have g3 := H1.cells.2.2.2.1
  have k3 := H1.box.frozen 3
  have hpw := h.pw hf
  have hrg : r ≠ gs := fun e => h.box.diff h.row (by decide) e
  have hgr : gs ≠ r := fun e => hrg e.symm
  cases arm
  · simp only [Bool.false_eq_true, if_false] at hX2 hw2
    have HX2 : Hid (Rdk w2 r gs F { x with wr := x.wr + 1, pw := spentP x.pw } false lf tn vs) := hX2
    clear h H1 hb hbl hp hD hE hX2 hK2 hpw hr0 hl0 ho hf hn c3 c4 c5 g3 k3
    go_enter Try.func26, Try.ntmps26
    go_wp2
    rw [← hw2]
    clear hw2 c0 c1 c2 c6 f6 g1
    have HQd : Hid (Nums .u8 w2.drew a bs) := by
      have hq : Nums .u8 w2 a bs := HQ.out.kept HK2.out (fun g off e eo => by
        have : g = r := eo
        subst this
        exact HQ2.out off e)
      exact hq.no ((Kept.refl No w2).drew)
    have HTw : Hid _ := twin_any a 512 cap bs w2.drew HQd.out HBL.out (by decide)
    have d0 : w2.cell? ⟨r, 0, none⟩ = some (.slice (some ⟨gs, 0, none⟩) x.N x.N) := HX2.out.cells.1
    have e0 : Hid (∀ w', Kept No w2.drew w' → (w'.cell? ⟨gs, n, none⟩).isSome = true ∧ w'.frozen? ⟨gs, n, none⟩ = false) := by
      intro w' hk
      have hb := (HX2.out.kept (w' := w2.drew) ((Kept.refl No w2).drew) (fun e => e) (fun e => e) (fun _ _ _ e => e)).row.kept hk (fun e => e)
      refine ⟨?_, hb.frozen n⟩
      rw [hb.cell, List.getElem?_toArray, List.getElem?_eq_getElem (by rw [HX2.out.len]; exact HNn.out)]
      rfl
    go_region_held3 (fun w' => w'.cell? ⟨r, 0, none⟩ = some (.slice (some ⟨gs, 0, none⟩) x.N x.N)) (go_keep) (first
      | (go_at_call 33
         refine Calls.mono HTw.out ?_
         rintro e w3 ⟨rfl, hb3, hk3⟩
         have HB3 : Hid (Box w3 w2.heap.size 5 (u8s bs)) := hb3
         have HK3 : Hid (Kept No w2.drew w3) := hk3
         have d1 := ((HX2.out.kept (w' := w2.drew) ((Kept.refl No w2).drew) (fun e => e) (fun e => e) (fun _ _ _ e => e)).kept hk3 (fun e => e) (fun e => e) (fun _ _ _ e => e)).cells.1
         have d2 : (w3.setCell ⟨gs, n, none⟩ (.slice (some ⟨w2.heap.size, 0, none⟩) 512 512)).cell? ⟨r, 0, none⟩ = some (.slice (some ⟨gs, 0, none⟩) x.N x.N) := ((Kept.refl (Only gs) w3).setCell (p := ⟨gs, n, none⟩) (fun _ => onlySelf gs) (.slice (some ⟨w2.heap.size, 0, none⟩) 512 512)).cell d1 (fun e => hrg e)
         obtain ⟨v9, hv9⟩ := Option.isSome_iff_exists.1 (e0.out w3 hk3).1
         have f9 := (e0.out w3 hk3).2
         clear hb3 hk3))
    go_wp2
    go_ret
    have hX3 := ((HX2.out.kept (w' := w2.drew) ((Kept.refl No w2).drew) (fun e => e) (fun e => e) (fun _ _ _ e => e)).kept HK3.out (fun e => e) (fun e => e) (fun _ _ _ e => e)).weak (G := fun g => F g ∨ w.heap.size ≤ g) (fun g hg => .inl hg)
    have hX4 := hX3.lay n w2.heap.size bs HNn.out HB3.out (.inr HK2.out.size)
    refine ⟨by rw [HD.out.2]; rfl, ?_, ?_⟩
    · rw [HD.out.1]; exact ⟨_, _, _, _, hX4⟩
    · exact ((HK2.out.mono (T := RG r gs) (fun _ _ e => .inl e)).then (((Kept.refl No w2).drew : Kept No w2 w2.drew).then HK3.out).of_no).setCell (fun _ => .inr rfl) _
  · have hlf : (lf == 0) = false := by
      rcases hpw with ⟨_, e⟩ | ⟨e, _⟩
      · cases e
      · rw [e] at hp
        have : 0 < lf := of_decide_eq_true hp
        simp; omega
    simp only [if_true] at hX2 hw2
    have HX2 : Hid (Rdk w2 r gs F { x with wr := x.wr + 1, pw := spentP x.pw } true (lf - 1) tn vs) := hX2
    have hlf1 : 0 < lf ∧ lf ≤ 9223372036854775807 := by
      rcases hpw with ⟨_, e⟩ | ⟨e, _⟩
      · cases e
      · have h2 := (ho.pw lf tn e).1
        rw [e] at hp
        have : 0 < lf := of_decide_eq_true hp
        exact ⟨this, h2.2⟩
    obtain ⟨hlf2, hlf3⟩ := hlf1
    clear h H1 hb hbl hp hD hE hX2 hK2 hpw hr0 hl0 ho hf hn c3 c4 c5
    go_enter Try.func26, Try.ntmps26
    go_wp2
    rw [← hw2]
    clear hw2 c0 c1 c2 c6 f6 g1 g3 k3
    have HQd : Hid (Nums .u8 w2.drew a bs) := by
      have hq : Nums .u8 w2 a bs := HQ.out.kept HK2.out (fun g off e eo => by
        have : g = r := eo
        subst this
        exact HQ2.out off e)
      exact hq.no ((Kept.refl No w2).drew)
    have HTw : Hid _ := twin_any a 512 cap bs w2.drew HQd.out HBL.out (by decide)
    have d0 : w2.cell? ⟨r, 0, none⟩ = some (.slice (some ⟨gs, 0, none⟩) x.N x.N) := HX2.out.cells.1
    have e0 : Hid (∀ w', Kept No w2.drew w' → (w'.cell? ⟨gs, n, none⟩).isSome = true ∧ w'.frozen? ⟨gs, n, none⟩ = false) := by
      intro w' hk
      have hb := (HX2.out.kept (w' := w2.drew) ((Kept.refl No w2).drew) (fun e => e) (fun e => e) (fun _ _ _ e => e)).row.kept hk (fun e => e)
      refine ⟨?_, hb.frozen n⟩
      rw [hb.cell, List.getElem?_toArray, List.getElem?_eq_getElem (by rw [HX2.out.len]; exact HNn.out)]
      rfl
    go_region_held3 (fun w' => w'.cell? ⟨r, 0, none⟩ = some (.slice (some ⟨gs, 0, none⟩) x.N x.N)) (go_keep) (first
      | (go_at_call 33
         refine Calls.mono HTw.out ?_
         rintro e w3 ⟨rfl, hb3, hk3⟩
         have HB3 : Hid (Box w3 w2.heap.size 5 (u8s bs)) := hb3
         have HK3 : Hid (Kept No w2.drew w3) := hk3
         have d1 := ((HX2.out.kept (w' := w2.drew) ((Kept.refl No w2).drew) (fun e => e) (fun e => e) (fun _ _ _ e => e)).kept hk3 (fun e => e) (fun e => e) (fun _ _ _ e => e)).cells.1
         have d2 : (w3.setCell ⟨gs, n, none⟩ (.slice (some ⟨w2.heap.size, 0, none⟩) 512 512)).cell? ⟨r, 0, none⟩ = some (.slice (some ⟨gs, 0, none⟩) x.N x.N) := ((Kept.refl (Only gs) w3).setCell (p := ⟨gs, n, none⟩) (fun _ => onlySelf gs) (.slice (some ⟨w2.heap.size, 0, none⟩) 512 512)).cell d1 (fun e => hrg e)
         obtain ⟨v9, hv9⟩ := Option.isSome_iff_exists.1 (e0.out w3 hk3).1
         have f9 := (e0.out w3 hk3).2
         clear hb3 hk3))
    go_wp2
    go_ret
    have hX3 := ((HX2.out.kept (w' := w2.drew) ((Kept.refl No w2).drew) (fun e => e) (fun e => e) (fun _ _ _ e => e)).kept HK3.out (fun e => e) (fun e => e) (fun _ _ _ e => e)).weak (G := fun g => F g ∨ w.heap.size ≤ g) (fun g hg => .inl hg)
    have hX4 := hX3.lay n w2.heap.size bs HNn.out HB3.out (.inr HK2.out.size)
    refine ⟨by rw [HD.out.2]; rfl, ?_, ?_⟩
    · rw [HD.out.1]; exact ⟨_, _, _, _, hX4⟩
    · exact ((HK2.out.mono (T := RG r gs) (fun _ _ e => .inl e)).then (((Kept.refl No w2).drew : Kept No w2 w2.drew).then HK3.out).of_no).setCell (fun _ => .inr rfl) _

end Go.Proofs.Ytppkjebiiheljaa
