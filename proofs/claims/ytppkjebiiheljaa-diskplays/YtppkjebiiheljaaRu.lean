import Derived.Test.YtppkjebiiheljaaRw
namespace Go.Proofs.Ytppkjebiiheljaa
open Go.RowKit
set_option linter.unusedVariables false
set_option linter.unusedSimpArgs false

set_option maxRecDepth 100000 in
set_option maxHeartbeats 2000000 in
theorem refWriteTorn_any (r gs n : Nat) (a : Option Addr) (cap : Nat) (bs : List Int) (F : Nat → Prop) (x : DS) (w : World) (h : RD w r gs F x) (ho : Ok x) (hf : x.fl = false) (hn : n < x.N) (hb : Nums .u8 w a bs) (hbl : bs.length = 512) (hp : holdsP x.pw = false) :
    Calls Try.prog 26 #[.pointer (some ⟨r, 0, none⟩), .int .i64 n, .slice a 512 cap] w (RwR w r gs F x n bs) := by
  obtain ⟨arm, lf, tn, vs, h⟩ := h
  rcases h.pw hf with ⟨hp0, _⟩ | ⟨hp0, ha⟩
  · rw [hp0] at hp; cases hp
  subst ha
  have hlb := ho.pw lf tn hp0
  obtain rfl : lf = 0 := by
    rw [hp0] at hp
    have : ¬ 0 < lf := of_decide_eq_false hp
    omega
  obtain ⟨T, rfl⟩ : ∃ T : Nat, tn = T := ⟨tn.toNat, by omega⟩
  have hT : T ≤ 512 := by omega
  have hr0 := refE_zero hf hn
  obtain ⟨c0, c1, c2, c3, c4, c5, c6⟩ := h.cells
  rw [hf] at c2
  have f6 := h.box.frozen 6
  have hl0 : laidP x.pw = T := by rw [hp0]; rfl
  have hD : wrD x n bs = { x with c := updC x.c n (tornS (x.c n) bs T), wr := x.wr + 1, pw := spentP x.pw, fl := true } := by
    rw [wrD_yes hr0 hbl, hl0, Int.toNat_natCast, Int.toNat_natCast, hp]
    rfl
  have hE : wrE x n bs.length = 5 := by unfold wrE; rw [if_neg (fun e => e hr0), if_neg (fun e => e hbl), hp]; rfl
  have H1 := h.set 6 (.int .i64 (x.wr + 1)) { x with wr := x.wr + 1 } true 0 T rfl rfl rfl h.pw
  have hK1 : Kept (Only r) w (w.setCell ⟨r, 6, none⟩ (.int .i64 (x.wr + 1))) := (Kept.refl (Only r) w).setCell (fun _ => onlySelf r) _
  have hsz : (w.setCell ⟨r, 6, none⟩ (.int .i64 (x.wr + 1))).heap.size = w.heap.size := by simp
  have g1 := H1.cells.2.1
  have g3 := H1.cells.2.2.2.1
  obtain ⟨w1, hw1⟩ : ∃ w1, w1 = w.setCell ⟨r, 6, none⟩ (.int .i64 (x.wr + 1)) := ⟨_, rfl⟩
  rw [← hw1] at H1 hK1 hsz g1 g3
  have hq1 : Nums .u8 w1 a bs := hb.kept hK1 (fun g off e eo => by
    have eo' : g = r := eo
    subst eo'
    obtain ⟨g', off', e', hc⟩ := hb 0 (by omega)
    rw [e] at e'
    cases e'
    rw [h.box.cell] at hc
    generalize off + 0 = o at hc
    match o, hc with
    | 0, hc => cases hc
    | 1, hc => cases hc
    | 2, hc => cases hc
    | 3, hc => cases hc
    | 4, hc => cases hc
    | 5, hc => cases hc
    | 6, hc => cases hc
    | o + 7, hc => simp at hc)
  have HS : Hid _ := refSector_any r gs n F { x with wr := x.wr + 1 } true 0 T vs w1 H1 hn ho.fine.n2 (ho.fine.len _)
  have hni : (n : Int) < (x.N : Int) := by omega
  have hn0 : ¬ ((n : Int) < 0) := by omega
  have hn1 : ¬ ((x.N : Int) ≤ (n : Int)) := by omega
  have hw0 : 0 ≤ x.wr := ho.wr0
  have hw1' : x.wr < 4611686018427387904 := ho.wr1
  have HX1 : Hid (Rdk w1 r gs F { x with wr := x.wr + 1 } true 0 T vs ∧ Kept (Only r) w w1 ∧ w1.heap.size = w.heap.size ∧ Nums .u8 w1 a bs ∧ n < x.N) := ⟨H1, hK1, hsz, hq1, hn⟩
  have HL : Hid (bs.length = 512 ∧ (x.c n).length = 512 ∧ T ≤ 512) := ⟨hbl, ho.fine.len n, hT⟩
  have HD : Hid (wrD x n bs = { x with c := updC x.c n (tornS (x.c n) bs T), wr := x.wr + 1, pw := spentP x.pw, fl := true } ∧ wrE x n bs.length = 5) := ⟨hD, hE⟩
  have hTi : (T : Int) ≤ 512 := by omega
  clear h H1 hb hbl hp hD hE hr0 hl0 ho hf hn c4 c5 hK1 hsz hq1 hlb hp0
  go_enter Try.func26, Try.ntmps26
  go_wp2_with (go_at_call 38
               rw [← hw1]
               refine Calls.mono HS.out ?_
               rintro e w2 ⟨g, rfl, hg, hb2, hk2⟩
               have HB2 : Hid (Box w2 g 5 (u8s (tornS (x.c n) bs 0)) ∧ w1.heap.size ≤ g ∧ Kept No w1 w2) := ⟨by rw [tornS_0]; exact hb2, hg, hk2⟩
               clear hb2 hk2 hg hw1 HS c0 c1 c2 c3 c6 f6 g1 g3)
  go_loopw [8] (fun i wr => ∃ k : Nat, i = .int .i64 k ∧ Hid (k ≤ T ∧ Box wr g 5 (u8s (tornS (x.c n) bs k)) ∧ Kept No w1 wr)) (fun i _ => T - (intOf i).toNat)
  case atStart => exact ⟨0, rfl, Nat.zero_le _, HB2.out.1, HB2.out.2.2⟩
  case round =>
    obtain ⟨k, rfl, HR⟩ := hrel
    have hXr := HX1.out.1.kept HR.out.2.2 (fun e => e) (fun e => e) (fun _ _ _ e => e)
    have d4 := hXr.cells.2.2.2.2.1
    by_cases hk : (k : Int) < (T : Int)
    · have hk5 : k < 512 := by omega
      have hk6 : (k : Int) < 512 := by omega
      have e0 := HR.out.2.1.cell k
      rw [tornS_at HL.out.2.1 HL.out.1 hk5] at e0
      have f0 := HR.out.2.1.frozen k
      obtain ⟨b, off, ha, hc⟩ := (HX1.out.2.2.2.1.no HR.out.2.2) k (by rw [HL.out.1]; exact hk5)
      subst ha
      have HS : Hid (Box (wr.setCell ⟨g, k, none⟩ (.int .u8 (bs[k]?.getD 0))) g 5 (u8s (tornS (x.c n) bs (k + 1)))) := by
        have := HR.out.2.1.set k (.int .u8 (bs[k]?.getD 0))
        rw [tornS_set HL.out.2.1 HL.out.1 hk5] at this
        exact this
      clear hXr hk5
      generalize bs[k]?.getD 0 = z at hc HS
      generalize (x.c n)[k]?.getD 0 = z0 at e0
      go_wp2
      go_roundw
      case rel => exact ⟨k + 1, by go_num, (by omega : k + 1 ≤ T), HS.out, HR.out.2.2.setCell (fun e => absurd e (by have := HB2.out.2.1; simp; omega)) _⟩
      case measure => simp [intOf]; omega
    · have hk' : k = T := by have := HR.out.1; omega
      have HE : Hid (Box wr g 5 (u8s (tornS (x.c n) bs T))) := by have := HR.out.2.1; rw [hk'] at this; exact this
      have hXw := hXr.weak (G := fun g => F g ∨ w.heap.size ≤ g) (fun g hg => .inl hg)
      have d0 := hXr.cells.1
      have hrow : (wr.cell? ⟨gs, n, none⟩).isSome = true ∧ wr.frozen? ⟨gs, n, none⟩ = false := by
        refine ⟨?_, hXr.row.frozen n⟩
        rw [hXr.row.cell, List.getElem?_toArray, List.getElem?_eq_getElem (by rw [hXr.len]; exact HX1.out.2.2.2.2)]
        rfl
      obtain ⟨v9, hv9⟩ := Option.isSome_iff_exists.1 hrow.1
      have f9 := hrow.2
      have hL := hXw.lay n g _ HX1.out.2.2.2.2 HE.out (.inr (by have := HB2.out.2.1; have := HX1.out.2.2.1; omega))
      have l2 := hL.cells.2.2.1
      have k2 := hL.box.frozen 2
      have HZ : Hid _ := hL.set 2 (.bool true) { x with c := updC x.c n (tornS (x.c n) bs T), wr := x.wr + 1, pw := spentP x.pw, fl := true } true 0 T rfl rfl rfl (fun e => by cases e)
      have HK : Hid (Kept (RG r gs) w _) := (((HX1.out.2.1.mono (T := RG r gs) (fun _ _ e => .inl e)).then HR.out.2.2.of_no).setCell (p := ⟨gs, n, none⟩) (fun _ => .inr rfl) (.slice (some ⟨g, 0, none⟩) 512 512)).setCell (p := ⟨r, 2, none⟩) (fun _ => .inl rfl) (.bool true)
      clear hXr hXw hL hrow
      go_wp2
      go_ret
      exact ⟨by rw [HD.out.2]; rfl, ⟨_, _, _, _, by rw [HD.out.1]; exact HZ.out⟩, HK.out⟩

end Go.Proofs.Ytppkjebiiheljaa
