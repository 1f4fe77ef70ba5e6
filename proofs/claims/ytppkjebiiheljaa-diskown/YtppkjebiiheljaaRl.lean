import Derived.Test.YtppkjebiiheljaaLe
namespace Go.Proofs.Ytppkjebiiheljaa
open Go.RowKit
set_option linter.unusedVariables false
set_option linter.unusedSimpArgs false

set_option maxRecDepth 100000 in
set_option maxHeartbeats 2000000 in
theorem refLoadYes_any (g o cap N m : Nat) (img : List Int) (w : World) (hb : Nums .u8 w (some ⟨g, o, none⟩) img) (hl : img.length = N * 512) (hm : m = N * 512) (h1 : 1 ≤ N) (h2 : N ≤ 65536) (hc : m ≤ cap) (hc2 : cap ≤ 4611686018427387904) :
    Calls Try.prog 20 #[.slice (some ⟨g, o, none⟩) m cap] w (NewR w (loadD img)) := by
  have hLD : loadD img = ⟨N, secTo img N, none, false, 0, 0⟩ := by
    unfold loadD; rw [hl, Nat.mul_div_cancel _ (by omega)]
  rw [hLD]
  have HI : Hid (Nums .u8 w (some ⟨g, o, none⟩) img ∧ img.length = N * 512 ∧ N ≤ 65536 ∧ m = N * 512) := ⟨hb, hl, h2, hm⟩
  have HNw : Hid _ := refNewYes_any N w h1 h2
  have hrem : m % 512 = 0 := by rw [hm]; exact Nat.mul_mod_left _ _
  have hquo : m / 512 = N := by rw [hm]; exact Nat.mul_div_cancel _ (by omega)
  have hN0 : ((N : Int) == 0) = false := by simp; omega
  have HM : Hid (m ≤ cap ∧ cap ≤ 4611686018427387904 ∧ m ≤ 4611686018427387904) := ⟨hc, hc2, by omega⟩
  clear hb hl hLD h1 h2 hm hc hc2
  go_enter Try.func20, Try.ntmps20
  go_wp2_with (first
    | (refine wp_rem512 rfl _ rfl m rfl ?_; rw [hrem, show ((0 : Nat) : Int) = 0 from rfl]; clear hrem)
    | (refine wp_quo512 rfl _ rfl m rfl HM.out.2.2 ?_; rw [hquo]; clear hquo)
    | (go_at_call 11
       refine Calls.mono HNw.out ?_
       rintro e w1 ⟨r, gs, rfl, hr, hgs, hR, hk1⟩
       have HR1 : Hid (RD w1 r gs (fun g => w.heap.size ≤ g) (newD N)) := hR
       have HK1 : Hid (Kept No w w1) := hk1
       have HL : Hid (w.heap.size ≤ r ∧ w.heap.size ≤ gs) := ⟨hr, hgs⟩
       clear hr hgs hR hk1 HNw))
  go_loopw [6] (fun i wr => ∃ k : Nat, i = .int .i64 k ∧ Hid (k ≤ N ∧ RD wr r gs (fun g => w.heap.size ≤ g) ⟨N, secTo img k, none, false, 0, 0⟩ ∧ Kept No w wr)) (fun i _ => N - (intOf i).toNat)
  case atStart => exact ⟨0, rfl, Nat.zero_le _, by rw [secTo_0]; exact HR1.out, HK1.out⟩
  case round =>
    obtain ⟨k, rfl, HR⟩ := hrel
    obtain ⟨hkN, ⟨arm, lf, tn, vs, hX⟩, hkp⟩ := HR.out
    have HX : Hid (Rdk wr r gs (fun g => w.heap.size ≤ g) ⟨N, secTo img k, none, false, 0, 0⟩ arm lf tn vs) := hX
    have HKP : Hid (Kept No w wr) := hkp
    have c0 := hX.cells.1
    have hrg : r ≠ gs := fun e => hX.box.diff hX.row (by decide) e
    have hgr : gs ≠ r := fun e => hrg e.symm
    clear hX hkp HR
    by_cases hk : (k : Int) < (N : Int)
    · have hk' : k < N := by omega
      obtain ⟨P, hP⟩ : ∃ P, P = k * 512 := ⟨_, rfl⟩
      have hmul := Nat.mul_le_mul_right 512 hk'
      rw [Nat.succ_mul] at hmul
      have hp1 : P + 512 ≤ cap := by have := HM.out.1; have := HI.out.2.2.2; omega
      have i1 : (k : Int) * 512 = (P : Int) := by omega
      have i2 : (P : Int) ≤ 33554432 := by have := HI.out.2.2.1; omega
      obtain ⟨H, hH⟩ : ∃ H, H = P + 512 := ⟨_, rfl⟩
      have i6 : (P : Int) + 512 = (H : Int) := by omega
      have i3 : H ≤ cap := by omega
      have i7 : P ≤ H := by omega
      have i8 : H - P = 512 := by omega
      have i9 : (H : Int) ≤ 33554944 := by have := HI.out.2.2.1; omega
      have i4 : ¬ (cap = P) := by omega
      have hw1 : IntKind.i64.wrap ((k : Int) * 512) = (P : Int) := by rw [IntKind.wrap_i64]; omega
      have hw2 : IntKind.i64.wrap ((P : Int) + 512) = (H : Int) := by rw [IntKind.wrap_i64]; omega
      have i5 : P ≤ cap := by omega
      have HP : Hid (P = k * 512 ∧ k < N) := ⟨hP, hk'⟩
      have HSL : Hid ((secOf img k).length = 512) := secOf_len HI.out.2.1 hk'
      have HQd : Hid (Nums .u8 wr.drew (some ⟨g, o + P, none⟩) (secOf img k)) := by
        have := (HI.out.1.no HKP.out).dropAt (k * 512) 512
        rw [← hP] at this
        unfold secOf
        rw [← hP]
        exact this.no ((Kept.refl No wr).drew)
      have HTw : Hid _ := twin_any (some ⟨g, o + P, none⟩) 512 (cap - P) (secOf img k) wr.drew HQd.out HSL.out (by decide)
      have e0 : Hid (∀ w', Kept No wr.drew w' → (w'.cell? ⟨gs, k, none⟩).isSome = true ∧ w'.frozen? ⟨gs, k, none⟩ = false) := by
        intro w' hkk
        have hb := (HX.out.kept (w' := wr.drew) ((Kept.refl No wr).drew) (fun e => e) (fun e => e) (fun _ _ _ e => e)).row.kept hkk (fun e => e)
        refine ⟨?_, hb.frozen k⟩
        rw [hb.cell, List.getElem?_toArray, List.getElem?_eq_getElem (by rw [HX.out.len]; exact HP.out.2)]
        rfl
      have hNi : (N : Int) ≤ 65536 := by have := HI.out.2.2.1; omega
      clear hP hmul hk' hp1 hH i1 i6
      go_wp2
      go_region_held3 (fun w' => w'.cell? ⟨r, 0, none⟩ = some (.slice (some ⟨gs, 0, none⟩) N N)) (go_keep) (first
        | (go_at_call 33
           refine Calls.mono HTw.out ?_
           rintro e w3 ⟨rfl, hb3, hk3⟩
           have HB3 : Hid (Box w3 wr.heap.size 5 (u8s (secOf img k))) := hb3
           have HK3 : Hid (Kept No wr.drew w3) := hk3
           have d1 := ((HX.out.kept (w' := wr.drew) ((Kept.refl No wr).drew) (fun e => e) (fun e => e) (fun _ _ _ e => e)).kept hk3 (fun e => e) (fun e => e) (fun _ _ _ e => e)).cells.1
           have d2 : (w3.setCell ⟨gs, k, none⟩ (.slice (some ⟨wr.heap.size, 0, none⟩) 512 512)).cell? ⟨r, 0, none⟩ = some (.slice (some ⟨gs, 0, none⟩) N N) := ((Kept.refl (Only gs) w3).setCell (p := ⟨gs, k, none⟩) (fun _ => onlySelf gs) (.slice (some ⟨wr.heap.size, 0, none⟩) 512 512)).cell d1 (fun e => hrg e)
           obtain ⟨v9, hv9⟩ := Option.isSome_iff_exists.1 (e0.out w3 hk3).1
           have f9 := (e0.out w3 hk3).2
           clear hb3 hk3))
      have hX3 := (HX.out.kept (w' := wr.drew) ((Kept.refl No wr).drew) (fun e => e) (fun e => e) (fun _ _ _ e => e)).kept HK3.out (fun e => e) (fun e => e) (fun _ _ _ e => e)
      have hX4 := hX3.lay k wr.heap.size (secOf img k) HP.out.2 HB3.out HKP.out.size
      have HX4 : Hid (RD (w3.setCell ⟨gs, k, none⟩ (.slice (some ⟨wr.heap.size, 0, none⟩) 512 512)) r gs (fun g => w.heap.size ≤ g) ⟨N, secTo img (k + 1), none, false, 0, 0⟩) := by
        refine ⟨arm, lf, tn, vs.set k (.slice (some ⟨wr.heap.size, 0, none⟩) 512 512), ?_⟩
        rw [← secTo_step]
        exact hX4
      have HK4 : Hid (Kept No w (w3.setCell ⟨gs, k, none⟩ (.slice (some ⟨wr.heap.size, 0, none⟩) 512 512))) := (HKP.out.then (((Kept.refl No wr).drew : Kept No wr wr.drew).then HK3.out)).setCell (fun e => absurd e (by have := HL.out.2; simp only; omega)) _
      clear hX3 hX4
      go_wp2
      go_roundw
      case rel => exact ⟨k + 1, by go_num, (by have := HP.out.2; omega : k + 1 ≤ N), HX4.out, HK4.out⟩
      case measure => simp [intOf]; omega
    · have hk' : k = N := by omega
      subst hk'
      go_wp2
      go_ret2
      exact ⟨r, gs, rfl, HL.out.1, HL.out.2, ⟨arm, lf, tn, vs, HX.out⟩, HKP.out⟩

end Go.Proofs.Ytppkjebiiheljaa
