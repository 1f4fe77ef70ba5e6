import Derived.Test.YtnhjpghkmbgeaabMa
import Derived.Test.YtnhjpghkmbgeaabU
namespace Go.Proofs.Ytnhjpghkmbgeaab
open Go.RowKit
set_option linter.unusedVariables false

theorem OwnS.row2 {w : World} {base g : Nat} {cap : Nat} {zs : List Int} (h : OwnS w base (some ⟨g, 0, none⟩) cap zs) (j : Nat) (hj : j < zs.length) :
    w.cell? ⟨g, j, none⟩ = some (.int .u8 (zs[j]?.getD 0)) ∧ w.frozen? ⟨g, j, none⟩ = false := by
  refine ⟨?_, World.ownsRow.frozenAt h j⟩
  rw [World.ownsRow.cellAt h j (by omega)]
  simp [hj]
theorem OwnS.set2 {w : World} {base g : Nat} {cap : Nat} {zs : List Int} (h : OwnS w base (some ⟨g, 0, none⟩) cap zs) (j : Nat) (x : Int) : OwnS (w.setCell ⟨g, j, none⟩ (.int .u8 x)) base (some ⟨g, 0, none⟩) cap (zs.set j x) := by
  have := (World.ownsRow.stored h j (.int .u8 x)).1
  unfold OwnS
  rw [List.length_set, List.map_set]
  exact this
theorem opens_eq2 {w w' : World} {zs L : List Int} {x : Int} {e : Ending} (h : openOf zs = (L, x)) (k : Opens w zs e w') :
    ∃ a' c', e = .returned (.tuple #[.slice a' L.length c', .int .i64 x]) ∧ OwnS w' w.heap.size a' c' L ∧ Kept No w w' := by
  obtain ⟨a', n', c', h1, h2, h3, h4⟩ := k
  rw [h] at h1 h2 h3
  subst h2
  exact ⟨a', c', h1, h3, h4⟩
theorem OwnS.some {w : World} {base : Nat} {a : Option Addr} {c : Nat} {zs : List Int} (h : OwnS w base a c zs) (h0 : 0 < zs.length) : ∃ g, a = Option.some ⟨g, 0, none⟩ ∧ base ≤ g := by
  rcases h.cases with ⟨_, _, e⟩ | ⟨g, e, hb, _⟩
  · rw [e] at h0; simp at h0
  · exact ⟨g, e, hb⟩

theorem xor1_ne {z : Int} (h : 0 ≤ z ∧ z ≤ 255) : z ≠ bits .xor .u8 z 1 := by
  obtain ⟨n, rfl⟩ : ∃ n : Nat, z = (n : Int) := ⟨z.toNat, by omega⟩
  have hn : n < 256 := by omega
  clear h
  revert n
  decide +kernel

set_option maxRecDepth 100000 in
set_option maxHeartbeats 2000000 in
theorem moved_any (a : Option Addr) (m cap : Nat) (zs : List Int) (w : World) (h : Sl w a m cap zs) (hm : m ≤ 2000) :
    Calls Try.prog 21 #[.slice a m cap] w fun e w' => e = .returned (.bool true) ∧ Kept No w w' := by
  have HS : Hid (Sl w a m cap zs) := h
  clear h
  by_cases h0 : m = 0
  · subst h0
    go_enter Try.func21, Try.ntmps21
    go_wp2
    go_ret
    exact ⟨rfl, Kept.refl _ _⟩
  · have t0 : ((m : Int) == 0) = false := by simp; omega
    have HL : Hid (zs.length = m) := HS.out.len
    go_enter Try.func21, Try.ntmps21
    go_wp2_with (at_builtin; go_must (refine wp_app _ Try.underlying22 Try.info5 rfl _ _ rfl w.heap.size _ 0 0 [] rfl rfl (own_empty w) _ _ _ zs rfl HL.out (HS.out.bytes.no ((Kept.refl _ _).alloc _)) HS.out.nil (by have := HL.out; simp; omega) (by simp) ?_; intro a1 c1 w1 HO1 HK1 HN1))
    obtain ⟨G, rfl, hG⟩ := HO1.out.some (by have := HL.out; simp; omega)
    have HO2 : Hid (OwnS w1 w.heap.size (some ⟨G, 0, none⟩) c1 zs) := by have := HO1.out; rw [List.nil_append] at this; exact this
    have HU2 : Hid (U8 zs) := HS.out.u8
    have HK2 : Hid (Kept No w w1) := ((Kept.refl No w).alloc _).fresh HK1.out (fun k e => by have := at_some e; omega)
    clear HO1 HK1 HN1
    refine (sumN_any _ m _ zs w1 HL.out (by omega) HO2.out.bytes HU2.out).mono ?_
    rintro e w2 ⟨rfl, rfl⟩
    obtain ⟨hcl3, hfr3⟩ := HO2.out.row2 0 (by have := HL.out; omega)
    generalize zs[0]?.getD 0 = z3 at hcl3
    obtain ⟨v3, hv3⟩ : ∃ v, bits .xor .u8 z3 1 = v := ⟨_, rfl⟩
    have hv3b : 0 ≤ v3 ∧ v3 ≤ 255 := by rw [← hv3]; exact ⟨bits_lo_u8 _ _ _, bits_hi_u8 _ _ _⟩
    go_wp2_with fail
    obtain ⟨w3, hw3⟩ : ∃ w', w' = w2.setCell ⟨G, 0, none⟩ (.int .u8 v3) := ⟨_, rfl⟩
    rw [← hw3]
    have hn3 : ∃ y : List Int, y.length = m ∧ U8 y ∧ OwnS w3 w.heap.size (some ⟨G, 0, none⟩) c1 y := ⟨zs.set 0 v3, by rw [List.length_set]; exact HL.out, HU2.out.set 0 hv3b, by rw [hw3]; exact HO2.out.set2 0 v3⟩
    have HK3 : Hid (Kept No w w3) := by rw [hw3]; exact HK2.out.setCell (p := ⟨G, 0, none⟩) (fun h => absurd h (by show ¬ G < _; omega)) _
    have HX3 : Hid (Kept (Only G) w2 w3) := by rw [hw3]; exact (Kept.refl (Only G) _).setCell (p := ⟨G, 0, none⟩) (fun _ => (rfl : G = G)) _
    obtain ⟨y3, hl3, hu3, ho3⟩ := hn3
    have HL3 : Hid (y3.length = m) := hl3
    have HU3 : Hid (U8 y3) := hu3
    have HO3 : Hid (OwnS w3 w.heap.size (some ⟨G, 0, none⟩) c1 y3) := ho3
    clear hl3 hu3 ho3 hw3 hv3 hv3b hcl3 hfr3
    clear HO2 HK2
    refine (sumN_any _ m _ y3 w3 HL3.out (by omega) HO3.out.bytes HU3.out).mono ?_
    rintro e w3' ⟨rfl, hw3'⟩
    subst hw3'
    go_wp2_with (at_builtin; go_must (refine wp_app _ Try.underlying22 Try.info5 rfl _ _ rfl w3'.heap.size _ 0 0 [] rfl rfl (own_empty w3') _ _ _ y3 rfl HL3.out (HO3.out.bytes.no ((Kept.refl _ _).alloc _)) (fun e => by cases e) (by have := HL3.out; simp; omega) (by simp) ?_; intro a4 c4 w4 HA4 HB4 HC4))
    have HS4 : Hid (Sl w4 a4 m c4 y3) := by have := HA4.out; rw [List.nil_append] at this; exact this.sl HL3.out HU3.out (by omega)
    have HY4 : Hid (Kept No w3' w4) := ((Kept.refl No w3').alloc _).fresh HB4.out (fun k e => by have := at_some e; omega)
    have HO4 : Hid (OwnS w4 w.heap.size (some ⟨G, 0, none⟩) c1 y3) := HO3.out.no HY4.out
    have HK4 : Hid (Kept No w w4) := HK3.out.then HY4.out
    clear HA4 HB4 HC4
    refine (sumN_any _ m _ y3 w4 HL3.out (by omega) HS4.out.bytes HU3.out).mono ?_
    rintro e w5 ⟨rfl, hw5⟩
    subst hw5
    generalize sumOf y3 = S1
    clear HS4 HO3 HK3
    go_wp2_with fail
    refine (seal_any _ m _ y3 w5 HL3.out (by omega) HO4.out.bytes HU3.out (fun e => by cases e)).mono ?_
    rintro e w6 ⟨a6, c6, rfl, hO6, hK6⟩
    have HO6 : Hid (OwnS w6 w.heap.size (some ⟨G, 0, none⟩) c1 y3) := HO4.out.no hK6
    have HK6 : Hid (Kept No w w6) := HK4.out.then hK6
    clear hO6 hK6 HO4 HK4 HY4 HX3
    obtain ⟨hcl7, hfr7⟩ := HO6.out.row2 0 (by have := HL3.out; omega)
    generalize y3[0]?.getD 0 = z7 at hcl7
    obtain ⟨v7, hv7⟩ : ∃ v, bits .xor .u8 z7 2 = v := ⟨_, rfl⟩
    have hv7b : 0 ≤ v7 ∧ v7 ≤ 255 := by rw [← hv7]; exact ⟨bits_lo_u8 _ _ _, bits_hi_u8 _ _ _⟩
    go_wp2_with fail
    obtain ⟨w7, hw7⟩ : ∃ w', w' = w6.setCell ⟨G, 0, none⟩ (.int .u8 v7) := ⟨_, rfl⟩
    rw [← hw7]
    have hn7 : ∃ y : List Int, y.length = m ∧ U8 y ∧ OwnS w7 w.heap.size (some ⟨G, 0, none⟩) c1 y := ⟨y3.set 0 v7, by rw [List.length_set]; exact HL3.out, HU3.out.set 0 hv7b, by rw [hw7]; exact HO6.out.set2 0 v7⟩
    have HK7 : Hid (Kept No w w7) := by rw [hw7]; exact HK6.out.setCell (p := ⟨G, 0, none⟩) (fun h => absurd h (by show ¬ G < _; omega)) _
    have HX7 : Hid (Kept (Only G) w6 w7) := by rw [hw7]; exact (Kept.refl (Only G) _).setCell (p := ⟨G, 0, none⟩) (fun _ => (rfl : G = G)) _
    obtain ⟨y7, hl7, hu7, ho7⟩ := hn7
    have HL7 : Hid (y7.length = m) := hl7
    have HU7 : Hid (U8 y7) := hu7
    have HO7 : Hid (OwnS w7 w.heap.size (some ⟨G, 0, none⟩) c1 y7) := ho7
    clear hl7 hu7 ho7 hw7 hv7 hv7b hcl7 hfr7
    clear HO6 HK6 HU3 HL3 HX7
    refine (seal_any _ m _ y7 w7 HL7.out (by omega) HO7.out.bytes HU7.out (fun e => by cases e)).mono ?_
    rintro e w8 ⟨a8, c8, rfl, hO8, hK8⟩
    have HE8 : Hid (OwnS w8 w7.heap.size a8 c8 (sealOf y7)) := hO8
    have HO8 : Hid (OwnS w8 w.heap.size (some ⟨G, 0, none⟩) c1 y7) := HO7.out.no hK8
    have HK8 : Hid (Kept No w w8) := HK7.out.then hK8
    have HG8 : Hid (G < w7.heap.size) := HO7.out.lt ⟨_, rfl, rfl⟩
    have HQ8 : Hid ((sealOf y7).length = m + 12 ∧ U8 (sealOf y7)) := ⟨by rw [sealOf_len, HL7.out], sealOf_u8 HU7.out⟩
    clear hO8 hK8 HO7
    go_wp2_with (at_builtin; go_must (refine wp_app _ Try.underlying22 Try.info5 rfl _ _ rfl w8.heap.size _ 0 0 [] rfl rfl (own_empty w8) _ _ _ y7 rfl HL7.out (HO8.out.bytes.no ((Kept.refl _ _).alloc _)) (fun e => by cases e) (by have := HL7.out; simp; omega) (by simp) ?_; intro a9 c9 w9 HA9 HB9 HC9))
    have HS9 : Hid (Sl w9 a9 m c9 y7) := by have := HA9.out; rw [List.nil_append] at this; exact this.sl HL7.out HU7.out (by omega)
    have HY9 : Hid (Kept No w8 w9) := ((Kept.refl No w8).alloc _).fresh HB9.out (fun k e => by have := at_some e; omega)
    have HO9 : Hid (OwnS w9 w.heap.size (some ⟨G, 0, none⟩) c1 y7) := HO8.out.no HY9.out
    have HK9 : Hid (Kept No w w9) := HK8.out.then HY9.out
    clear HA9 HB9 HC9
    have HE9 : Hid (OwnS w9 w7.heap.size a8 c8 (sealOf y7)) := HE8.out.no HY9.out
    refine (seal_any _ m _ y7 w9 HL7.out (by omega) HS9.out.bytes HU7.out HS9.out.nil).mono ?_
    rintro e w10 ⟨a10, c10, rfl, hO10, hK10⟩
    have HB10 : Hid (Bytes w10 a10 (sealOf y7)) := hO10.bytes
    have HE10 : Hid (OwnS w10 w7.heap.size a8 c8 (sealOf y7)) := HE9.out.no hK10
    have HO10 : Hid (OwnS w10 w.heap.size (some ⟨G, 0, none⟩) c1 y7) := HO9.out.no hK10
    have HK10 : Hid (Kept No w w10) := HK9.out.then hK10
    clear hO10 hK10 HO9 HK9 HE9 HE8 HO8 HK8 HS9 HY9
    go_wp2_with fail
    have hsm := sameN_any a8 a10 (m + 12) (m + 12) c8 c10 (sealOf y7) (sealOf y7) w10 HQ8.out.1 HQ8.out.1 (by omega) (by omega) HE10.out.bytes HB10.out
    rw [eqB_refl] at hsm
    refine hsm.mono ?_
    rintro e w11 ⟨rfl, n11, hw11⟩
    have HK11 : Hid (Kept No w w11) := by rw [hw11]; exact HK10.out.drewN _
    have HE11 : Hid (OwnS w11 w7.heap.size a8 c8 (sealOf y7)) := by rw [hw11]; exact HE10.out.no (Kept.no_drewN _ _)
    have HO11 : Hid (OwnS w11 w.heap.size (some ⟨G, 0, none⟩) c1 y7) := by rw [hw11]; exact HO10.out.no (Kept.no_drewN _ _)
    clear hsm hw11 HB10 HE10 HO10 HK10
    go_wp2_with fail
    refine (Read_any _ m _ y7 w11 (HO11.out.sl HL7.out HU7.out (by omega))).mono ?_
    rintro e w12 ⟨g, lb, rfl, hg, hlb, hr, hK12, hgl, hlbl⟩
    have HR12 : Hid (Rs w12 g lb (.ok y7 0)) := hr
    have HE12 : Hid (OwnS w12 w7.heap.size a8 c8 (sealOf y7)) := HE11.out.no hK12
    have HO12 : Hid (OwnS w12 w.heap.size (some ⟨G, 0, none⟩) c1 y7) := HO11.out.no hK12
    have HK12 : Hid (Kept No w w12) := HK11.out.then hK12
    have HG12 : Hid (w11.heap.size ≤ g) := hg
    have HV12 : Hid (G < w11.heap.size ∧ (∀ k, At a8 k → k < w11.heap.size) ∧ w.heap.size ≤ w11.heap.size) := ⟨HO11.out.lt ⟨_, rfl, rfl⟩, fun k hk => HE11.out.lt hk, HK11.out.size⟩
    clear hg hlb hr hK12 hgl hlbl HE11 HO11 HK11
    go_wp2_with fail
    refine (Int_all g lb (.ok y7 0) w12 HR12.out).mono ?_
    rintro e w13 ⟨rfl, hr13, hk13⟩
    have HE13 : Hid (OwnS w13 w7.heap.size a8 c8 (sealOf y7)) := HE12.out.kept hk13 (fun k hk e => by have e' : k = g := e; have h1 := HV12.out.2.1 k hk; have h2 := HG12.out; omega)
    have HO13 : Hid (OwnS w13 w.heap.size (some ⟨G, 0, none⟩) c1 y7) := HO12.out.kept hk13 (fun k hk e => by have e' : k = g := e; have h0 := at_some hk; have h1 := HV12.out.1; have h2 := HG12.out; omega)
    have HK13 : Hid (Kept No w w13) := HK12.out.fresh hk13 (fun k e => by have e' : k = g := e; have h1 := HV12.out.2.2; have h2 := HG12.out; omega)
    clear hr13 hk13 HE12 HO12 HK12 HR12 HG12 HV12
    generalize (intS (.ok y7 0)).2 = I0
    obtain ⟨hcl14, hfr14⟩ := HO13.out.row2 0 (by have := HL7.out; omega)
    generalize y7[0]?.getD 0 = z14 at hcl14
    obtain ⟨v14, hv14⟩ : ∃ v, bits .xor .u8 z14 4 = v := ⟨_, rfl⟩
    have hv14b : 0 ≤ v14 ∧ v14 ≤ 255 := by rw [← hv14]; exact ⟨bits_lo_u8 _ _ _, bits_hi_u8 _ _ _⟩
    go_wp2_with fail
    obtain ⟨w14, hw14⟩ : ∃ w', w' = w13.setCell ⟨G, 0, none⟩ (.int .u8 v14) := ⟨_, rfl⟩
    rw [← hw14]
    have hn14 : ∃ y : List Int, y.length = m ∧ U8 y ∧ OwnS w14 w.heap.size (some ⟨G, 0, none⟩) c1 y := ⟨y7.set 0 v14, by rw [List.length_set]; exact HL7.out, HU7.out.set 0 hv14b, by rw [hw14]; exact HO13.out.set2 0 v14⟩
    have HK14 : Hid (Kept No w w14) := by rw [hw14]; exact HK13.out.setCell (p := ⟨G, 0, none⟩) (fun h => absurd h (by show ¬ G < _; omega)) _
    have HX14 : Hid (Kept (Only G) w13 w14) := by rw [hw14]; exact (Kept.refl (Only G) _).setCell (p := ⟨G, 0, none⟩) (fun _ => (rfl : G = G)) _
    obtain ⟨y14, hl14, hu14, ho14⟩ := hn14
    have HL14 : Hid (y14.length = m) := hl14
    have HU14 : Hid (U8 y14) := hu14
    have HO14 : Hid (OwnS w14 w.heap.size (some ⟨G, 0, none⟩) c1 y14) := ho14
    clear hl14 hu14 ho14 hw14 hv14 hv14b hcl14 hfr14
    have HE14 : Hid (OwnS w14 w7.heap.size a8 c8 (sealOf y7)) := HE13.out.kept HX14.out (fun k hk e => by have e' : k = G := e; have h1 := HE13.out.base hk; have h2 := HG8.out; omega)
    clear HE13 HO13 HK13 HX14
    refine (Read_any _ m _ y14 w14 (HO14.out.sl HL14.out HU14.out (by omega))).mono ?_
    rintro e w15 ⟨g2, lb2, rfl, hg, hlb, hr, hK15, hgl, hlbl⟩
    have HR15 : Hid (Rs w15 g2 lb2 (.ok y14 0)) := hr
    have HE15 : Hid (OwnS w15 w7.heap.size a8 c8 (sealOf y7)) := HE14.out.no hK15
    have HO15 : Hid (OwnS w15 w.heap.size (some ⟨G, 0, none⟩) c1 y14) := HO14.out.no hK15
    have HK15 : Hid (Kept No w w15) := HK14.out.then hK15
    have HV15 : Hid (w14.heap.size ≤ g2 ∧ g2 < w15.heap.size ∧ lb2 < w15.heap.size ∧ (∀ k, At a8 k → k < w14.heap.size) ∧ w.heap.size ≤ w14.heap.size ∧ w14.heap.size ≤ w15.heap.size) := ⟨hg, hgl, hlbl, fun k hk => HE14.out.lt hk, HK14.out.size, hK15.size⟩
    clear hg hlb hr hK15 hgl hlbl HE14 HO14 HK14
    go_wp2_with (at_builtin; go_must (refine wp_app _ Try.underlying22 Try.info5 rfl _ _ rfl w15.heap.size _ 0 0 [] rfl rfl (own_empty w15) _ _ _ y14 rfl HL14.out (HO15.out.bytes.no ((Kept.refl _ _).alloc _)) (fun e => by cases e) (by have := HL14.out; simp; omega) (by simp) ?_; intro a16 c16 w16 HA16 HB16 HC16))
    have HS16 : Hid (Sl w16 a16 m c16 y14) := by have := HA16.out; rw [List.nil_append] at this; exact this.sl HL14.out HU14.out (by omega)
    have HY16 : Hid (Kept No w15 w16) := ((Kept.refl No w15).alloc _).fresh HB16.out (fun k e => by have := at_some e; omega)
    have HO16 : Hid (OwnS w16 w.heap.size (some ⟨G, 0, none⟩) c1 y14) := HO15.out.no HY16.out
    have HK16 : Hid (Kept No w w16) := HK15.out.then HY16.out
    clear HA16 HB16 HC16
    refine (Read_any _ m _ y14 w16 HS16.out).mono ?_
    rintro e w17 ⟨g3, lb3, rfl, hg, hlb, hr, hK17, hgl, hlbl⟩
    have HR17 : Hid (Rs w17 g2 lb2 (.ok y14 0)) := (HR15.out.no HY16.out).no hK17
    have HR17b : Hid (Rs w17 g3 lb3 (.ok y14 0)) := hr
    have HE17 : Hid (OwnS w17 w7.heap.size a8 c8 (sealOf y7)) := (HE15.out.no HY16.out).no hK17
    have HK17 : Hid (Kept No w w17) := HK16.out.then hK17
    have HV17 : Hid (w14.heap.size ≤ g2 ∧ w14.heap.size ≤ g3 ∧ g2 < g3 ∧ g2 < lb3 ∧ (∀ k, At a8 k → k < w14.heap.size) ∧ w.heap.size ≤ w14.heap.size) := by
      have h1 := HV15.out
      have h2 := HY16.out.size
      exact ⟨h1.1, by omega, by omega, by omega, h1.2.2.2.1, h1.2.2.2.2.1⟩
    clear hg hlb hr hK17 hgl hlbl HE15 HO15 HK15 HR15 HY16 HS16 HO16 HK16 HV15
    go_wp2_with fail
    refine (Int_all g2 lb2 (.ok y14 0) w17 HR17.out).mono ?_
    rintro e w18 ⟨rfl, hr18, hk18⟩
    have HR18 : Hid (Rs w18 g3 lb3 (.ok y14 0)) := HR17b.out.kept hk18 (fun e => by have e' : g3 = g2 := e; have := HV17.out; omega) (fun e => by have e' : lb3 = g2 := e; have := HV17.out; omega)
    have HE18 : Hid (OwnS w18 w7.heap.size a8 c8 (sealOf y7)) := HE17.out.kept hk18 (fun k hk e => by have e' : k = g2 := e; have h1 := HV17.out.2.2.2.2.1 k hk; have h2 := HV17.out.1; omega)
    have HK18 : Hid (Kept No w w18) := HK17.out.fresh hk18 (fun k e => by have e' : k = g2 := e; have h1 := HV17.out; omega)
    clear hr18 hk18 HR17 HR17b HE17 HK17
    go_wp2_with fail
    refine (Int_all g3 lb3 (.ok y14 0) w18 HR18.out).mono ?_
    rintro e w19 ⟨rfl, hr19, hk19⟩
    have HE19 : Hid (OwnS w19 w7.heap.size a8 c8 (sealOf y7)) := HE18.out.kept hk19 (fun k hk e => by have e' : k = g3 := e; have h1 := HV17.out.2.2.2.2.1 k hk; have h2 := HV17.out.2.1; omega)
    have HK19 : Hid (Kept No w w19) := HK18.out.fresh hk19 (fun k e => by have e' : k = g3 := e; have h1 := HV17.out; omega)
    clear hr19 hk19 HR18 HE18 HK18 HV17
    generalize (intS (.ok y14 0)).2 = I1
    go_wp2_with fail
    refine (open_sl (HE19.out.sl HQ8.out.1 HQ8.out.2 (by omega))).mono ?_
    rintro e w20 ⟨a20, n20, c20, rfl, hn20, hO20, hK20⟩
    have HE20 : Hid (OwnS w20 w7.heap.size a8 c8 (sealOf y7)) := HE19.out.no hK20
    have HK20 : Hid (Kept No w w20) := HK19.out.then hK20
    clear hn20 hO20 hK20 HE19 HK19
    generalize (openOf (sealOf y7)).2 = F0
    obtain ⟨E, rfl, hE⟩ := HE20.out.some (by have := HQ8.out.1; omega)
    have HEb : Hid (w.heap.size ≤ E) := by have h1 := HK7.out.size; unfold Hid; omega
    clear hE
    have hx : m + 12 - 1 < (sealOf y7).length := by have := HQ8.out.1; omega
    obtain ⟨hcl, hfr⟩ := HE20.out.row2 (m + 12 - 1) hx
    obtain ⟨z, hz⟩ : ∃ z, (sealOf y7)[m + 12 - 1]?.getD 0 = z := ⟨_, rfl⟩
    have hzb : 0 ≤ z ∧ z ≤ 255 := by rw [← hz]; exact HQ8.out.2 _
    rw [hz] at hcl
    obtain ⟨v, hv⟩ : ∃ v, bits .xor .u8 z 1 = v := ⟨_, rfl⟩
    have hvb : 0 ≤ v ∧ v ≤ 255 := by rw [← hv]; exact ⟨bits_lo_u8 _ _ _, bits_hi_u8 _ _ _⟩
    have hne : z ≠ v := by rw [← hv]; exact xor1_ne hzb
    have HT : Hid (openOf ((sealOf y7).set (m + 12 - 1) v) = ([], 12)) := open_turned y7 (by rw [HL7.out]; omega) HU7.out (m + 12 - 1) (by rw [HL7.out]; omega) v hvb (by rw [hz]; exact hne)
    have q1 : m + 12 - 1 = m + 11 := by omega
    rw [q1] at hcl hfr HT
    clear hz hx hne q1
    go_wp2_with fail
    have HE21 : Hid (OwnS (w20.setCell ⟨E, m + 11, none⟩ (.int .u8 v)) w7.heap.size (some ⟨E, 0, none⟩) c8 ((sealOf y7).set (m + 11) v)) := HE20.out.set2 (m + 11) v
    have HK21 : Hid (Kept No w (w20.setCell ⟨E, m + 11, none⟩ (.int .u8 v))) := HK20.out.setCell (p := ⟨E, m + 11, none⟩) (fun h => absurd h (by show ¬ E < _; have := HEb.out; omega)) _
    refine (open_sl (HE21.out.sl (by rw [List.length_set]; exact HQ8.out.1) (HQ8.out.2.set _ hvb) (by omega))).mono ?_
    intro e w22 hop
    obtain ⟨a22, c22, rfl, hO22, hK22⟩ := opens_eq2 HT.out hop
    have HK22 : Hid (Kept No w w22) := HK21.out.then hK22
    clear hop hO22 hK22 HK21 HE21 HK20 HE20
    simp only [List.length_nil]
    go_wp2
    go_ret
    exact ⟨rfl, HK22.out⟩

end Go.Proofs.Ytnhjpghkmbgeaab
