import Derived.Test.YtphiokehcgbldaaNw
import Derived.Deep.RegionHeld3
namespace Go.Proofs.Ytphiokehcgbldaa
open Go.RowKit Go.Shelf
set_option linter.unusedVariables false
set_option linter.unusedSimpArgs false

/-- The six cells of a told packet. -/
def PkAt (W : World) (g i : Nat) (x : Tp) : Prop := W.cell? ⟨g, i, none⟩ = some (.bool x.q.nm.1.1) ∧ W.cell? ⟨g, i + 1, none⟩ = some (.int .i64 x.q.nm.1.2) ∧ W.cell? ⟨g, i + 2, none⟩ = some (.int .i64 x.q.nm.2) ∧ W.cell? ⟨g, i + 3, none⟩ = some (.bool x.q.to'.1) ∧ W.cell? ⟨g, i + 4, none⟩ = some (.int .i64 x.q.to'.2) ∧ W.cell? ⟨g, i + 5, none⟩ = some (.slice x.a x.q.zs.length x.c)
theorem pk_at {W : World} {base cap i : Nat} {a : Option Addr} {xs : List Tp} (h : Own 44 6 W base a cap xs.length (xs.flatMap pkL)) {x : Tp} (hi : xs[i]? = some x) : ∃ pg, a = some ⟨pg, 0, none⟩ ∧ PkAt W pg (i * 6) x := by
  obtain ⟨pg, e, hc⟩ := own_at (enc := pkL) (c := 6) (fun _ => rfl) (by omega) h hi
  refine ⟨pg, e, ?_, ?_, ?_, ?_, ?_, ?_⟩
  · simpa using hc 0 _ rfl
  · exact hc 1 _ rfl
  · exact hc 2 _ rfl
  · exact hc 3 _ rfl
  · exact hc 4 _ rfl
  · exact hc 5 _ rfl
set_option maxRecDepth 100000 in
set_option maxHeartbeats 8000000 in
theorem names_any {I : Nat → Prop} {n : Nat} {s : Ns} (w : World) (hN : NetM w n s I) (hs : Sml s) : Calls Try.prog 20 #[.pointer (some ⟨n, 0, none⟩)] w (fun e w' => e = .returned (.bool true) ∧ Kept No w w') := by
  have HN : Hid (NetM w n s I) := hN
  have HS : Hid (Sml s) := hs
  clear hN hs
  obtain ⟨m, hme⟩ : ∃ m, m = s.L.length := ⟨_, rfl⟩
  have HM : Hid (s.L.length = m) := hme.symm
  have hm : m ≤ 1000000000000 := by have := len_came HN.out.ok; have := HS.out.1; omega
  clear hme
  go_enter Try.func20, Try.ntmps20
  go_wp2_with (go_at_call 26; refine (listed_any w HN.out HS.out).mono ?_; rintro e w1 ⟨la, lc, xs, rfl, hxs, hO, hT, hk⟩; rw [HM.out]; have H1 : Hid (xs.map Tp.q = s.L ∧ Own 44 6 w1 w.heap.size la lc s.L.length (xs.flatMap pkL) ∧ TpN w1 w.heap.size xs ∧ Kept No w w1) := ⟨hxs, hO, hT, hk⟩; clear hxs hO hT hk)
  have HX : Hid (xs.length = m) := by show _ = _; rw [← HM.out, ← H1.out.1, List.length_map]
  go_loopw [5] (fun i wr => ∃ k : Nat, k ≤ m ∧ i = .int .i64 (k : Int) ∧ Hid (Kept No w1 wr)) (fun i _ => m - (intOf i).toNat)
  case atStart => exact ⟨0, by omega, rfl, Kept.refl _ _⟩
  case round =>
    obtain ⟨k, hk, rfl, HK⟩ := hrel
    by_cases hlt : k < m
    · obtain ⟨x, hx⟩ : ∃ x, xs[k]? = some x := ⟨_, List.getElem?_eq_getElem (by rw [HX.out]; exact hlt)⟩
      have hlt' : (k : Int) < (m : Int) := by omega
      have hO1 : Own 44 6 w1 w.heap.size la lc xs.length (xs.flatMap pkL) := by rw [HX.out, ← HM.out]; exact H1.out.2.1
      obtain ⟨pg, rfl, hpk⟩ := pk_at hO1 hx
      have HXk : Hid (xs[k]? = some x ∧ s.L[k]? = some x.q ∧ x ∈ xs ∧ x.q ∈ s.L) := by
        have h2 : s.L[k]? = some x.q := by rw [← H1.out.1, List.getElem?_map, hx]; rfl
        exact ⟨hx, h2, List.mem_of_getElem? hx, List.mem_of_getElem? h2⟩
      have HPx : Hid (∀ W, Kept No w1 W → PkAt W pg (k * 6) x) := fun W hk => by
        obtain ⟨pg', e, h⟩ := pk_at (Own.no hO1 hk) hx
        cases e; exact h
      have HO1 : Hid (Own 44 6 w1 w.heap.size (some ⟨pg, 0, none⟩) lc xs.length (xs.flatMap pkL)) := hO1
      clear hx hpk hO1
      obtain ⟨⟨⟨⟨xc, xi⟩, xn⟩, ⟨xtc, xti⟩, xda, xdc, xz, xpl⟩, xa, xcc⟩ := x
      go_wp2
      go_loopw [6, 7] (fun v j wi => ∃ q : Nat, q ≤ m ∧ j = .int .i64 (q : Int) ∧ v = .int .i64 ((cnP (s.L.take q) ((xc, xi), (xtc, xti)) : Nat) : Int) ∧ Hid (Kept No w1 wi)) (fun _ j _ => m - (intOf j).toNat)
      case atStart => exact ⟨0, by omega, rfl, rfl, HK⟩
      case round =>
        clear HK
        obtain ⟨q, hq, rfl, rfl, HK⟩ := hrel
        by_cases hlq : q < m
        · obtain ⟨y, hy⟩ : ∃ y, xs[q]? = some y := ⟨_, List.getElem?_eq_getElem (by rw [HX.out]; exact hlq)⟩
          have hlq' : (q : Int) < (m : Int) := by omega
          have HPy : Hid (∀ W, Kept No w1 W → PkAt W pg (q * 6) y) := fun W hk => by
            obtain ⟨pg', e, h⟩ := pk_at (Own.no HO1.out hk) hy
            cases e; exact h
          have HYq : Hid (xs[q]? = some y ∧ s.L[q]? = some y.q ∧ y ∈ xs ∧ y.q ∈ s.L) := by
            have h2 : s.L[q]? = some y.q := by rw [← H1.out.1, List.getElem?_map, hy]; rfl
            exact ⟨hy, h2, List.mem_of_getElem? hy, List.mem_of_getElem? h2⟩
          clear hy
          obtain ⟨⟨⟨⟨yc, yi⟩, yn⟩, ⟨ytc, yti⟩, yda, ydc, yz, ypl⟩, ya, ycc⟩ := y
          have HT : Hid (cnP (s.L.take (q + 1)) ((xc, xi), (xtc, xti)) = cnP (s.L.take q) ((xc, xi), (xtc, xti)) + if ((yc, yi), (ytc, yti)) = (((xc, xi), (xtc, xti)) : Pr) then 1 else 0) := by
            show _ = _
            rw [List.take_add_one, HYq.out.2.1, Option.toList_some, cnP_add]
          have hcl : cnP (s.L.take q) ((xc, xi), (xtc, xti)) ≤ 64 := Nat.le_trans (List.Sublist.length_le ((List.take_sublist q s.L).filter _)) (HN.out.ok.way _)
          generalize cnP (s.L.take q) ((xc, xi), (xtc, xti)) = cn at HT hcl ⊢
          obtain ⟨x0, x1, x2, x3, x4, x5⟩ := HPx.out wr HK.out
          obtain ⟨y0, y1, y2, y3, y4, y5⟩ := HPy.out wr HK.out
          simp only at x0 x1 x2 x3 x4 x5 y0 y1 y2 y3 y4 y5
          have e1 := beq34 yc xc yi xi
          have e2 := beq34 ytc xtc yti xti
          by_cases p1 : (yc, yi) = (xc, xi)
          · rw [decide_eq_true p1] at e1
            by_cases p2 : yn = xn
            · subst p2
              have hsm : SameP ⟨((yc, yi), yn), (ytc, yti), yda, ydc, yz, ypl⟩ ⟨((xc, xi), yn), (xtc, xti), xda, xdc, xz, xpl⟩ := HN.out.ok.alike _ HYq.out.2.2.2 _ HXk.out.2.2.2 (by show ((yc, yi), yn) = ((xc, xi), yn); rw [p1])
              have p3 : (ytc, yti) = (xtc, xti) := hsm.1
              have p4 : yz = xz := hsm.2.2.2
              rw [decide_eq_true p3] at e2
              rw [if_pos (by rw [p1, p3])] at HT
              have HSm : Hid (∀ W, Kept No w1 W → Calls Try.prog 22 #[.agg #[.bool xc, .int .i64 xi, .int .i64 yn, .bool xtc, .int .i64 xti, .slice xa xz.length xcc], .agg #[.bool yc, .int .i64 yi, .int .i64 yn, .bool ytc, .int .i64 yti, .slice ya yz.length ycc]] W (fun e w' => e = .returned (.bool true) ∧ Kept No W w')) := fun W hk => by
                have hxo := (H1.out.2.2.1.own _ HXk.out.2.2.1).no hk
                have hyo := (H1.out.2.2.1.own _ HYq.out.2.2.1).no hk
                refine (same_pk (xc, xi) (yc, yi) (xtc, xti) (ytc, yti) yn yn xa ya xcc ycc xz yz W (HS.out.2 _ HXk.out.2.2.2) (HS.out.2 _ HYq.out.2.2.2) (OwnB.bytes hxo) (OwnB.bytes hyo)).mono ?_
                rintro e w' ⟨rfl, hk'⟩
                refine ⟨?_, hk'⟩
                rw [decide_eq_true ⟨p1.symm, rfl, p3.symm⟩, Bool.true_and, p4]
                congr 2
                exact (eqB_all rfl (fun j _ => rfl)).symm
              clear p1 p3 p4 hsm
              go_upto_region 11 with fail
              go_region_held3 (fun w' => w'.cell? ⟨pg, k * 6, none⟩ = some (.bool xc) ∧ w'.cell? ⟨pg, k * 6 + 1, none⟩ = some (.int .i64 xi) ∧ w'.cell? ⟨pg, k * 6 + 2, none⟩ = some (.int .i64 yn) ∧ w'.cell? ⟨pg, k * 6 + 3, none⟩ = some (.bool xtc) ∧ w'.cell? ⟨pg, k * 6 + 4, none⟩ = some (.int .i64 xti) ∧ w'.cell? ⟨pg, k * 6 + 5, none⟩ = some (.slice xa xz.length xcc) ∧ w'.cell? ⟨pg, q * 6, none⟩ = some (.bool yc) ∧ w'.cell? ⟨pg, q * 6 + 1, none⟩ = some (.int .i64 yi) ∧ w'.cell? ⟨pg, q * 6 + 2, none⟩ = some (.int .i64 yn) ∧ w'.cell? ⟨pg, q * 6 + 3, none⟩ = some (.bool ytc) ∧ w'.cell? ⟨pg, q * 6 + 4, none⟩ = some (.int .i64 yti) ∧ w'.cell? ⟨pg, q * 6 + 5, none⟩ = some (.slice ya yz.length ycc)) (go_keep) (first
                | (go_at_call 22
                   refine (HSm.out _ (HK.out.then (Kept.refl No wr).drew)).mono ?_
                   rintro e w5 ⟨rfl, hk5⟩
                   have HK5 : Hid (Kept No w1 w5) := (HK.out.then (Kept.refl No wr).drew).then hk5
                   obtain ⟨x0', x1', x2', x3', x4', x5'⟩ := HPx.out w5 HK5.out
                   obtain ⟨y0', y1', y2', y3', y4', y5'⟩ := HPy.out w5 HK5.out
                   simp only at x0' x1' x2' x3' x4' x5' y0' y1' y2' y3' y4' y5'
                   clear hk5))
              clear x0 x1 x2 x3 x4 x5 y0 y1 y2 y3 y4 y5
              go_upto_region 13 with fail
              go_quiet (fail)
              go_wp2
              go_roundw
              case rel => exact ⟨q + 1, by omega, by go_num, by rw [HT.out]; go_num, HK5.out.drewN _⟩
              case measure => simp [intOf]; omega
            · by_cases p3 : (ytc, yti) = (xtc, xti)
              · rw [decide_eq_true p3] at e2
                rw [if_pos (by rw [p1, p3])] at HT
                clear p1 p3
                go_upto_region 11 with fail
                go_quiet (fail)
                go_upto_region 13 with fail
                go_quiet (fail)
                go_wp2
                go_roundw
                case rel => exact ⟨q + 1, by omega, by go_num, by rw [HT.out]; go_num, HK.out.drewN _⟩
                case measure => simp [intOf]; omega
              · rw [decide_eq_false p3] at e2
                rw [if_neg (fun h => p3 (congrArg Prod.snd h))] at HT
                clear p1 p3
                go_upto_region 11 with fail
                go_quiet (fail)
                go_upto_region 13 with fail
                go_quiet (fail)
                go_wp2
                go_roundw
                case rel => exact ⟨q + 1, by omega, by go_num, by rw [HT.out]; rfl, HK.out.drewN _⟩
                case measure => simp [intOf]; omega
          · rw [decide_eq_false p1] at e1
            rw [if_neg (fun h => p1 (congrArg Prod.fst h))] at HT
            clear p1 e2
            go_upto_region 11 with fail
            go_quiet (fail)
            go_upto_region 13 with fail
            go_quiet (fail)
            go_wp2
            go_roundw
            case rel => exact ⟨q + 1, by omega, by go_num, by rw [HT.out]; rfl, HK.out.drewN _⟩
            case measure => simp [intOf]; omega
        · have hlq' : ¬ (q : Int) < (m : Int) := by omega
          have hqm : q = m := by omega
          have hcn : cnP (s.L.take q) ((xc, xi), (xtc, xti)) = cnP s.L ((xc, xi), (xtc, xti)) := by rw [List.take_of_length_le (by rw [HM.out]; omega)]
          have hcl : cnP s.L ((xc, xi), (xtc, xti)) ≤ 64 := HN.out.ok.way _
          have HPa : Hid (∀ W, Kept No w1 W → Calls Try.prog 12 #[.pointer (some ⟨n, 0, none⟩), .agg #[.bool xc, .int .i64 xi], .agg #[.bool xtc, .int .i64 xti]] W (fun e w' => e = .returned (.int .i64 (cnP s.L ((xc, xi), (xtc, xti)) : Nat)) ∧ Kept No W w')) := fun W hk => pair3 W ((HN.out.no H1.out.2.2.2).no hk) (xc, xi) (xtc, xti) xc xtc xi xti rfl rfl
          rw [hcn]
          clear hcn hqm
          generalize cnP s.L ((xc, xi), (xtc, xti)) = cn at hcl HPa ⊢
          have hgt : ¬ (cn : Int) > 64 := by omega
          obtain ⟨x0, x1, x2, x3, x4, x5⟩ := HPx.out wr HK.out
          simp only at x0 x1 x2 x3 x4 x5
          go_upto_region 15 with fail
          go_region_held3 (fun w' => w'.cell? ⟨pg, k * 6, none⟩ = some (.bool xc) ∧ w'.cell? ⟨pg, k * 6 + 1, none⟩ = some (.int .i64 xi) ∧ w'.cell? ⟨pg, k * 6 + 3, none⟩ = some (.bool xtc) ∧ w'.cell? ⟨pg, k * 6 + 4, none⟩ = some (.int .i64 xti)) (go_keep) (first
            | (go_at_call 12
               refine (HPa.out _ (HK.out.then (Kept.refl No wr).drew)).mono ?_
               rintro e w5 ⟨rfl, hk5⟩
               have HK5 : Hid (Kept No w1 w5) := (HK.out.then (Kept.refl No wr).drew).then hk5
               obtain ⟨x0', x1', x2', x3', x4', x5'⟩ := HPx.out w5 HK5.out
               simp only at x0' x1' x2' x3' x4' x5'
               clear hk5))
          clear x0 x1 x2 x3 x4 x5
          go_wp2
          refine ⟨⟨k + 1, by omega, by go_num, HK5⟩, ?_⟩
          simp [intOf]; omega
    · have hlt' : ¬ (k : Int) < (m : Int) := by omega
      go_wp2
      go_ret
      exact ⟨rfl, H1.out.2.2.2.then HK.out⟩
end Go.Proofs.Ytphiokehcgbldaa
