import Derived.Test.YtphiokehcgbldaaNm0
namespace Go.Proofs.Ytphiokehcgbldaa
open Go.RowKit
set_option linter.unusedVariables false
set_option linter.unusedSimpArgs false

def SortP (L : List Pq) (P : Nm → Nat × Nat × Nat) (base : Nat) : Prop :=
  ∀ (W : World) (ra : Option Addr) (rc : Nat) (M : List Pq), Own 89 8 W base ra rc M.length (M.flatMap (stC L P)) → M.length < 1000000000001 → Calls Try.prog 43 #[.slice ra M.length rc, .func (.func 44) #[] #[]] W (fun e W' => e = .returned (.tuple #[]) ∧ ∃ M' : List Pq, M'.Perm M ∧ M'.Pairwise (fun p q => p.pl ≤ q.pl) ∧ Own 89 8 W' base ra rc M.length (M'.flatMap (stC L P)) ∧ Kept (At ra) W W')
theorem PlA.cell {w : World} {b off cap i p : Nat} {ps : List Nat} (h : PlA w b off cap ps) (hp : ps[i]? = some p) : w.cell? ⟨b, off + i, none⟩ = some (.int .i64 (p : Nat)) := by
  obtain ⟨cs, h1, h2, h3, h4⟩ := h
  have := h4 i p hp
  simp [World.cell?, h1, this]
set_option maxRecDepth 100000 in
set_option maxHeartbeats 8000000 in
theorem row_B {I : Nat → Prop} {n : Nat} {s : Ns} {b1 b2 b3 : Nat} {P : Nm → Nat × Nat × Nat} (w : World) (hN : NetB w n s I b1 b2 b3 P) (hfew : s.L.length < 1000000000001) (hsort : SortP s.L P w.heap.size) :
    Calls Try.prog 38 #[.pointer (some ⟨n, 0, none⟩)] w (fun e w' => ∃ ra rc, e = .returned (.slice ra s.L.length rc) ∧ Own 89 8 w' w.heap.size ra rc s.L.length (s.L.flatMap (stC s.L P)) ∧ Kept No w w') := by
  have HN : Hid (NetB w n s I b1 b2 b3 P) := hN
  have hc2 : w.cell? ⟨n, 2, none⟩ = some (.map (some b3)) := hN.box.cell 2
  obtain ⟨w1, hrg, hk1, hs1, td0, hrg1, hnd, htd⟩ := rgI_start keyN.inj hN.m3 und67
  have HT : Hid (td0.Nodup ∧ (∀ x, x ∈ td0 ↔ (gN s.L P x).isSome) ∧ Kept No w w1 ∧ w1.heap.size = w.heap.size + 1 ∧ RgI mkN w1 w.heap.size b3 (gN s.L P) td0) := ⟨hnd, htd, hk1, hs1, hrg1⟩
  have HS : Hid (SortP s.L P w.heap.size) := hsort
  clear hN hk1 hs1 hrg1 hnd htd hsort
  generalize hr : w.heap.size = r at hrg HT
  go_enter Try.func38, Try.ntmps38
  go_wp2
  go_loopw [3] (fun v wr => ∃ (ra : Option Addr) (rc : Nat) (M : List Pq) (td : List Nm), v = .slice ra M.length rc ∧ Hid (RwI w wr s.L P ra rc M ∧ RgI mkN wr r b3 (gN s.L P) td ∧ ∃ dn : List Nm, M = dn.flatMap (fun k => s.L.filter (isN k)) ∧ (dn ++ td).Perm td0)) (fun _ wr => wr.rangeLeft b3 r)
  case atStart => exact ⟨none, 0, [], td0, rfl, ⟨by rw [hr]; exact Own.nil _ _ _ _, HT.out.2.2.1⟩, HT.out.2.2.2.2, [], rfl, List.Perm.refl _⟩
  case round =>
    obtain ⟨ra, rc, M, td, rfl, HI⟩ := hrel
    rcases rgI_next keyN.inj HI.out.2.1 with ⟨htd, hnx⟩ | ⟨⟨⟨xc, xi⟩, xn⟩, v, w2, hx, hg, hnx, hk2, hs2, hrg2, hen⟩
    · have HTd : Hid (td = []) := htd
      clear htd
      have HM1 : Hid (M.Perm s.L ∧ M.length < 1000000000001) := by
        obtain ⟨dn, hM, hp⟩ := HI.out.2.2
        rw [HTd.out] at hp
        have h := flat_end HT.out.1 hp HT.out.2.1
        rw [← hM] at h
        exact ⟨h, by rw [h.length_eq]; exact hfew⟩
      go_wp2_with (go_at_call 43; refine (HS.out _ ra rc M HI.out.1.own HM1.out.2).mono ?_; rintro e w3 ⟨rfl, M', hp, hso, hO, hk⟩; have H3 : Hid (M'.Perm M ∧ M'.Pairwise (fun p q => p.pl ≤ q.pl) ∧ Own 89 8 w3 w.heap.size ra rc M.length (M'.flatMap (stC s.L P)) ∧ Kept (At ra) wr w3) := ⟨hp, hso, hO, hk⟩; clear hp hso hO hk)
      go_ret
      have hML : M' = s.L := perm_ris (H3.out.1.trans HM1.out.1) H3.out.2.1 HN.out.ok.ris
      have hO := H3.out.2.2.1
      rw [hML, HM1.out.1.length_eq] at hO
      exact ⟨ra, rc, by rw [← HM1.out.1.length_eq]; rfl, by rw [← hr]; exact hO, HI.out.1.kept.trans H3.out.2.2.2 (fun _ e => e) (fun i hi e => by have := HI.out.1.own.base e; omega)⟩
    · obtain ⟨q, hq, hqn, rfl⟩ := gN_some hg
      have HX : Hid (((xc, xi), xn) ∈ td ∧ q ∈ s.L ∧ q.nm = ((xc, xi), xn) ∧ Kept (Only r) wr w2 ∧ w2.heap.size = wr.heap.size ∧ RgI mkN w2 r b3 (gN s.L P) (td.filter (fun y => decide (y ≠ ((xc, xi), xn))))) := ⟨hx, hq, hqn, hk2, hs2, hrg2⟩
      clear hx hg hk2 hs2 hrg2 hq hqn
      simp only [mkN, alV, plV] at hnx hen
      generalize hkl : (pls s.L ((xc, xi), xn)).length = kl at hnx hen
      generalize hpb : (P ((xc, xi), xn)).1 = pb at hnx hen
      generalize hpo : (P ((xc, xi), xn)).2.1 = po at hnx hen
      generalize hpc : (P ((xc, xi), xn)).2.2 = pc at hnx hen
      go_wp2
      have h3 := two w2 79 81 #[.bool xc, .int .i64 xi, .int .i64 xn] #[.bool q.to'.1, .int .i64 q.to'.2, .slice q.da q.zs.length q.dc, .slice (some ⟨pb, po, none⟩) kl pc]
      generalize (w2.alloc (.cells #[.bool xc, .int .i64 xi, .int .i64 xn] 79)).alloc (.cells #[.bool q.to'.1, .int .i64 q.to'.2, .slice q.da q.zs.length q.dc, .slice (some ⟨pb, po, none⟩) kl pc] 81) = w3 at h3 ⊢
      have HP : Hid (PlA w3 pb po pc (pls s.L ((xc, xi), xn))) := by
        have h := HN.out.pl q HX.out.2.1
        rw [HX.out.2.2.1] at h
        rw [hpb, hpo, hpc] at h
        have hne : pb ≠ r := fun e => by have := h.lt; omega
        exact ((h.kept HI.out.1.kept (fun e => e)).kept HX.out.2.2.2.1 hne).kept h3.2.2 (fun e => e)
      have H3 : Hid (Box w3 w2.heap.size 79 #[.bool xc, .int .i64 xi, .int .i64 xn] ∧ Box w3 (w2.heap.size + 1) 81 #[.bool q.to'.1, .int .i64 q.to'.2, .slice q.da q.zs.length q.dc, .slice (some ⟨pb, po, none⟩) kl pc] ∧ RgI mkN w3 r b3 (gN s.L P) (td.filter (fun y => decide (y ≠ ((xc, xi), xn)))) ∧ RwI w w3 s.L P ra rc M) := by
        have hr1 := HI.out.2.1.neOwn HI.out.1.own
        refine ⟨h3.1, h3.2.1, HX.out.2.2.2.2.2.kept h3.2.2 (fun e => e) (fun e => e), ⟨(HI.out.1.own.kept HX.out.2.2.2.1 (fun k e f => hr1 (f ▸ e))).no h3.2.2, (HI.out.1.kept.trans HX.out.2.2.2.1 (fun _ e => e) (fun i hi e => by have e : i = r := e; omega)).then h3.2.2⟩⟩
      have HML : Hid (M.length + kl ≤ s.L.length) := by
        obtain ⟨dn, hM, hp⟩ := HI.out.2.2
        have h := flat_le (L := s.L) HT.out.1 hp HX.out.1
        have hF : (s.L.filter (isN ((xc, xi), xn))).length = kl := by rw [← hkl]; unfold pls; rw [List.length_map]
        rw [hM, ← hF]; exact h
      clear h3
      generalize w2.heap.size = bk at H3 ⊢
      go_loopw [3, 21] (fun v i wi => ∃ (ra : Option Addr) (rc j : Nat), j ≤ kl ∧ i = .int .i64 (j : Int) ∧ v = .slice ra (M.length + j) rc ∧ Hid (Box wi bk 79 #[.bool xc, .int .i64 xi, .int .i64 xn] ∧ Box wi (bk + 1) 81 #[.bool q.to'.1, .int .i64 q.to'.2, .slice q.da q.zs.length q.dc, .slice (some ⟨pb, po, none⟩) kl pc] ∧ RgI mkN wi r b3 (gN s.L P) (td.filter (fun y => decide (y ≠ ((xc, xi), xn)))) ∧ RwI w wi s.L P ra rc (M ++ (s.L.filter (isN ((xc, xi), xn))).take j) ∧ PlA wi pb po pc (pls s.L ((xc, xi), xn)))) (fun _ i _ => kl - (intOf i).toNat)
      case atStart => exact ⟨ra, rc, 0, by omega, rfl, rfl, H3.out.1, H3.out.2.1, H3.out.2.2.1, by simpa using H3.out.2.2.2, HP.out⟩
      case round =>
        obtain ⟨ra', rc', j, hjk, rfl, rfl, HJ⟩ := hrel
        by_cases hlt : j < kl
        · have hlt' : (j : Int) < (kl : Int) := by omega
          have hF : (s.L.filter (isN ((xc, xi), xn))).length = kl := by rw [← hkl]; unfold pls; rw [List.length_map]
          obtain ⟨qj, hqj⟩ : ∃ qj, (s.L.filter (isN ((xc, xi), xn)))[j]? = some qj := ⟨_, List.getElem?_eq_getElem (by omega)⟩
          have HQ : Hid (qj ∈ s.L ∧ qj.nm = ((xc, xi), xn) ∧ (s.L.filter (isN ((xc, xi), xn))).take (j + 1) = (s.L.filter (isN ((xc, xi), xn))).take j ++ [qj]) := by
            have hm := List.mem_filter.1 (List.mem_of_getElem? hqj)
            refine ⟨hm.1, isN_iff.1 hm.2, ?_⟩
            rw [List.take_add_one, hqj]; rfl
          have hpl : (pls s.L ((xc, xi), xn))[j]? = some qj.pl := by unfold pls; rw [List.getElem?_map, hqj]; rfl
          have hcell : wr.cell? ⟨pb, po + j, none⟩ = some (.int .i64 (qj.pl : Nat)) := HJ.out.2.2.2.2.cell hpl
          have k0 : wr.cell? ⟨bk, 0, none⟩ = some (.bool xc) := HJ.out.1.cell 0
          have k1 : wr.cell? ⟨bk, 1, none⟩ = some (.int .i64 xi) := HJ.out.1.cell 1
          have k2 : wr.cell? ⟨bk, 2, none⟩ = some (.int .i64 xn) := HJ.out.1.cell 2
          have a0 : wr.cell? ⟨bk + 1, 0, none⟩ = some (.bool q.to'.1) := HJ.out.2.1.cell 0
          have a1 : wr.cell? ⟨bk + 1, 1, none⟩ = some (.int .i64 q.to'.2) := HJ.out.2.1.cell 1
          have a2 : wr.cell? ⟨bk + 1, 2, none⟩ = some (.slice q.da q.zs.length q.dc) := HJ.out.2.1.cell 2
          have a3 : wr.cell? ⟨bk + 1, 3, none⟩ = some (.slice (some ⟨pb, po, none⟩) kl pc) := HJ.out.2.1.cell 3
          have HO : Hid (Own 89 8 wr w.heap.size ra' rc' (M.length + j) ((M ++ (s.L.filter (isN ((xc, xi), xn))).take j).flatMap (stC s.L P))) := by
            have h := HJ.out.2.2.2.1.own
            rwa [List.length_append, List.length_take, hF, Nat.min_eq_left (by omega)] at h
          have hML : M.length + j < 1000000000000 := by
            have := HML.out; omega
          have HSt : Hid (stC s.L P qj = [.int .i64 (qj.pl : Nat), .bool xc, .int .i64 xi, .int .i64 xn, .bool q.to'.1, .int .i64 q.to'.2, .slice q.da q.zs.length q.dc, .slice (some ⟨pb, po, none⟩) kl pc]) := stC_as HN.out.ok HX.out.2.1 HQ.out.1 HX.out.2.2.1 HQ.out.2.1 hkl hpb hpo hpc
          clear hqj hpl hF
          go_wp2_with (at_builtin; refine wp_appV rfl _ _ 85 89 8 96 _ und85 info89 rfl (by omega) rfl w.heap.size _ rc' ra' _ rfl (Own.no HO.out ((Kept.refl No _).alloc _)) ⟨wr.heap.size, 0, none⟩ 1 1 [.int .i64 (qj.pl : Nat), .bool xc, .int .i64 xi, .int .i64 xn, .bool q.to'.1, .int .i64 q.to'.2, .slice q.da q.zs.length q.dc, .slice (some ⟨pb, po, none⟩) kl pc] rfl rfl (cell_newC _ _ _) (by simp [Value.oneCell']) (by omega) (by omega) (by omega) (by have := HJ.out.2.2.2.1.kept.size; simp; omega) (M.length + j + 1) rfl ?_; intro g' cap' w4 HO4 HK4)
          have HK5 : Hid (Kept (At ra') wr w4) := (((Kept.refl No wr).alloc _).of_no).then HK4.out
          have HR5 : Hid (RwI w w4 s.L P (some ⟨g', 0, none⟩) cap' (M ++ (s.L.filter (isN ((xc, xi), xn))).take (j + 1))) := by
            refine ⟨?_, HJ.out.2.2.2.1.kept.trans HK5.out (fun _ e => e) (fun i hi e => by have := HO.out.base e; omega)⟩
            have h := HO4.out
            have hF : (s.L.filter (isN ((xc, xi), xn))).length = kl := by rw [← hkl]; unfold pls; rw [List.length_map]
            rw [← HSt.out] at h
            rw [HQ.out.2.2, ← List.append_assoc, List.flatMap_append, List.length_append, List.length_append, List.length_take, hF, Nat.min_eq_left (by omega)]
            simpa using h
          clear HO4 HK4
          go_roundw
          case rel =>
            refine ⟨some ⟨g', 0, none⟩, cap', j + 1, by omega, by go_num, rfl, ?_⟩
            have n1 : ¬ At ra' bk := Own.neBox HO.out HJ.out.1 (by decide)
            have n2 : ¬ At ra' (bk + 1) := Own.neBox HO.out HJ.out.2.1 (by decide)
            have n3 : ¬ At ra' r := HJ.out.2.2.1.neOwn HO.out
            have n4 : ¬ At ra' b3 := Own.neMap HO.out HJ.out.2.2.1.map
            have n5 : ¬ At ra' pb := fun e => by
              have h1 := HO.out.base e
              have h2 := (HN.out.pl q HX.out.2.1).lt
              rw [HX.out.2.2.1, hpb] at h2
              omega
            exact ⟨HJ.out.1.kept HK5.out n1, HJ.out.2.1.kept HK5.out n2, HJ.out.2.2.1.kept HK5.out n3 n4, HR5.out, HJ.out.2.2.2.2.kept HK5.out n5⟩
          case measure => simp [intOf]; omega
        · have hlt' : ¬ (j : Int) < (kl : Int) := by omega
          go_wp2
          have hjk' : j = kl := by omega
          subst hjk'
          have hF : (s.L.filter (isN ((xc, xi), xn))).length = j := by rw [← hkl]; unfold pls; rw [List.length_map]
          obtain ⟨dn, hM, hp⟩ := HI.out.2.2
          have hst := flat_step (L := s.L) HT.out.1 hp HX.out.1
          have hR := HJ.out.2.2.2.1
          rw [List.take_of_length_le (by omega)] at hR
          refine ⟨⟨ra', rc', M ++ s.L.filter (isN ((xc, xi), xn)), _, by rw [List.length_append, hF], hR, HJ.out.2.2.1, dn ++ [((xc, xi), xn)], by rw [← hst.1, ← hM], hst.2.1⟩, ?_⟩
          rw [HJ.out.2.2.1.left, HI.out.2.1.left]
          exact hst.2.2
end Go.Proofs.Ytphiokehcgbldaa
