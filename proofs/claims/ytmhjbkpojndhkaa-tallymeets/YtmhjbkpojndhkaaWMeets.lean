import Derived.Test.YtmhjbkpojndhkaaPm
import Derived.Test.YtmhjbkpojndhkaaBc
import Derived.StillTailTactics
import Derived.Deep.RegionHeld3
import Derived.Deep.Cut
import Derived.Deep.CutRange
namespace Go.Proofs.Ytmhjbkpojndhkaa
open Go.RowKit
set_option linter.unusedVariables false
set_option linter.unusedSimpArgs false

set_option maxRecDepth 100000 in
set_option maxHeartbeats 4000000 in
theorem meetsWalk (a0 : Option Addr) (n0 cap0 : Nat) (zs : List Int) (a1 : Option Addr) (n1 cap1 : Nat) (us : List Vo) (a2 : Option Addr) (n2 cap2 : Nat) (vs : List Vo) (w : World)
    (hz : zs.length = n0) (hn0 : n0 ≤ 17592186043904) (h0 : Nums .i64 w a0 zs) (hu : us.length = n1) (hn1 : n1 ≤ 5864062014634) (h1 : Vts w a1 us) (hv : vs.length = n2) (hn2 : n2 ≤ 5864062014634) (h2 : Vts w a2 vs) :
    Calls Try.prog 7 #[.slice a0 n0 cap0, .slice a1 n1 cap1, .slice a2 n2 cap2] w fun e w' => e = .returned (.bool true) ∧ Below w.heap.size w w' := by
  have HZ : Hid (zs.length = n0) := hz
  have HUl : Hid (us.length = n1) := hu
  have HVl : Hid (vs.length = n2) := hv
  have H0 : Hid (Nums .i64 w a0 zs) := h0
  have H1 : Hid (Vts w a1 us) := h1
  have H2 : Hid (Vts w a2 vs) := h2
  have HKn : Hid (∀ w : World, Calls Try.prog 9 #[] w fun e w' => e = .returned (.bool true) ∧ Kept No w w') := known_any
  clear hz h0 hu h1 hv h2
  go_enter Try.func7, Try.ntmps7
  go_wp2_with (go_at_call 9
               refine Calls.mono (HKn.out _) ?_
               rintro e w1 ⟨rfl, hk1⟩
               have HK1 : Hid (Kept No w w1) := hk1
               clear hk1)
  go_loopw [7, 8] (fun v vi wr => ∃ (k : Nat) (a' : Option Addr) (cap' : Nat), vi = .int .i64 k ∧ k ≤ n0 ∧ v = .slice a' (uq (zs.take k)).length cap' ∧ Hid (Own 3 1 wr w1.heap.size a' cap' (uq (zs.take k)).length ((uq (zs.take k)).map (Value.int .i64))) ∧ Hid (Kept No w1 wr)) (fun _ i _ => n0 - (intOf i).toNat)
  case atStart => exact ⟨0, none, 0, by go_num, by omega, by simp [uq], (show Own 3 1 w1 w1.heap.size none 0 (uq (zs.take 0)).length ((uq (zs.take 0)).map (Value.int .i64)) by simpa [uq] using Own.nil 3 1 w1 w1.heap.size), Kept.refl _ _⟩
  case round =>
    obtain ⟨k, a', cap', rfl, hk, rfl, HO, HKk⟩ := hrel
    have HK : Hid (Kept No w wr) := HK1.out.then HKk.out
    have HLn : Hid ((uq (zs.take k)).length ≤ k) := by have := uq_len (zs.take k); rw [List.length_take, HZ.out] at this; show _ ≤ _; omega
    by_cases hlt : k < n0
    · have hlt' : (k : Int) < (n0 : Int) := by omega
      obtain ⟨bb, off, rfl, hcell⟩ := (H0.out.no HK.out) k (by rw [HZ.out]; exact hlt)
      have HTk : Hid (zs.take (k + 1) = zs.take k ++ [zs[k]?.getD 0]) := take_snoc (by rw [HZ.out]; exact hlt)
      have HCl : Hid (∀ W, Kept No wr W → W.cell? ⟨bb, off + k, none⟩ = some (.int .i64 (zs[k]?.getD 0))) := fun W hk => hk.cell hcell (fun e => e)
      generalize zs[k]?.getD 0 = z at hcell HTk HCl
      have HSt : Hid _ := stands_any a' _ cap' (uq (zs.take k)) z wr rfl (by have := HLn.out; omega) (HO.out.nums rfl)
      by_cases hm : z ∈ uq (zs.take k)
      · have HU : Hid (uq (zs.take (k + 1)) = uq (zs.take k)) := by show _ = _; rw [HTk.out, uq_snoc, if_pos hm]
        have hd : decide (z ∈ uq (zs.take k)) = true := decide_eq_true hm
        clear hm HTk
        go_wp2_with (go_at_call 25
                     refine Calls.mono HSt.out ?_
                     rintro e w2 ⟨rfl, hk2⟩
                     have HK2 : Hid (Kept No wr w2) := hk2
                     rw [hd]
                     clear hk2)
        go_roundw
        case rel => exact ⟨k + 1, a', cap', by go_num, by omega, by rw [HU.out], by rw [HU.out]; exact HO.out.no HK2.out, HKk.out.then HK2.out⟩
        case measure => simp [intOf]; omega
      · have HU : Hid (uq (zs.take (k + 1)) = uq (zs.take k) ++ [z]) := by show _ = _; rw [HTk.out, uq_snoc, if_neg hm]
        have hd : decide (z ∈ uq (zs.take k)) = false := decide_eq_false hm
        clear hm HTk
        go_wp2_with (first
          | (go_at_call 25
             refine Calls.mono HSt.out ?_
             rintro e w2 ⟨rfl, hk2⟩
             have HK2 : Hid (Kept No wr w2) := hk2
             have hc2 := HCl.out w2 hk2
             have HO2 : Hid (Own 3 1 w2 w1.heap.size a' cap' (uq (zs.take k)).length ((uq (zs.take k)).map (Value.int .i64))) := HO.out.no hk2
             have hsz : Hid (w1.heap.size ≤ w2.heap.size) := (HKk.out.then hk2).size
             rw [hd]
             clear hk2)
          | (at_builtin
             refine wp_appV rfl _ _ 22 3 1 8 (.int .i64 0) Try.und22 Try.info3' rfl (by omega) rfl w1.heap.size _ cap' a' _ rfl (HO2.out.no ((Kept.refl No w2).alloc _)) ⟨w2.heap.size, 0, none⟩ 1 1 [.int .i64 z] rfl rfl (cell_new1 _ _ _) (by simp [Value.oneCell']) (by have := HLn.out; omega) (by have := HLn.out; omega) (by omega) (by have := hsz.out; simp; omega) (uq (zs.take (k + 1))).length (by rw [HU.out]; simp) ?_
             intro g' cap'' w4 HO4 HK4
             have HKw : Hid (Kept No w1 w4) := ((HKk.out.then HK2.out).alloc _).trans HK4.out (fun _ e => e) (fun i hi e => by have := HO2.out.base e; omega)
             have HO5 : Hid (Own 3 1 w4 w1.heap.size (some ⟨g', 0, none⟩) cap'' (uq (zs.take (k + 1))).length ((uq (zs.take (k + 1))).map (Value.int .i64))) := by
               have := HO4.out
               show Own _ _ _ _ _ _ _ _
               rw [HU.out, List.map_append] at *
               exact this
             clear HO4 HK4))
        go_roundw
        case rel => exact ⟨k + 1, some ⟨g', 0, none⟩, cap'', by go_num, by omega, rfl, HO5, HKw⟩
        case measure => simp [intOf]; omega
    · have hlt' : ¬ (k : Int) < (n0 : Int) := by omega
      obtain rfl : k = n0 := by omega
      have HTe : Hid (zs.take k = zs) := List.take_of_length_le (by rw [HZ.out]; omega)
      rw [HTe.out] at HO HLn ⊢
      obtain ⟨G, hG⟩ : ∃ G, G = uq zs := ⟨_, rfl⟩
      rw [← hG] at HO HLn ⊢
      have HNd : Hid (G.Nodup) := by rw [hG]; exact uq_nodup zs
      clear hG HTe
      obtain ⟨m, hm⟩ : ∃ m, m = G.length := ⟨_, rfl⟩
      have HGm : Hid (G.length = m) := hm.symm
      rw [← hm] at HO HLn ⊢
      have hm44 : m ≤ 17592186043904 := by have := HLn.out; omega
      have HNw : Hid (∀ W, Kept No wr W → Calls Try.prog 11 #[.slice a' m cap', .int .i64 ((m : Int) / 2 + 1)] W (NewOut W G ((m : Int) / 2 + 1))) := fun W hk => new_any a' m cap' G _ W HGm.out hm44 ((HO.out.nums HGm.out).no hk)
      clear hm
      have TA : True := trivial
      have TB : True := trivial
      have hq1 : 0 ≤ (m : Int) / 2 := by omega
      have hq2 : (m : Int) / 2 ≤ 17592186043904 := by omega
      go_wp2_with (first
        | (go_at_call 11
           have htok := TA
           refine Calls.mono (HNw.out wr (Kept.refl _ _)) ?_
           rintro e w2 ⟨ax, capx, rfl, hT, hF, hk⟩
           have HX2 : Hid (Tal w2 (wr.heap.size + 1) wr.heap.size ax capx (tNew G ((m : Int) / 2 + 1))) := hT
           have HFx : Hid (∀ k, At ax k → wr.heap.size ≤ k) := hF
           have HK2 : Hid (Kept No wr w2) := hk
           clear hT hF hk htok TA)
        | (go_at_call 11
           have htok := TB
           refine Calls.mono (HNw.out w2 HK2.out) ?_
           rintro e w3 ⟨ay, capy, rfl, hT, hF, hk⟩
           have HY3 : Hid (Tal w3 (w2.heap.size + 1) w2.heap.size ay capy (tNew G ((m : Int) / 2 + 1))) := hT
           have HFy : Hid (∀ k, At ay k → w2.heap.size ≤ k) := hF
           have HX3 : Hid (Tal w3 (wr.heap.size + 1) wr.heap.size ax capx (tNew G ((m : Int) / 2 + 1))) := HX2.out.no hk
           have HK3 : Hid (Kept No wr w3) := HK2.out.then hk
           clear hT hF hk htok TB))
      have hB2 : wr.heap.size + 1 < w2.heap.size := HX2.out.box.lt
      have HDx : Hid (∀ k, TB (wr.heap.size + 1) wr.heap.size ax k → k < w2.heap.size) := fun k hk => HX2.out.lt hk
      have HKw3 : Hid (Kept No w w3) := HK.out.then HK3.out
      have hwB : w.heap.size ≤ wr.heap.size := HK.out.size
      have HGn : Hid (∀ W, Kept (fun q => wr.heap.size ≤ q) w3 W → Nums .i64 W a' G) := fun W hk => by
        have h1 := (HO.out.nums HGm.out).no HK3.out
        refine h1.kept hk (fun b off e f => ?_)
        rcases HO.out.cases (by rw [List.length_map, HGm.out]; omega) with ⟨e1, _⟩ | ⟨g, e1, _, hl, _⟩
        · rw [e1] at e; cases e
        · rw [e1] at e; cases e; exact absurd hl (by omega)
      clear HX2 HK2 HNw HK3 HK HKk HO
      generalize wr.heap.size = B at hB2 HDx HX3 HFx hwB HGn ⊢
      generalize w2.heap.size = C at hB2 HDx HFy HY3 ⊢
      have HV1 : Hid (∀ W, Kept (fun q => B ≤ q) w3 W → Vts W a1 us) := fun W hk => H1.out.no (HKw3.out.trans hk (fun _ e => e) (fun i hi e => by omega))
      have HV2 : Hid (∀ W, Kept (fun q => B ≤ q) w3 W → Vts W a2 vs) := fun W hk => H2.out.no (HKw3.out.trans hk (fun _ e => e) (fun i hi e => by omega))
      have HXY : Hid ((∀ q, TB (C + 1) C ay q → ¬ Tb2 (B + 1) B q) ∧ (∀ q, TB (B + 1) B ax q → ¬ Tb2 (C + 1) C q)) := by
        constructor
        · intro q hq e
          have h1 : C ≤ q := by
            rcases hq with rfl | rfl | hq
            · omega
            · omega
            · exact HFy.out q hq
          rcases e with rfl | rfl <;> omega
        · intro q hq e
          have h1 := HDx.out q hq
          rcases e with rfl | rfl <;> omega
      clear HFx HFy HDx
      obtain ⟨nd, hnd⟩ : ∃ nd : Int, nd = (m : Int) / 2 + 1 := ⟨_, rfl⟩
      have HNd2 : Hid (nd = (m : Int) / 2 + 1) := hnd
      rw [← hnd] at HX3 HY3
      clear hnd
      have HG0 : Hid ((tNew G nd).g = G ∧ (tNew G nd).need = nd ∧ cnt (tNew G nd) ≤ 0) := ⟨uq_id HNd.out, rfl, by rw [cnt_new]; exact Nat.le_refl _⟩
      generalize tNew G nd = T0 at HX3 HY3 HG0
      clear HNd hq1 hq2 HLn
      -- the first tally's answers
      go_loopw [11] (fun vi wx => ∃ k : Nat, vi = .int .i64 k ∧ k ≤ n1 ∧ Hid (∃ X, Tal wx (B + 1) B ax capx X ∧ X.g = G ∧ X.need = nd ∧ cnt X ≤ k) ∧ Hid (Tal wx (C + 1) C ay capy T0) ∧ Hid (Kept (fun q => B ≤ q) w3 wx)) (fun i _ => n1 - (intOf i).toNat)
      case atStart => exact ⟨0, by go_num, by omega, ⟨T0, HX3.out, HG0.out⟩, HY3, Kept.refl _ _⟩
      case round =>
        obtain ⟨k, rfl, hk1, HI, HY, HKx⟩ := hrel
        obtain ⟨X, hX, hXg, hXn, hXc⟩ := HI.out
        have HX : Hid (Tal wr (B + 1) B ax capx X) := hX
        have HXe : Hid (X.g = G ∧ X.need = nd ∧ cnt X ≤ k) := ⟨hXg, hXn, hXc⟩
        clear hX hXg hXn hXc HI HX3 HY3
        by_cases hlt : k < n1
        · have hlt' : (k : Int) < (n1 : Int) := by omega
          have hk0 : (0 : Int) ≤ (k : Int) := by omega
          go_upto_region 17 with (go_at_call 26
                                  refine Calls.mono (enough_any _ _ capx ax X _ HX.out) ?_
                                  rintro e w5 ⟨rfl, hq5⟩
                                  have hk5 : Kept No wr w5 := by obtain ⟨q, rfl⟩ := hq5; exact Kept.no_drewN _ _
                                  have HX5 : Hid (Tal w5.drew (B + 1) B ax capx X) := HX.out.no hk5.drew
                                  have HY5 : Hid (Tal w5.drew (C + 1) C ay capy T0) := HY.out.no hk5.drew
                                  have HK5 : Hid (Kept (fun q => B ≤ q) w3 w5.drew) := HKx.out.then hk5.drew.of_no
                                  clear hq5 hk5)
          obtain ⟨b, off, rfl, e1, e2, e3⟩ := (HV1.out w5.drew HK5.out) k (by rw [HUl.out]; exact hlt)
          generalize vAt us k = u at e1 e2 e3
          obtain ⟨s, v, lk⟩ := u
          simp only at e1 e2 e3
          clear e3
          have HTb : Hid (takeB X s = true → enB X = false ∧ enB (takeS X s v) = true) := fun h => takeB_true HX.out.nd h
          have HXt : Hid ((takeS X s v).g = G ∧ (takeS X s v).need = nd ∧ cnt (takeS X s v) ≤ k + 1) := ⟨by rw [take_g]; exact HXe.out.1, by rw [take_need]; exact HXe.out.2.1, Nat.le_trans (take_cnt HX.out.nd) (Nat.succ_le_succ HXe.out.2.2)⟩
          have HTk : Hid (Calls Try.prog 14 #[.pointer (some ⟨B + 1, 0, none⟩), .int .i64 s, .int .i64 v] w5.drew (TakeOut w5.drew (B + 1) B capx ax X s v)) := take_any _ _ _ _ X s v _ HX5.out
          refine wp_region_still_tail 11 (by kernel_rfl) (by kernel_rfl) ?_
          simp only [List.take_succ_cons, List.take_zero, List.drop_succ_cons, List.drop_zero]
          change wpStill _ _ w5.drew _ _ _
          still_step
          still_step
          still_step
          still_step
          still_step
          still_step
          still_step
          still_step
          still_step
          still_step
          still_step
          refine wpStill_nil ?_
          clear e1 e2
          cases htb : takeB X s with
          | false =>
            go_wp2_with (go_at_call 14
                         refine Calls.mono HTk.out ?_
                         rintro e w6 ⟨rfl, hT6, hk6⟩
                         rw [htb]
                         have HX6 : Hid (Tal w6 (B + 1) B ax capx (takeS X s v)) := hT6
                         have HY6 : Hid (Tal w6 (C + 1) C ay capy T0) := HY5.out.kept hk6 HXY.out.1
                         have HK6 : Hid (Kept (fun q => B ≤ q) w3 w6) := HK5.out.trans hk6 (fun _ e => e) (fun i hi e => by rcases e with rfl | rfl <;> omega)
                         clear hT6 hk6)
            go_roundw
            case rel => exact ⟨k + 1, by go_num, by omega, ⟨_, HX6.out, HXt.out⟩, HY6, HK6⟩
            case measure => simp [intOf]; omega
          | true =>
            obtain ⟨hE0, hE1⟩ := HTb.out htb
            rw [hE0]
            have HE1 : Hid (enB (takeS X s v) = true) := hE1
            clear hE0 hE1
            go_wp2_with (first
              | (go_at_call 14
                 refine Calls.mono HTk.out ?_
                 rintro e w6 ⟨rfl, hT6, hk6⟩
                 rw [htb]
                 have HX6 : Hid (Tal w6 (B + 1) B ax capx (takeS X s v)) := hT6
                 have HY6 : Hid (Tal w6 (C + 1) C ay capy T0) := HY5.out.kept hk6 HXY.out.1
                 have HK6 : Hid (Kept (fun q => B ≤ q) w3 w6) := HK5.out.trans hk6 (fun _ e => e) (fun i hi e => by rcases e with rfl | rfl <;> omega)
                 clear hT6 hk6)
              | (go_at_call 26
                 refine Calls.mono (enough_any _ _ capx ax (takeS X s v) _ HX6.out) ?_
                 rintro e w7 ⟨rfl, hq7⟩
                 have hk7 : Kept No w6 w7 := by obtain ⟨q, rfl⟩ := hq7; exact Kept.no_drewN _ _
                 have HX7 : Hid (Tal w7 (B + 1) B ax capx (takeS X s v)) := HX6.out.no hk7
                 have HY7 : Hid (Tal w7 (C + 1) C ay capy T0) := HY6.out.no hk7
                 have HK7 : Hid (Kept (fun q => B ≤ q) w3 w7) := HK6.out.then hk7.of_no
                 rw [HE1.out]
                 clear hq7 hk7))
            go_roundw
            case rel => exact ⟨k + 1, by go_num, by omega, ⟨_, HX7.out, HXt.out⟩, HY7, HK7⟩
            case measure => simp [intOf]; omega
        · have hlt' : ¬ (k : Int) < (n1 : Int) := by omega
          have HXc : Hid (X.g = G ∧ X.need = nd ∧ cnt X ≤ 8796093022208) := ⟨HXe.out.1, HXe.out.2.1, by have := HXe.out.2.2; omega⟩
          clear hlt hk1 HXe HV1
          go_wp2
          -- the second tally's answers
          go_loopw [13] (fun vi wx => ∃ j : Nat, vi = .int .i64 j ∧ j ≤ n2 ∧ Hid (∃ Y, Tal wx (C + 1) C ay capy Y ∧ Y.g = G ∧ Y.need = nd ∧ cnt Y ≤ j) ∧ Hid (Tal wx (B + 1) B ax capx X) ∧ Hid (Kept (fun q => B ≤ q) w3 wx)) (fun i _ => n2 - (intOf i).toNat)
          case atStart => exact ⟨0, by go_num, by omega, ⟨T0, HY.out, HG0.out⟩, HX, HKx⟩
          case round =>
            obtain ⟨j, rfl, hj1, HI, HXj, HKj⟩ := hrel
            obtain ⟨Y, hY, hYg, hYn, hYc⟩ := HI.out
            have HYj : Hid (Tal wr (C + 1) C ay capy Y) := hY
            have HYe : Hid (Y.g = G ∧ Y.need = nd ∧ cnt Y ≤ j) := ⟨hYg, hYn, hYc⟩
            clear hY hYg hYn hYc HI HX HY HKx
            by_cases hjl : j < n2
            · have hjl' : (j : Int) < (n2 : Int) := by omega
              have hj0 : (0 : Int) ≤ (j : Int) := by omega
              go_upto_region 22 with fail
              have HX5 : Hid (Tal wr.drew (B + 1) B ax capx X) := HXj.out.no ((Kept.refl No wr).drew)
              have HY5 : Hid (Tal wr.drew (C + 1) C ay capy Y) := HYj.out.no ((Kept.refl No wr).drew)
              have HK5 : Hid (Kept (fun q => B ≤ q) w3 wr.drew) := HKj.out.drew
              obtain ⟨b, off, rfl, e1, e2, e3⟩ := (HV2.out wr.drew HK5.out) j (by rw [HVl.out]; exact hjl)
              generalize vAt vs j = u at e1 e2 e3
              obtain ⟨s, v, lk⟩ := u
              simp only at e1 e2 e3
              clear e3
              have HYt : Hid ((takeS Y s v).g = G ∧ (takeS Y s v).need = nd ∧ cnt (takeS Y s v) ≤ j + 1) := ⟨by rw [take_g]; exact HYe.out.1, by rw [take_need]; exact HYe.out.2.1, Nat.le_trans (take_cnt HYj.out.nd) (Nat.succ_le_succ HYe.out.2.2)⟩
              have HTk : Hid (Calls Try.prog 14 #[.pointer (some ⟨C + 1, 0, none⟩), .int .i64 s, .int .i64 v] wr.drew (TakeOut wr.drew (C + 1) C capy ay Y s v)) := take_any _ _ _ _ Y s v _ HY5.out
              refine wp_region_still_tail 11 (by kernel_rfl) (by kernel_rfl) ?_
              simp only [List.take_succ_cons, List.take_zero, List.drop_succ_cons, List.drop_zero]
              change wpStill _ _ wr.drew _ _ _
              still_step
              still_step
              still_step
              still_step
              still_step
              still_step
              still_step
              still_step
              still_step
              still_step
              still_step
              refine wpStill_nil ?_
              clear e1 e2
              go_wp2_with (go_at_call 14
                           refine Calls.mono HTk.out ?_
                           rintro e w6 ⟨rfl, hT6, hk6⟩
                           have HY6 : Hid (Tal w6 (C + 1) C ay capy (takeS Y s v)) := hT6
                           have HX6 : Hid (Tal w6 (B + 1) B ax capx X) := HX5.out.kept hk6 HXY.out.2
                           have HK6 : Hid (Kept (fun q => B ≤ q) w3 w6) := HK5.out.trans hk6 (fun _ e => e) (fun i hi e => by rcases e with rfl | rfl <;> omega)
                           clear hT6 hk6)
              go_roundw
              case rel => exact ⟨j + 1, by go_num, by omega, ⟨_, HY6.out, HYt.out⟩, HX6, HK6⟩
              case measure => simp [intOf]; omega
            · have hjl' : ¬ (j : Int) < (n2 : Int) := by omega
              have HYc : Hid (Y.g = G ∧ Y.need = nd ∧ cnt Y ≤ 8796093022208) := ⟨HYe.out.1, HYe.out.2.1, by have := HYe.out.2.2; omega⟩
              clear hjl hj1 HYe HV2
              have HGX : Hid (∀ W, Kept No wr W → Calls Try.prog 27 #[.pointer (some ⟨B + 1, 0, none⟩)] W (GotsOut W (gotL X))) := fun W hk => got_any _ _ _ _ X W (HXj.out.no hk) HXc.out.2.2
              have HGY : Hid (∀ W, Kept No wr W → Calls Try.prog 27 #[.pointer (some ⟨C + 1, 0, none⟩)] W (GotsOut W (gotL Y))) := fun W hk => got_any _ _ _ _ Y W (HYj.out.no hk) HYc.out.2.2
              have HMs : Hid (∀ W, Kept No wr W → Calls Try.prog 28 #[.pointer (some ⟨B + 1, 0, none⟩)] W (MissOut W (missL X))) := fun W hk => missing_any _ _ _ _ X W (HXj.out.no hk)
              have HEX : Hid (∀ W, Kept No wr W → Calls Try.prog 26 #[.pointer (some ⟨B + 1, 0, none⟩)] W fun e w' => e = .returned (.bool (enB X)) ∧ ∃ n, w' = W.drewN n) := fun W hk => enough_any _ _ _ _ X W (HXj.out.no hk)
              have HEY : Hid (∀ W, Kept No wr W → Calls Try.prog 26 #[.pointer (some ⟨C + 1, 0, none⟩)] W fun e w' => e = .returned (.bool (enB Y)) ∧ ∃ n, w' = W.drewN n) := fun W hk => enough_any _ _ _ _ Y W (HYj.out.no hk)
              have HKy : Hid (∀ W, Kept No wr W → Kept No w W) := fun W hk => (HKw3.out.trans HKj.out (fun _ e => e) (fun i hi e => by omega)).then hk
              have HGr : Hid (∀ W, Kept No wr W → Nums .i64 W a' G) := fun W hk => (HGn.out wr HKj.out).no hk
              have HLk : Hid ((gotL X).length = cnt X ∧ (gotL X).length + (missL X).length = m) := ⟨gotL_len X, by rw [gm_len, HXc.out.1, HGm.out]⟩
              have HMt : Hid (enB X = true → enB Y = true → 0 < shK X Y m) := fun e f => meet (by rw [HXc.out.1, HYc.out.1]) (by rw [HXc.out.1]; exact HGm.out) (by rw [HXc.out.2.1]; exact HNd2.out) (by rw [HYc.out.2.1]; exact HNd2.out) e f
              have HDk : Hid (∀ z, z ∈ G → decide (z ∈ (gotL X).map Prod.fst) = (X.v z).isSome ∧ decide (z ∈ missL X) = !(X.v z).isSome ∧ decide (z ∈ (gotL Y).map Prod.fst) = (Y.v z).isSome) := fun z hz => ⟨dec_got (by rw [HXc.out.1]; exact hz), dec_miss (by rw [HXc.out.1]; exact hz), dec_got (by rw [HYc.out.1]; exact hz)⟩
              have HShS : Hid (∀ k z, G.take (k + 1) = G.take k ++ [z] → shK X Y (k + 1) = shK X Y k + (if ((X.v z).isSome && (Y.v z).isSome) = true then 1 else 0)) := fun k z h => shK_succ (by rw [HXc.out.1]; exact h)
              have HEn : Hid (enB X = decide ((m : Int) / 2 + 1 ≤ ((gotL X).length : Int))) := by
                show decide (X.need ≤ (cnt X : Int)) = _
                rw [HXc.out.2.1, HNd2.out, ← HLk.out.1]
              obtain ⟨K, hK⟩ : ∃ K, K = (gotL X).map Prod.fst := ⟨_, rfl⟩
              obtain ⟨L, hL⟩ : ∃ L, L = (gotL Y).map Prod.fst := ⟨_, rfl⟩
              have HKl : Hid (K.length = (gotL X).length) := by rw [hK]; show _ = _; simp
              have HLl : Hid (L.length = (gotL Y).length) := by rw [hL]; show _ = _; simp
              have HLb : Hid ((gotL X).length ≤ 8796093022208 ∧ (gotL Y).length ≤ 8796093022208 ∧ (missL X).length ≤ 17592186043904) := by
                refine ⟨?_, ?_, ?_⟩
                · rw [gotL_len]; exact HXc.out.2.2
                · rw [gotL_len]; exact HYc.out.2.2
                · have := HLk.out.2; omega
              rw [← hK, ← hL] at HDk
              have HKe : Hid (K = (gotL X).map Prod.fst ∧ L = (gotL Y).map Prod.fst) := ⟨hK, hL⟩
              clear hK hL HXY HG0 HGn HKw3 HNd2
              obtain ⟨kl, hkl⟩ : ∃ kl, kl = (gotL X).length := ⟨_, rfl⟩
              obtain ⟨ll, hll⟩ : ∃ ll, ll = (gotL Y).length := ⟨_, rfl⟩
              obtain ⟨ml, hml⟩ : ∃ ml, ml = (missL X).length := ⟨_, rfl⟩
              rw [← hkl] at HKl HLb HLk HEn
              rw [← hll] at HLl HLb
              rw [← hml] at HLb HLk
              have HKL : Hid (kl = (gotL X).length ∧ ll = (gotL Y).length ∧ ml = (missL X).length) := ⟨hkl, hll, hml⟩
              clear hkl hll hml
              have hsum : (kl : Int) + (ml : Int) = (m : Int) := by have := HLk.out.2; omega
              have hkb : (kl : Int) ≤ 8796093022208 := by have := HLb.out.1; omega
              have hmb : (ml : Int) ≤ 17592186043904 := by have := HLb.out.2.2; omega
              have hq1 : 0 ≤ (m : Int) / 2 := by omega
              have hq2 : (m : Int) / 2 ≤ 17592186043904 := by omega
              have TA : True := trivial
              have TB : True := trivial
              go_wp2_with (first
                | (go_at_call 27
                   have htok := TA
                   refine Calls.mono (HGX.out wr (Kept.refl _ _)) ?_
                   rintro e w4 ⟨ak, ck, av, cv, rfl, hO, _, hk, _⟩
                   rw [← HKL.out.1] at hO ⊢
                   rw [← HKe.out.1] at hO
                   have HK4 : Hid (Kept No wr w4) := hk
                   have HNk : Hid (Nums .i64 w4 ak K) := hO.nums HKl.out
                   clear hO hk htok TA)
                | (go_at_call 27
                   have htok := TB
                   refine Calls.mono (HGY.out w4 HK4.out) ?_
                   rintro e w5 ⟨al, cl, av2, cv2, rfl, hO, _, hk, _⟩
                   rw [← HKL.out.2.1] at hO ⊢
                   rw [← HKe.out.2] at hO
                   have HK5 : Hid (Kept No wr w5) := HK4.out.then hk
                   have HNk5 : Hid (Nums .i64 w5 ak K) := HNk.out.no hk
                   have HNl : Hid (Nums .i64 w5 al L) := hO.nums HLl.out
                   clear hO hk htok TB)
                | (go_at_call 28
                   refine Calls.mono (HMs.out w5 HK5.out) ?_
                   rintro e w6 ⟨am, cm, rfl, hO, hk⟩
                   rw [← HKL.out.2.2]
                   have HK56 : Hid (Kept No w5 w6) := hk
                   clear hO hk)
                | (go_at_call 26
                   refine Calls.mono (HEX.out w6 (HK5.out.then HK56.out)) ?_
                   rintro e w7 ⟨rfl, hq⟩
                   have HK57 : Hid (Kept No w5 w7) := by obtain ⟨q, rfl⟩ := hq; exact HK56.out.drewN q
                   rw [HEn.out]
                   clear hq))
              have HNk7 : Hid (∀ W, Kept No w7 W → Nums .i64 W ak K) := fun W hk => HNk5.out.no (HK57.out.then hk)
              have HNl7 : Hid (∀ W, Kept No w7 W → Nums .i64 W al L) := fun W hk => HNl.out.no (HK57.out.then hk)
              have HK7 : Hid (∀ W, Kept No w7 W → Kept No wr W) := fun W hk => (HK5.out.then HK57.out).then hk
              have HSK : Hid (∀ W z, Kept No w7 W → Calls Try.prog 25 #[.slice ak kl ck, .int .i64 z] W (StandsOut W K z)) := fun W z hk => stands_any ak kl ck K z W HKl.out (by have := HLb.out.1; omega) (HNk7.out W hk)
              have HSL : Hid (∀ W z, Kept No w7 W → Calls Try.prog 25 #[.slice al ll cl, .int .i64 z] W (StandsOut W L z)) := fun W z hk => stands_any al ll cl L z W HLl.out (by have := HLb.out.2.1; omega) (HNl7.out W hk)
              have HMs7 : Hid (∀ W, Kept No w7 W → Calls Try.prog 28 #[.pointer (some ⟨B + 1, 0, none⟩)] W (MissOut W (missL X))) := fun W hk => HMs.out W (HK7.out W hk)
              have HEX7 : Hid (∀ W, Kept No w7 W → Calls Try.prog 26 #[.pointer (some ⟨B + 1, 0, none⟩)] W fun e w' => e = .returned (.bool (enB X)) ∧ ∃ n, w' = W.drewN n) := fun W hk => HEX.out W (HK7.out W hk)
              have HEY7 : Hid (∀ W, Kept No w7 W → Calls Try.prog 26 #[.pointer (some ⟨C + 1, 0, none⟩)] W fun e w' => e = .returned (.bool (enB Y)) ∧ ∃ n, w' = W.drewN n) := fun W hk => HEY.out W (HK7.out W hk)
              have HGr7 : Hid (∀ W, Kept No w7 W → Nums .i64 W a' G) := fun W hk => HGr.out W (HK7.out W hk)
              have HKy7 : Hid (∀ W, Kept No w7 W → Kept No w W) := fun W hk => HKy.out W (HK7.out W hk)
              have HMl : Hid ((missL X).length ≤ 9223372036854775807) := by have := HLb.out.2.2; have := HKL.out.2.2; show _ ≤ _; omega
              have HE0 : Hid (shK X Y 0 = 0) := by show _ = _; simp [shK]
              clear hsum HGX HGY HMs HEX HEY HGr HKy HK7 HNk HNl HNk5 HK4 HK5 HK56 HK57 HNk7 HNl7 HXj HYj HKj HXc HYc HLk HEn HKe
              go_loopw [20, 21] (fun vs vi wz => ∃ k : Nat, vi = .int .i64 k ∧ k ≤ m ∧ vs = .int .i64 (shK X Y k) ∧ Hid (Kept No w7 wz)) (fun _ i _ => m - (intOf i).toNat)
              case atStart => exact ⟨0, by go_num, by omega, by rw [HE0.out]; go_num, Kept.refl _ _⟩
              case round =>
                obtain ⟨k, rfl, hk, rfl, HKz⟩ := hrel
                have hshl : (shK X Y k : Int) ≤ 17592186043904 := by have := shK_le X Y k; omega
                have hsh0 : (0 : Int) ≤ (shK X Y k : Int) := by omega
                by_cases hkm : k < m
                · have hkm' : (k : Int) < (m : Int) := by omega
                  have hk0 : (0 : Int) ≤ (k : Int) := by omega
                  obtain ⟨gb, goff, rfl, e1⟩ := (HGr7.out wr HKz.out) k (by rw [HGm.out]; exact hkm)
                  have HCl : Hid (∀ W, Kept No w7 W → W.cell? ⟨gb, goff + k, none⟩ = some (.int .i64 (G[k]?.getD 0))) := fun W hk => by
                    obtain ⟨b', o', e, hc⟩ := (HGr7.out W hk) k (by rw [HGm.out]; exact hkm)
                    cases e; exact hc
                  have HTk : Hid (G.take (k + 1) = G.take k ++ [G[k]?.getD 0]) := take_snoc (by rw [HGm.out]; exact hkm)
                  have HMem : Hid (G[k]?.getD 0 ∈ G) := mem_at (by rw [HGm.out]; exact hkm)
                  generalize G[k]?.getD 0 = z at e1 HCl HTk HMem
                  obtain ⟨d1, d2, d3⟩ := HDk.out z HMem.out
                  have HSh : Hid _ := HShS.out k z HTk.out
                  generalize (X.v z).isSome = bx at d1 d2 HSh
                  generalize (Y.v z).isSome = byy at d3 HSh
                  have HD1 : Hid (decide (z ∈ K) = bx) := d1
                  have HD2 : Hid (decide (z ∈ missL X) = !bx) := d2
                  have HD3 : Hid (decide (z ∈ L) = byy) := d3
                  clear d1 d2 d3 HTk HMem
                  go_upto_region 31 with fail
                  have hKd : Kept No w7 wr.drew := HKz.out.drew
                  have HKd : Hid (Kept No w7 wr.drew) := hKd
                  clear hKd
                  have TA : Hid (1 = 1) := rfl
                  go_region_held3 (fun w' => w'.cell? ⟨gb, goff + k, none⟩ = some (.int .i64 z)) (go_keep) (first
                    | (go_at_call 25
                       have hguard := TA
                       clear hguard
                       refine Calls.mono (HSK.out wr.drew z HKd.out) ?_
                       rintro e w8 ⟨rfl, hk8⟩
                       have HK8 : Hid (Kept No w7 w8) := HKd.out.then hk8
                       have c8 := HCl.out w8 HK8.out
                       rw [HD1.out]
                       have TB : Hid (1 = 1) := rfl
                       clear hk8 TA)
                    | (go_at_call 28
                       refine Calls.mono (HMs7.out w8 HK8.out) ?_
                       rintro e w9 ⟨am2, cm2, rfl, hO, hk9⟩
                       have HK9 : Hid (Kept No w7 w9) := HK8.out.then hk9
                       have HN9 : Hid (Nums .i64 w9 am2 (missL X)) := hO.nums rfl
                       have c9 := HCl.out w9 HK9.out
                       clear hO hk9)
                    | (go_at_call 25
                       have hguard := TB
                       clear hguard
                       refine Calls.mono (stands_any am2 _ cm2 (missL X) z w9 rfl HMl.out HN9.out) ?_
                       rintro e w10 ⟨rfl, hk10⟩
                       have HK10 : Hid (Kept No w7 w10) := HK9.out.then hk10
                       have c10 := HCl.out w10 HK10.out
                       rw [HD2.out]
                       clear hk10 TB))
                  clear e1 c8 c9 HK8 HK9 HN9 HKz
                  have TC : True := trivial
                  have TD : True := trivial
                  cases bx with
                  | false =>
                    have HSe : Hid (shK X Y (k + 1) = shK X Y k) := HSh.out
                    go_wp2_with (first
                      | (go_at_call 25
                         have htok := TC
                         refine Calls.mono (HSK.out w10 z HK10.out) ?_
                         rintro e w11 ⟨rfl, hk11⟩
                         have HK11 : Hid (Kept No w7 w11) := HK10.out.then hk11
                         have c11 := HCl.out w11 HK11.out
                         rw [HD1.out]
                         clear hk11 htok TC)
                      | fail)
                    go_roundw
                    case rel => exact ⟨k + 1, by go_num, by omega, by rw [HSe.out], HK11⟩
                    case measure => simp [intOf]; omega
                  | true =>
                    cases byy with
                    | false =>
                      have HSe : Hid (shK X Y (k + 1) = shK X Y k) := HSh.out
                      go_wp2_with (first
                        | (go_at_call 25
                           have htok := TC
                           refine Calls.mono (HSK.out w10 z HK10.out) ?_
                           rintro e w11 ⟨rfl, hk11⟩
                           have HK11 : Hid (Kept No w7 w11) := HK10.out.then hk11
                           have c11 := HCl.out w11 HK11.out
                           rw [HD1.out]
                           clear hk11 htok TC)
                        | (go_at_call 25
                           have htok := TD
                           refine Calls.mono (HSL.out w11 z HK11.out) ?_
                           rintro e w12 ⟨rfl, hk12⟩
                           have HK12 : Hid (Kept No w7 w12) := HK11.out.then hk12
                           rw [HD3.out]
                           clear hk12 htok TD))
                      go_roundw
                      case rel => exact ⟨k + 1, by go_num, by omega, by rw [HSe.out], HK12⟩
                      case measure => simp [intOf]; omega
                    | true =>
                      have HSe : Hid (shK X Y (k + 1) = shK X Y k + 1) := HSh.out
                      go_wp2_with (first
                        | (go_at_call 25
                           have htok := TC
                           refine Calls.mono (HSK.out w10 z HK10.out) ?_
                           rintro e w11 ⟨rfl, hk11⟩
                           have HK11 : Hid (Kept No w7 w11) := HK10.out.then hk11
                           have c11 := HCl.out w11 HK11.out
                           rw [HD1.out]
                           clear hk11 htok TC)
                        | (go_at_call 25
                           have htok := TD
                           refine Calls.mono (HSL.out w11 z HK11.out) ?_
                           rintro e w12 ⟨rfl, hk12⟩
                           have HK12 : Hid (Kept No w7 w12) := HK11.out.then hk12
                           rw [HD3.out]
                           clear hk12 htok TD))
                      go_roundw
                      case rel => exact ⟨k + 1, by go_num, by omega, by rw [HSe.out]; go_num, HK12⟩
                      case measure => simp [intOf]; omega
                · have hkm' : ¬ (k : Int) < (m : Int) := by omega
                  obtain rfl : k = m := by omega
                  have TC : True := trivial
                  have TD : True := trivial
                  cases hEX : enB X with
                  | false =>
                    go_wp2_with (go_at_call 26
                                 refine Calls.mono (HEX7.out wr HKz.out) ?_
                                 rintro e w11 ⟨rfl, hq⟩
                                 rw [hEX]
                                 have HK11 : Hid (Kept No w7 w11) := by obtain ⟨q, rfl⟩ := hq; exact HKz.out.drewN q
                                 clear hq)
                    all_goals go_ret
                    all_goals exact ⟨rfl, (HKy7.out _ HK11.out).below (Nat.le_refl _) (fun _ e => e.elim)⟩
                  | true =>
                    cases hEY : enB Y with
                    | false =>
                      go_wp2_with (first
                        | (go_at_call 26
                           have htok := TC
                           refine Calls.mono (HEX7.out wr HKz.out) ?_
                           rintro e w11 ⟨rfl, hq⟩
                           rw [hEX]
                           have HK11 : Hid (Kept No w7 w11) := by obtain ⟨q, rfl⟩ := hq; exact HKz.out.drewN q
                           clear hq htok TC)
                        | (go_at_call 26
                           have htok := TD
                           refine Calls.mono (HEY7.out w11 HK11.out) ?_
                           rintro e w12 ⟨rfl, hq⟩
                           rw [hEY]
                           have HK12 : Hid (Kept No w7 w12) := by obtain ⟨q, rfl⟩ := hq; exact HK11.out.drewN q
                           clear hq htok TD))
                      all_goals go_ret
                      all_goals exact ⟨rfl, (HKy7.out _ HK12.out).below (Nat.le_refl _) (fun _ e => e.elim)⟩
                    | true =>
                      have hpos := HMt.out hEX hEY
                      have hpos' : (0 : Int) < (shK X Y k : Int) := by omega
                      have hpos2 : (shK X Y k : Int) > 0 := hpos'
                      generalize shK X Y k = sh at hpos hpos' hpos2 hshl hsh0
                      go_wp2_with (first
                        | (go_at_call 26
                           have htok := TC
                           refine Calls.mono (HEX7.out wr HKz.out) ?_
                           rintro e w11 ⟨rfl, hq⟩
                           rw [hEX]
                           have HK11 : Hid (Kept No w7 w11) := by obtain ⟨q, rfl⟩ := hq; exact HKz.out.drewN q
                           clear hq htok TC)
                        | (go_at_call 26
                           have htok := TD
                           refine Calls.mono (HEY7.out w11 HK11.out) ?_
                           rintro e w12 ⟨rfl, hq⟩
                           rw [hEY]
                           have HK12 : Hid (Kept No w7 w12) := by obtain ⟨q, rfl⟩ := hq; exact HK11.out.drewN q
                           clear hq htok TD))
                      all_goals go_ret
                      all_goals exact ⟨by first | rfl | simp [hpos2], (HKy7.out _ HK12.out).below (Nat.le_refl _) (fun _ e => e.elim)⟩

end Go.Proofs.Ytmhjbkpojndhkaa
