import Derived.Test.YtphiokehcgbldaaPf
namespace Go.Proofs.Ytphiokehcgbldaa
open Go.RowKit Go.Shelf
set_option linter.unusedVariables false
set_option linter.unusedSimpArgs false

theorem same_t (a b : Option Addr) (ca cb : Nat) (zs : List Int) (l l' : Nat) (hl : zs.length = l) (hl' : zs.length = l') (W : World) (hz : zs.length ≤ 140737488351232) (h1 : Bytes W a zs) (h2 : Bytes W b zs) : Calls Try.prog 25 #[.slice a l ca, .slice b l' cb] W (fun e w' => e = .returned (.bool true) ∧ Kept No W w') := by
  subst hl
  subst hl'
  refine (same_any a b ca cb zs zs W (by omega) (by omega) h1 h2).mono ?_
  rintro e w' ⟨rfl, m, rfl⟩
  exact ⟨by rw [eqB_refl], (Kept.refl No W).drewN m⟩
/-- What NetBook holds behind so many rounds. -/
def Bk1 (w0 w : World) (n ab bb i : Nat) (ra : Option Addr) (rc : Nat) (wa : Option Addr) (wc : Nat) (xs : List Dt) : Prop :=
  ∃ s K, Bx w0 w n s ab bb ra rc K wa wc (kw (xs.take i)) (fun _ => False) ∧ Sb s ((xs.take i).map Dt.bs) [] 0 i (3 * i) ∧ K.length = i

set_option maxRecDepth 100000 in
set_option maxHeartbeats 16000000 in
theorem bookWalk (a0 : Option Addr) (m c0 : Nat) (xs : List Dt) (w0 : World) (hm : xs.length = m) (hml : m ≤ 140737488351232) (hX : Dts w0 a0 xs) (hok : ∀ x ∈ xs, DtOk w0 x) :
    Calls Try.prog 7 #[.slice a0 m c0] w0 (fun e w' => e = .returned (.bool true) ∧ Kept No w0 w') := by
  have HM : Hid (xs.length = m) := hm
  have HXs : Hid (Dts w0 a0 xs ∧ ∀ x ∈ xs, DtOk w0 x) := ⟨hX, hok⟩
  clear hm hX hok
  go_enter Try.func7, Try.ntmps7
  go_upto_region 6 with (go_at_call 8; refine (new_net w0).mono ?_; rintro e w1 ⟨rfl, hN, hk⟩; have H1 : Hid (NetM w1 w0.heap.size ns0 (fun k => k = w0.heap.size) ∧ Kept No w0 w1) := ⟨hN, hk⟩; clear hN hk)
  obtain ⟨n, hn⟩ : ∃ n, n = w0.heap.size := ⟨_, rfl⟩
  obtain ⟨ab, hab⟩ : ∃ r, r = w1.heap.size := ⟨_, rfl⟩
  obtain ⟨bb, hbb⟩ : ∃ b, b = w1.heap.size + 1 := ⟨_, rfl⟩
  rw [← hbb, ← hab, ← hn]
  have h2 := two w1 34 34 #[.bool false, .int .i64 1] #[.bool true, .int .i64 2]
  rw [← hbb, ← hab] at h2
  obtain ⟨w3, hw3⟩ : ∃ w3, w3 = (w1.alloc (.cells #[.bool false, .int .i64 1] 34)).alloc (.cells #[.bool true, .int .i64 2] 34) := ⟨_, rfl⟩
  rw [← hw3]
  rw [← hw3] at h2
  have H3 : Hid (Bk1 w0 w3 n ab bb 0 none 0 none 0 xs) := by
    have hnl : n < w1.heap.size := by
      rw [hn]
      rcases H1.out.1 with ⟨_, h, _⟩ | ⟨_, _, _, _, h⟩
      · exact h.lt
      · exact h.box.lt
    have s1 := H1.out.2.size
    have l1 := h2.1.lt
    have l2 := h2.2.1.lt
    refine ⟨ns0, [], ⟨⟨⟨fun k => k = n, ?_, fun k e => ⟨?_, fun f => ?_⟩⟩, H1.out.2.then h2.2.2, fun q h => by simp [ns0] at h, fun k e => ?_⟩, h2.1, h2.2.1, Gx.Rw.nil _ _, ⟨fun _ => [], Gx.Erow.nil _ _ _⟩, Gx.Rw.nil _ _, fun k e => (At.none e).elim, ⟨by omega, by omega⟩, fun k e => e.elim⟩, Sb.zero _, rfl⟩
    · have h := H1.out.1.no h2.2.2
      rw [← hn] at h
      exact h
    · have e : k = n := e; omega
    · have e : k = n := e
      rcases f with f | f | f | f | ⟨x, hx, f⟩ | f
      · omega
      · omega
      · exact At.none f
      · exact At.none f
      · simp at hx
      · exact f
    · rcases e with e | e | e | e | ⟨x, hx, e⟩ | e
      · omega
      · omega
      · exact (At.none e).elim
      · exact (At.none e).elim
      · simp at hx
      · exact e.elim
  clear hw3 hbb hab hn H1 h2
  go_upto_block 0 with fail
  go_cut [6, 7, 8, 9, 10, 11, 12, 13] from 28 to 117 (fun v6 v7 _ _ _ _ _ _ wc => ∃ (k : Nat) (ra : Option Addr) (rc : Nat) (wa : Option Addr) (wcp : Nat), k ≤ 12 ∧ k ≤ m ∧ v6 = .slice ra k rc ∧ v7 = .slice wa (2 * k) wcp ∧ Hid (Bk1 w0 wc n ab bb k ra rc wa wcp xs))
  case first =>
    go_wp2
    go_loopw [6, 7, 8] (fun v6 v7 iv wr => ∃ (i : Nat) (ra : Option Addr) (rc : Nat) (wa : Option Addr) (wcp : Nat), i ≤ m ∧ i ≤ 12 ∧ iv = .int .i64 (i : Int) ∧ v6 = .slice ra i rc ∧ v7 = .slice wa (2 * i) wcp ∧ Hid (Bk1 w0 wr n ab bb i ra rc wa wcp xs)) (fun _ _ iv _ => m - (intOf iv).toNat)
    case atStart => exact ⟨0, none, 0, none, 0, by omega, by omega, rfl, rfl, rfl, H3⟩
    case round =>
      clear H3
      obtain ⟨i, ra, rc, wa, wcp, him, hi12, rfl, rfl, rfl, HI⟩ := hrel
      by_cases hlt : i < m ∧ i < 12
      · obtain ⟨x, hx⟩ : ∃ x, xs[i]? = some x := ⟨_, List.getElem?_eq_getElem (by rw [HM.out]; exact hlt.1)⟩
        have h1 : (i : Int) < (m : Int) := by omega
        have h2 : (i : Int) < 12 := by omega
        have hi2 : i < 12 := hlt.2
        have him2 : i < m := hlt.1
        obtain ⟨s, K, hB, hS, hK⟩ := HI.out
        obtain ⟨D, off, ea, hc, hDl⟩ := HXs.out.1 i x hx
        subst ea
        obtain ⟨xa, xl, xc, zs⟩ := x
        have hok := HXs.out.2 _ (List.mem_of_getElem? hx)
        have hzl : zs.length = xl := hok.len
        subst hzl
        have HZ : Hid (DtOk w0 ⟨xa, zs.length, xc, zs⟩ ∧ w0.cell? ⟨D, off + i, none⟩ = some (.slice xa zs.length xc) ∧ D < w0.heap.size ∧ xs[i]? = some ⟨xa, zs.length, xc, zs⟩) := ⟨hok, hc, hDl, hx⟩
        have hzb : zs.length ≤ 140737488351232 := hok.big
        have hdl : ((xs.take i).map Dt.bs).length = i := by rw [List.length_map, List.length_take, HM.out]; omega
        have HB : Hid (Bx w0 wr n s ab bb ra rc K wa wcp (kw (xs.take i)) (fun _ => False) ∧ Sb s ((xs.take i).map Dt.bs) [] 0 i (3 * i) ∧ K.length = i ∧ ((xs.take i).map Dt.bs).length = i) := ⟨hB, hS, hK, hdl⟩
        clear hB hS hK hok hc hx hDl hdl HI hlt
        have d0 : wr.cell? ⟨D, off + i, none⟩ = some (.slice xa zs.length xc) := HB.out.1.nb.kept.cell HZ.out.2.1 (fun e => e)
        go_upto_region 12 with (go_at_call 23; refine (lend_any xa xc zs wr (by omega) (HZ.out.1.nums.no HB.out.1.nb.kept)).mono ?_; rintro e w2 ⟨rfl, hb2, hk2⟩; have H2 : Hid (Blk w2 wr.heap.size (lent zs 5) ∧ Bx w0 w2 n s ab bb ra rc K wa wcp (kw (xs.take i)) (fun k => k = wr.heap.size)) := ⟨hb2, HB.out.1.tmp hk2 (fun k e => e.elim) (fun k e => ⟨.inr (by omega), by have := hb2.lt; omega⟩)⟩; clear hb2 hk2)
        generalize wr.heap.size = g at H2 ⊢
        clear d0
        have A0 : w2.cell? ⟨ab, 0, none⟩ = some (.bool false) := H2.out.2.bA.cell 0
        have A1 : w2.cell? ⟨ab, 1, none⟩ = some (.int .i64 1) := H2.out.2.bA.cell 1
        have B0 : w2.cell? ⟨bb, 0, none⟩ = some (.bool true) := H2.out.2.bB.cell 0
        have B1 : w2.cell? ⟨bb, 1, none⟩ = some (.int .i64 2) := H2.out.2.bB.cell 1
        go_upto_region 13 with (go_at_call 13; refine (bk_send H2.out.2 (zs := zs) (by have h := HB.out.2.1; rw [HB.out.2.2.2]; exact h) (by rw [HB.out.2.2.2]; exact hi2) (by omega) HB.out.2.2.2 rfl H2.out.1 hzb).mono ?_; rintro e w3' ⟨rfl, ⟨s1, hs1, hB3⟩, hb3⟩; have H4 : Hid (Sb s1 ((xs.take i).map Dt.bs) zs 1 (i + 1) (3 * i + 1) ∧ Bx w0 w3' n s1 ab bb ra rc K wa wcp (kw (xs.take i)) (fun k => k = g) ∧ Blk w3' g (lent zs 5)) := ⟨hs1, hB3, hb3⟩; clear hs1 hB3 hb3)
        clear A0 A1 B0 B1
        have d0 : w3'.cell? ⟨D, off + i, none⟩ = some (.slice xa zs.length xc) := H4.out.2.1.nb.kept.cell HZ.out.2.1 (fun e => e)
        go_upto_region 15 with (first
          | (go_at_call 18; refine (bk_double (k := 1) H6.out.2 H6.out.1 (by rw [HB.out.2.2.2]; exact hi2) (by omega) (by omega) HB.out.2.2.2).mono ?_; rintro e w6 ⟨rfl, s3, hs3, hB6⟩; have H7 : Hid (Sb s3 ((xs.take i).map Dt.bs) zs 3 (i + 1) (3 * i + 3) ∧ Bx w0 w6 n s3 ab bb ra rc K wa wcp (kw (xs.take i)) (fun k => k = g)) := ⟨hs3, hB6⟩; clear hs3 hB6)
          | (go_at_call 18; refine (bk_double (k := 0) H5.out.2 H5.out.1 (by rw [HB.out.2.2.2]; exact hi2) (by omega) (by omega) HB.out.2.2.2).mono ?_; rintro e w5 ⟨rfl, s2, hs2, hB5⟩; have H6 : Hid (Sb s2 ((xs.take i).map Dt.bs) zs 2 (i + 1) (3 * i + 2) ∧ Bx w0 w5 n s2 ab bb ra rc K wa wcp (kw (xs.take i)) (fun k => k = g)) := ⟨hs2, hB5⟩; have A0' : w5.cell? ⟨ab, 0, none⟩ = some (.bool false) := hB5.bA.cell 0; have A1' : w5.cell? ⟨ab, 1, none⟩ = some (.int .i64 1) := hB5.bA.cell 1; clear hs2 hB5 A0 A1)
          | (go_at_call 24; refine (back_any g xa xc zs w3' (by omega) H4.out.2.2 (HZ.out.1.nums.no H4.out.2.1.nb.kept)).mono ?_; rintro e w4 ⟨rfl, hk4⟩; have H5 : Hid (Sb s1 ((xs.take i).map Dt.bs) zs 1 (i + 1) (3 * i + 1) ∧ Bx w0 w4 n s1 ab bb ra rc K wa wcp (kw (xs.take i)) (fun k => k = g)) := ⟨H4.out.1, H4.out.2.1.tmp hk4 (fun k e => e) (fun k e => ⟨.inl e, by have e : k = g := e; have h1 := H4.out.2.2.lt; have h2 := hk4.size; omega⟩)⟩; have A0 : w4.cell? ⟨ab, 0, none⟩ = some (.bool false) := H5.out.2.bA.cell 0; have A1 : w4.cell? ⟨ab, 1, none⟩ = some (.int .i64 1) := H5.out.2.bA.cell 1; clear hk4 d0))
        clear A0' A1'
        have A0 : w6.cell? ⟨ab, 0, none⟩ = some (.bool false) := H7.out.2.bA.cell 0
        have A1 : w6.cell? ⟨ab, 1, none⟩ = some (.int .i64 1) := H7.out.2.bA.cell 1
        go_upto_region 16 with (go_at_call 15; refine (bk_deliver (k := 2) H7.out.2 H7.out.1 HB.out.2.2.2).mono ?_; rintro e w7 ⟨pa, pc, rfl, ⟨s4, hs4, hB7⟩, hO7⟩; have H8 : Hid (Sb s4 ((xs.take i).map Dt.bs) zs 2 (i + 1) (3 * i + 3) ∧ Bx w0 w7 n s4 ab bb ra rc K wa wcp (kw (xs.take i)) (fun k => k = g ∨ At pa k) ∧ OwnB w7 w0.heap.size pa pc zs) := ⟨hs4, hB7, hO7⟩; clear hs4 hB7 hO7)
        clear A0 A1
        obtain ⟨bP, hbP⟩ : ∃ b, b = w7.heap.size := ⟨_, rfl⟩
        obtain ⟨w8, hw8⟩ : ∃ w8, w8 = w7.alloc (.cells #[.bool false, .int .i64 1, .int .i64 ((i : Int) + 1), .bool true, .int .i64 2, .slice pa zs.length pc] 44) := ⟨_, rfl⟩
        rw [← hw8, ← hbP]
        have H9 : Hid (Box w8 bP 44 #[.bool false, .int .i64 1, .int .i64 ((i : Int) + 1), .bool true, .int .i64 2, .slice pa zs.length pc] ∧ Kept No w7 w8) := by
          rw [hw8, hbP]; exact ⟨Box.new _ _ _, (Kept.refl No w7).alloc _⟩
        clear hw8 hbP
        have HBx8 : Hid (Bx w0 w8 n s4 ab bb ra rc K wa wcp (kw (xs.take i)) (fun k => k = g ∨ At pa k)) := H8.out.2.1.no H9.out.2
        refine b16 _ bP D off m c0 i pa xa zs.length pc zs.length xc _ _ _ _ _ w8 _ rfl rfl rfl rfl rfl H9.out.1 (HBx8.out.nb.kept.cell HZ.out.2.1 (fun e => e)) him2 (fun W hk => same_t pa xa pc xc zs _ _ rfl rfl W hzb (OwnB.bytes ((H8.out.2.2.no H9.out.2).no hk)) (HZ.out.1.nums.no (HBx8.out.nb.kept.then hk))) ?_
        intro wo hko
        have H10 : Hid (Bx w0 wo n s4 ab bb ra rc K wa wcp (kw (xs.take i)) (fun k => k = g ∨ At pa k) ∧ Box wo bP 44 #[.bool false, .int .i64 1, .int .i64 ((i : Int) + 1), .bool true, .int .i64 2, .slice pa zs.length pc] ∧ OwnB wo w0.heap.size pa pc zs) := ⟨HBx8.out.no hko, H9.out.1.kept hko (fun e => e), (H8.out.2.2.no H9.out.2).no hko⟩
        clear hko HBx8 H9
        simp only [Wa.pA, Wa.pB, Wa.p1, Wa.p2, Wa.p3]
        have p5 : wo.cell? ⟨bP, 5, none⟩ = some (.slice pa zs.length pc) := H10.out.2.1.cell 5
        have HOwn : Hid (Own 35 1 wo w0.heap.size ra rc i (K.map Gx.entV)) := by
          have h : wo.ownsRow w0.heap.size 35 1 (.slice ra K.length rc) K.length (K.map Gx.entV) := H10.out.1.row
          rw [HB.out.2.2.1] at h
          exact h
        go_upto_region 19 with (at_builtin; refine wp_appG rfl _ _ 59 35 1 24 _ und59 info35 rfl (by omega) rfl w0.heap.size i rc ra (K.map Gx.entV) rfl (HOwn.out.no ((Kept.refl No wo).alloc _)) ⟨wo.heap.size, 0, none⟩ 1 1 [.slice pa zs.length pc] rfl rfl (cell_newC _ _ _) (by simp [Value.oneCell']) (by omega) (by omega) (Nat.le_trans H10.out.1.nb.kept.size (by simp)) (i + 1) rfl ?_; intro a9 cap9 w9 HO9 HK9 HA9)
        clear p5
        have H11 : Hid (Bx w0 w9 n s4 ab bb a9 cap9 (K ++ [⟨pa, zs.length, pc⟩]) wa wcp (kw (xs.take i)) (fun _ => False)) := by
          refine H10.out.1.all' H10.out.2.2 hzb (fun k e => .inr e) ((((Kept.refl No wo).alloc _).of_no).then HK9.out) ?_ (fun k e => (HA9.out k e).imp id (fun f => Nat.le_trans (by simp) f)) (fun k e => e.elim)
          show w9.ownsRow w0.heap.size 35 1 (.slice a9 (K ++ [(⟨pa, zs.length, pc⟩ : Gx.Ent)]).length cap9) (K ++ [(⟨pa, zs.length, pc⟩ : Gx.Ent)]).length ((K ++ [(⟨pa, zs.length, pc⟩ : Gx.Ent)]).map Gx.entV)
          rw [List.length_append, HB.out.2.2.1, List.map_append]
          exact HO9.out
        clear HO9 HK9 HA9 HOwn
        have hkl : (kw (xs.take i)).length = 2 * i := by rw [kw_len, List.length_take, HM.out]; omega
        refine b19 _ D off m i xa zs.length xc (2 * i) wcp c0 w0.heap.size wa ((kw (xs.take i)).map Gx.entV) w9 _ rfl rfl rfl rfl (H11.out.nb.kept.cell HZ.out.2.1 (fun e => e)) him2 (by have h : w9.ownsRow w0.heap.size 35 1 (.slice wa (kw (xs.take i)).length wcp) (kw (xs.take i)).length ((kw (xs.take i)).map Gx.entV) := H11.out.wnt; rw [hkl] at h; exact h) (by omega) H11.out.nb.kept.size (fun e => by have := H11.out.wnt.base e; have := HZ.out.2.2.1; omega) (fun _ _ t _ _ h => by cases t <;> exact h) ?_
        intro g2 cap2 wz b0 hOz hkz hgz
        have H12 : Hid (Bk1 w0 wz n ab bb (i + 1) a9 cap9 (some ⟨g2, 0, none⟩) cap2 xs) := by
          refine ⟨s4, K ++ [⟨pa, zs.length, pc⟩], ?_, ?_, by rw [List.length_append, HB.out.2.2.1]; rfl⟩
          · rw [take_snoc' HZ.out.2.2.2, kw_add]
            refine H11.out.want hkz ?_ (fun k e => ?_)
            · show wz.ownsRow w0.heap.size 35 1 (.slice (some ⟨g2, 0, none⟩) (kw (xs.take i) ++ [_, _]).length cap2) (kw (xs.take i) ++ [_, _]).length ((kw (xs.take i) ++ [_, _]).map Gx.entV)
              rw [List.length_append, hkl, List.map_append]
              exact hOz
            · obtain ⟨ad, e, e'⟩ := e
              cases e
              have e' : g2 = k := e'
              rw [← e']
              exact hgz
          · rw [take_snoc' HZ.out.2.2.2, List.map_append]
            exact H8.out.1.more []
        clear hOz hkz hgz hkl
        simp only [Wa.pA, Wa.pB, Wa.p1, Wa.p2, Wa.p3]
        go_wp2
        go_roundw
        case rel => exact ⟨i + 1, a9, cap9, some ⟨g2, 0, none⟩, cap2, by omega, by omega, by go_num, rfl, by go_num, H12.out⟩
        case measure => simp [intOf]; omega
      · by_cases h1 : i < m
        · have h1' : (i : Int) < (m : Int) := by omega
          have h2' : ¬ (i : Int) < 12 := by omega
          clear hlt
          go_wp2
          go_meet
          case rel => exact ⟨i, ra, rc, wa, wcp, by omega, by omega, rfl, rfl, HI⟩
        · have h1' : ¬ (i : Int) < (m : Int) := by omega
          clear hlt
          go_wp2
          go_meet
          case rel => exact ⟨i, ra, rc, wa, wcp, by omega, by omega, rfl, rfl, HI⟩
  clear H3
  obtain ⟨k, ra, rc, wa, wcp, hk12, hkm, hv6, hv7, HI⟩ := hcut
  subst hv6
  subst hv7
  obtain ⟨s, K, hB, hS, hK⟩ := HI.out
  have hdl : ((xs.take k).map Dt.bs).length = k := by rw [List.length_map, List.length_take, HM.out]; omega
  have hsl : s.L.length = 2 * k := by have := hS.len; rw [hdl] at this; omega
  have hcm : s.came ≤ 1000 := by obtain ⟨_, _, _, _, _, _, _, _, h⟩ := hS; omega
  have HS : Hid (Sb s ((xs.take k).map Dt.bs) [] 0 k (3 * k) ∧ s.L.length = 2 * k ∧ s.came ≤ 1000 ∧ (kw (xs.take k)).length = 2 * k) := ⟨hS, hsl, hcm, by rw [kw_len, List.length_take, HM.out]; omega⟩
  have HB : Hid (Bx w0 wc n s ab bb ra rc K wa wcp (kw (xs.take k)) (fun _ => False) ∧ K.length = k) := ⟨hB, hK⟩
  clear hB hS hK hdl hsl hcm HI
  go_wp2
  go_loopw [6, 14] (fun v6 tv wr => ∃ (t ln : Nat) (ra : Option Addr) (rc : Nat) (K : List Gx.Ent), t ≤ 2 ∧ ln ≤ 12 + 24 * t ∧ tv = .int .i64 (t : Int) ∧ v6 = .slice ra ln rc ∧ Hid (Bx w0 wr n s ab bb ra rc K wa wcp (kw (xs.take k)) (fun _ => False) ∧ K.length = ln)) (fun _ tv _ => 2 - (intOf tv).toNat)
  case atStart => exact ⟨0, k, ra, rc, K, by omega, by omega, rfl, rfl, HB.out⟩
  case round =>
    clear HB
    obtain ⟨t, ln, ra, rc, K, ht2, hln, rfl, rfl, HI⟩ := hrel
    by_cases htt : t < 2
    · have htt' : (t : Int) < 2 := by omega
      go_upto_region 24 with (go_at_call 26; refine (bk_listed HI.out.1 HS.out.2.2.1 HS.out.2.1).mono ?_; rintro e w2 ⟨la, lc, ys, rfl, hys, hO, hD, hP, hL, hB2⟩; have H2 : Hid (ys.map Tp.q = s.L ∧ Own 44 6 w2 w0.heap.size la lc ys.length (ys.flatMap pkL) ∧ (∀ x ∈ ys, OwnB w2 w0.heap.size x.a x.c x.q.zs) ∧ ys.Pairwise (fun x y => ∀ k, At x.a k → ¬ At y.a k) ∧ (∀ x ∈ ys, ∀ k, At x.a k → ¬ At la k) ∧ Bx w0 w2 n s ab bb ra rc K wa wcp (kw (xs.take k)) (TB' la ys)) := ⟨hys, hO, hD, hP, hL, hB2⟩; clear hys hO hD hP hL hB2)
      have HYl : Hid (ys.length = 2 * k) := by show _ = _; rw [← HS.out.2.1, ← H2.out.1, List.length_map]
      go_wp2
      go_loopw [6, 17] (fun v6 qv wi => ∃ (q lq : Nat) (ra : Option Addr) (rc : Nat) (K : List Gx.Ent), q ≤ 2 * k ∧ lq ≤ 12 + 24 * t + q ∧ qv = .int .i64 (q : Int) ∧ v6 = .slice ra lq rc ∧ Hid (Bx w0 wi n s ab bb ra rc K wa wcp (kw (xs.take k)) (TB' la (ys.drop q)) ∧ K.length = lq ∧ Own 44 6 wi w0.heap.size la lc ys.length (ys.flatMap pkL) ∧ ∀ x ∈ ys.drop q, OwnB wi w0.heap.size x.a x.c x.q.zs)) (fun _ qv _ => 2 * k - (intOf qv).toNat)
      case atStart => exact ⟨0, ln, ra, rc, K, by omega, by omega, rfl, rfl, by rw [List.drop_zero]; exact H2.out.2.2.2.2.2, HI.out.2, H2.out.2.1, by rw [List.drop_zero]; exact H2.out.2.2.1⟩
      case round =>
        clear HI
        obtain ⟨q, lq, ra, rc, K, hq2, hlq, rfl, rfl, HI⟩ := hrel
        by_cases hqq : q < 2 * k
        · have hqq' : (q : Int) < ((2 * k : Nat) : Int) := by omega
          obtain ⟨x, hx⟩ : ∃ x, ys[q]? = some x := ⟨_, List.getElem?_eq_getElem (by rw [HYl.out]; exact hqq)⟩
          obtain ⟨pg, ela, hpk⟩ := pk_at HI.out.2.2.1 hx
          subst ela
          have hdr : ys.drop q = x :: ys.drop (q + 1) := by
            rw [List.drop_eq_getElem_cons (by rw [HYl.out]; exact hqq)]
            congr 1
            exact (List.getElem?_eq_some_iff.1 hx).2
          have hxm : x ∈ ys := List.mem_of_getElem? hx
          have hxl : x.q.zs.length ≤ 140737488351232 := HI.out.1.nb.len x.q (by rw [← H2.out.1]; exact List.mem_map.2 ⟨x, hxm, rfl⟩)
          have HX : Hid (ys.drop q = x :: ys.drop (q + 1) ∧ x ∈ ys ∧ (∀ y ∈ ys.drop (q + 1), ∀ k, At x.a k → ¬ At y.a k)) := by
            refine ⟨hdr, hxm, ?_⟩
            have h := H2.out.2.2.2.1.sublist (List.drop_sublist q ys)
            rw [hdr] at h
            exact (List.pairwise_cons.1 h).1
          have p5 : wr.cell? ⟨pg, q * 6 + 5, none⟩ = some (.slice x.a x.q.zs.length x.c) := hpk.2.2.2.2.2
          have HOwn : Hid (Own 35 1 wr w0.heap.size ra rc lq (K.map Gx.entV)) := by
            have h : wr.ownsRow w0.heap.size 35 1 (.slice ra K.length rc) K.length (K.map Gx.entV) := HI.out.1.row
            rw [HI.out.2.1] at h
            exact h
          clear hpk hdr hxm hx
          go_upto_region 26 with (at_builtin; refine wp_appG rfl _ _ 59 35 1 24 _ und59 info35 rfl (by omega) rfl w0.heap.size lq rc ra (K.map Gx.entV) rfl (HOwn.out.no ((Kept.refl No wr).alloc _)) ⟨wr.heap.size, 0, none⟩ 1 1 [.slice x.a x.q.zs.length x.c] rfl rfl (cell_newC _ _ _) (by simp [Value.oneCell']) (by omega) (by omega) (Nat.le_trans HI.out.1.nb.kept.size (by simp)) (lq + 1) rfl ?_; intro a9 cap9 w9 HO9 HK9 HA9)
          clear p5
          have hk9 : Kept (At ra) wr w9 := (((Kept.refl No wr).alloc _).of_no).then HK9.out
          have H9 : Hid (Bx w0 w9 n s ab bb a9 cap9 (K ++ [⟨x.a, x.q.zs.length, x.c⟩]) wa wcp (kw (xs.take k)) (TB' (some ⟨pg, 0, none⟩) (ys.drop (q + 1))) ∧ (K ++ [(⟨x.a, x.q.zs.length, x.c⟩ : Gx.Ent)]).length = lq + 1 ∧ Own 44 6 w9 w0.heap.size (some ⟨pg, 0, none⟩) lc ys.length (ys.flatMap pkL) ∧ ∀ x ∈ ys.drop (q + 1), OwnB w9 w0.heap.size x.a x.c x.q.zs) := by
            refine ⟨HI.out.1.all' (HI.out.2.2.2 x (by rw [HX.out.1]; simp)) hxl (fun k e => .inr ⟨x, by rw [HX.out.1]; simp, e⟩) hk9 ?_ (fun k e => (HA9.out k e).imp id (fun f => Nat.le_trans (by simp) f)) (fun b e => ?_), by rw [List.length_append, HI.out.2.1]; rfl, HI.out.2.2.1.kept hk9 (fun b e => (HI.out.1.tf b (.inl e)).2.2.2.1), fun y hy => (HI.out.2.2.2 y (by rw [HX.out.1]; simp [hy])).kept hk9 (fun b e => (HI.out.1.tf b (.inr ⟨y, by rw [HX.out.1]; simp [hy], e⟩)).2.2.2.1)⟩
            · show w9.ownsRow w0.heap.size 35 1 (.slice a9 (K ++ [(⟨x.a, x.q.zs.length, x.c⟩ : Gx.Ent)]).length cap9) (K ++ [(⟨x.a, x.q.zs.length, x.c⟩ : Gx.Ent)]).length ((K ++ [(⟨x.a, x.q.zs.length, x.c⟩ : Gx.Ent)]).map Gx.entV)
              rw [List.length_append, HI.out.2.1, List.map_append]
              exact HO9.out
            · rcases e with e | ⟨y, hy, e⟩
              · exact ⟨.inl e, fun f => H2.out.2.2.2.2.1 x HX.out.2.1 b f e⟩
              · exact ⟨.inr ⟨y, by rw [HX.out.1]; simp [hy], e⟩, fun f => HX.out.2.2 y hy b f e⟩
          clear HO9 HK9 HA9 HOwn hk9
          go_wp2
          go_roundw
          case rel => exact ⟨q + 1, lq + 1, a9, cap9, K ++ [(⟨x.a, x.q.zs.length, x.c⟩ : Gx.Ent)], by omega, by omega, by go_num, rfl, H9⟩
          case measure => simp [intOf]; omega
        · have hqq' : ¬ (q : Int) < ((2 * k : Nat) : Int) := by omega
          have HF : Hid (Bx w0 wr n s ab bb ra rc K wa wcp (kw (xs.take k)) (fun _ => False)) := HI.out.1.tmp (Kept.refl No _) (fun k e => e.elim) (fun k e => e.elim)
          go_wp2
          refine ⟨⟨t + 1, lq, ra, rc, K, by omega, by omega, by go_num, rfl, HF.out, HI.out.2.1⟩, ?_⟩
          simp [intOf]; omega
    · have htt' : ¬ (t : Int) < 2 := by omega
      have hln2 : ln ≤ 60 := by omega
      go_upto_region 31 with (go_at_call 26; refine (bk_listed HI.out.1 HS.out.2.2.1 HS.out.2.1).mono ?_; rintro e w2 ⟨la, lc, ys, rfl, hys, hO, hD, hP, hL, hB2⟩; have H2 : Hid (ys.map Tp.q = s.L ∧ Own 44 6 w2 w0.heap.size la lc ys.length (ys.flatMap pkL) ∧ (∀ x ∈ ys, OwnB w2 w0.heap.size x.a x.c x.q.zs) ∧ Bx w0 w2 n s ab bb ra rc K wa wcp (kw (xs.take k)) (TB' la ys)) := ⟨hys, hO, hD, hB2⟩; clear hys hO hD hP hL hB2)
      have HYl : Hid (ys.length = 2 * k) := by show _ = _; rw [← HS.out.2.1, ← H2.out.1, List.length_map]
      obtain ⟨Z, hZ⟩ := H2.out.2.2.2.ent
      have HZ : Hid (Gx.Erow w2 w0.heap.size K Z) := hZ
      clear hZ
      go_upto_region 33 with (go_at_call 27; refine (Gx.grown_any ra ln rc w0.heap.size w0.heap.size K Z w2 H2.out.2.2.2.row HZ.out HI.out.2 (by omega) H2.out.2.2.2.nb.kept.size H2.out.2.2.2.nb.kept.size (fun k e => H2.out.2.2.2.nb.lt k (.inr (.inr (.inl e))))).mono ?_; rintro e w3 ⟨rfl, hk3⟩; have H3 : Hid (Bz w0 w3 n s ab wa wcp (kw (xs.take k)) la lc ys (XB ab bb ra wa K (TB' la ys))) := H2.out.2.2.2.grown H2.out.2.1 H2.out.2.2.1 hk3; clear hk3)
      generalize XB ab bb ra wa K (TB' la ys) = X at H3
      clear HZ
      go_wp2
      go_loopw [20] (fun iv wr => ∃ (i : Nat) (s' : Ns), i ≤ 2 * k ∧ iv = .int .i64 (i : Int) ∧ Hid (Bz w0 wr n s' ab wa wcp (kw (xs.take k)) la lc ys X ∧ s'.L = s.L.drop i ∧ s'.came ≤ 1000)) (fun iv _ => 2 * k - (intOf iv).toNat)
      case atStart => exact ⟨0, s, by omega, rfl, H3.out, by rw [List.drop_zero], HS.out.2.2.1⟩
      case round =>
        clear H3
        obtain ⟨i, s', hi2, rfl, HJ⟩ := hrel
        by_cases hii : i < 2 * k
        · have hii' : (i : Int) < ((2 * k : Nat) : Int) := by omega
          obtain ⟨x, hx⟩ : ∃ x, ys[i]? = some x := ⟨_, List.getElem?_eq_getElem (by rw [HYl.out]; exact hii)⟩
          have hxs : s.L[i]? = some x.q := by rw [← H2.out.1, List.getElem?_map, hx]; rfl
          have hdr : s'.L = x.q :: s.L.drop (i + 1) := by
            rw [HJ.out.2.1, List.drop_eq_getElem_cons (by rw [HS.out.2.1]; exact hii)]
            congr 1
            exact (List.getElem?_eq_some_iff.1 hxs).2
          obtain ⟨L0, ps, e1, e2, e3, e4, _⟩ := HS.out.1
          obtain rfl : ps = [] := List.length_eq_zero_iff.1 e4
          rw [List.append_nil] at e1
          have hdb : (dbl ((xs.take k).map Dt.bs) 0)[i]? = some (nz x.q) := by rw [← e2, ← e1, List.getElem?_map, hxs]; rfl
          obtain ⟨hn1, htw⟩ := dbl_at _ _ _ _ hdb
          obtain ⟨d, hd, hkd, hdz⟩ := kw_at _ _ _ htw
          have hto : x.q.to' = (true, 2) := e3 x.q (by rw [← e1]; exact List.mem_of_getElem? hxs)
          have hdo := HXs.out.2 d ((List.take_subset k xs) hd)
          obtain ⟨⟨⟨xn1, xn⟩, xto, xda, xdc, xz, xpl⟩, xa, xc⟩ := x
          obtain ⟨da, dl, dc, dz⟩ := d
          have hn1 : xn1 = (false, 1) := hn1
          have hto : xto = (true, 2) := hto
          have hdz : dz = xz := hdz
          have hdl : dz.length = dl := hdo.len
          subst hn1
          subst hto
          subst hdz
          subst hdl
          have hzb : dz.length ≤ 140737488351232 := hdo.big
          obtain ⟨pg, CS, ela, hbg, hpart⟩ := own_box HJ.out.1.row hx
          subst ela
          obtain ⟨wg, ewa, hcw⟩ := HJ.out.1.wnt.at hkd
          subst ewa
          have HX : Hid (Bytes w0 da dz ∧ Bz w0 wr n s' ab (some ⟨wg, 0, none⟩) wcp (kw (xs.take k)) (some ⟨pg, 0, none⟩) lc ys X ∧ s'.L = ⟨((false, 1), xn), (true, 2), xda, xdc, dz, xpl⟩ :: s.L.drop (i + 1) ∧ s'.came ≤ 1000 ∧ ys[i]? = some ⟨⟨((false, 1), xn), (true, 2), xda, xdc, dz, xpl⟩, xa, xc⟩ ∧ (kw (xs.take k))[i]? = some ⟨da, dz.length, dc⟩ ∧ OwnB wr w0.heap.size xa xc dz) := ⟨hdo.nums, HJ.out.1, hdr, HJ.out.2.2, hx, hkd, HJ.out.1.dat _ (List.mem_of_getElem? hx)⟩
          have hp5 : CS.toArray[i * 6 + 5]? = some (.slice xa dz.length xc) := by rw [List.getElem?_toArray]; exact hpart 5 _ rfl
          have hp2 : CS.toArray[i * 6 + 2]? = some (.int .i64 xn) := by rw [List.getElem?_toArray]; exact hpart 2 _ rfl
          have HP : Hid (Box wr pg 44 CS.toArray ∧ CS.toArray[i * 6 + 5]? = some (.slice xa dz.length xc) ∧ CS.toArray[i * 6 + 2]? = some (.int .i64 xn) ∧ wr.cell? ⟨wg, 0 + i, none⟩ = some (.slice da dz.length dc)) := ⟨hbg, hp5, hp2, by rw [Nat.zero_add]; exact hcw⟩
          have him : i < 2 * k := hii
          clear hx hxs hdr e1 e2 e3 e4 hdb htw hkd hd hdo hbg hpart hcw hp5 hp2 HJ
          go_upto_region 36 with fail
          refine b36 _ pg (2 * k) lc wg (2 * k) wcp i xa da dz.length xc dz.length dc CS wr _ rfl rfl rfl rfl HP.out.1 HP.out.2.2.2 him him HP.out.2.1 (fun W hk => same_t xa da xc dc dz _ _ rfl rfl W hzb (OwnB.bytes (HX.out.2.2.2.2.2.2.no hk)) (HX.out.1.no (HX.out.2.1.nb.kept.then hk))) ?_
          intro wo hko
          have HZ : Hid (Bz w0 wo n s' ab (some ⟨wg, 0, none⟩) wcp (kw (xs.take k)) (some ⟨pg, 0, none⟩) lc ys X ∧ Box wo pg 44 CS.toArray) := ⟨HX.out.2.1.no hko, HP.out.1.kept hko (fun e => e)⟩
          clear hko
          simp only [Wa.pA, Wa.pB, Wa.p1, Wa.p2, Wa.p3]
          go_upto_region 38 with fail
          obtain ⟨f1, f2⟩ := fnd (k := ((false, 1), xn)) (L := []) (fun q hq => by simp at hq) ⟨((false, 1), xn), (true, 2), xda, xdc, dz, xpl⟩ rfl (s.L.drop (i + 1))
          rw [List.nil_append, ← HX.out.2.2.1] at f1 f2
          rw [List.nil_append] at f2
          obtain ⟨J, hJ, hcall⟩ := nb_deliver2 HZ.out.1.nb false 1 xn f1
          have HJ : Hid (∀ k, J k → OfX w0 X k ∧ k < wo.heap.size) := hJ
          refine b38 _ n ab pg (2 * k) lc i dz.length xn CS J (fun W w' pa pc => OwnB w' W.heap.size pa pc dz ∧ ∃ I', NetM w' n ⟨s'.sent, rmN ((false, 1), xn) s'.L, s'.came⟩ I' ∧ ∀ k, I' k → (J k ∨ W.heap.size ≤ k) ∧ k < w'.heap.size) wo _ rfl rfl rfl rfl rfl HZ.out.1.bA HZ.out.2 him HP.out.2.2.1 (fun e => (HJ.out _ e).1.2 HZ.out.1.inn.1) (fun e => (HJ.out _ e).1.2 (HZ.out.1.inn.2.2 pg (.inl ⟨_, rfl, rfl⟩))) (fun k e => (HJ.out k e).2) hcall ?_
          intro wp G W w' pa pc hk1 hk2 hR hk3 hBG hG hG2
          have HR : Hid ((Bz w0 wp n ⟨s'.sent, s.L.drop (i + 1), s'.came⟩ ab (some ⟨wg, 0, none⟩) wcp (kw (xs.take k)) (some ⟨pg, 0, none⟩) lc ys X ∧ OwnB wp w0.heap.size pa pc dz) ∧ Box wp G 44 #[.bool false, .int .i64 1, .int .i64 xn, .bool true, .int .i64 2, .slice pa dz.length pc]) := by
            have hN := hR.2
            rw [f2] at hN
            exact ⟨HZ.out.1.deliver HJ.out hk1 hk2 hR.1 hN hk3 hG hG2 (fun q hq => HZ.out.1.nb.len q (by rw [HX.out.2.2.1]; exact List.mem_cons_of_mem _ hq)), hBG⟩
          clear hk1 hk2 hR hk3 hBG hG hG2 f1 f2 hJ hcall
          simp only [Wa.pA, Wa.pB, Wa.p1, Wa.p2, Wa.p3]
          obtain ⟨wg', ew, hcw⟩ := HR.out.1.1.wnt.at HX.out.2.2.2.2.2.1
          cases ew
          have HCw : Hid (wp.cell? ⟨wg, 0 + i, none⟩ = some (.slice da dz.length dc)) := by rw [Nat.zero_add]; exact hcw
          clear hcw
          go_upto_region 39 with fail
          refine b39 _ G wg 0 (2 * k) wcp i pa da dz.length pc dz.length dc _ _ _ _ _ wp _ rfl rfl rfl rfl rfl HR.out.2 HCw.out him (fun W hk => same_t pa da pc dc dz _ _ rfl rfl W hzb (OwnB.bytes (HR.out.1.2.no hk)) (HX.out.1.no (HR.out.1.1.nb.kept.then hk))) ?_
          intro wz hkz
          have HQ : Hid (Bz w0 wz n ⟨s'.sent, s.L.drop (i + 1), s'.came⟩ ab (some ⟨wg, 0, none⟩) wcp (kw (xs.take k)) (some ⟨pg, 0, none⟩) lc ys X) := HR.out.1.1.no hkz
          clear hkz
          simp only [Wa.pA, Wa.pB, Wa.p1, Wa.p2, Wa.p3]
          go_wp2
          go_roundw
          case rel => exact ⟨i + 1, ⟨s'.sent, s.L.drop (i + 1), s'.came⟩, by omega, by go_num, HQ.out, rfl, HX.out.2.2.2.1⟩
          case measure => simp [intOf]; omega
        · have hii' : ¬ (i : Int) < ((2 * k : Nat) : Int) := by omega
          have hnil : s'.L.length = 0 := by rw [HJ.out.2.1, List.length_drop, HS.out.2.1]; omega
          have HE : Hid (s'.L.length = 0) := hnil
          clear hnil
          go_wp2_with (first
            | (go_at_call 17; refine (nb_many HJ.out.1.nb (by have := HJ.out.2.2; omega) 0 HE.out).mono ?_; rintro e wn ⟨rfl, hkn⟩; have HK2 : Hid (Kept No w0 wn) := HJ.out.1.nb.kept.then hkn; clear hkn)
            | (go_at_call 11; refine (head_any wn).mono ?_; rintro e wh ⟨rfl, hkh⟩; have HK3 : Hid (Kept No w0 wh) := HK2.out.then hkh; clear hkh))
          go_ret
          exact ⟨rfl, HK3.out⟩
end Go.Proofs.Ytphiokehcgbldaa
