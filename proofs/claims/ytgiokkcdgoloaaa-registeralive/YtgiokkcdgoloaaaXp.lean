import Derived.Test.YtgiokkcdgoloaaaZe
import Derived.Test.YtgiokkcdgoloaaaVo
namespace Go.Proofs.Ytgiokkcdgoloaaa.Md
open Go.RowKit
set_option linter.unusedVariables false
set_option linter.unusedSimpArgs false
theorem b_neqB4 (a b : Bool) (w : World) : (binOp .neq 4 (.bool a) (.bool b)).run Try.prog w = .ok (.bool (a != b)) w := by cases a <;> cases b <;> kernel_rfl
theorem bnL_at {l : List Bool} {i : Nat} {b : Bool} (h : (bnL l)[i]? = some (.bool b)) : l[i]? = some b := by
 unfold bnL at h
 rw [List.getElem?_map] at h
 cases e : l[i]? with
 | none => rw [e] at h; cases h
 | some q => rw [e] at h; cases h; rfl
theorem take_len {α : Type} {l : List α} {i : Nat} (h : i = l.length) : l.take i = l := by subst h; exact List.take_length ..
set_option maxRecDepth 100000 in
set_option maxHeartbeats 4000000 in
theorem exch_some (n0 : Nat) (J : Nat → Prop) (b : Nat) (x : Wd) (c : Nat) (su : Sl) (up : List Bool) (u : RM) (G : Nat → Int → Sp) (TT : Nat → Option Sp) (N Lb Db R : Nat) (w : World) (hW : WAt w n0 J b x) (hU : Own 4 1 w 0 su.a su.k su.l (bnL up)) (hUJ : ∀ k, At su.a k → ¬ J k) (hul : up.length = su.l) (hun : su.l = x.n) (hc : c < 4) (hm : x.m c = some u) (hI : WInv x G TT) (hg : x.gone c = false) (hq : QB N Lb Db R x) (hN : N ≤ 50000) (hLb : Lb ≤ 50000) (hDb : Db ≤ 50000) (hR : R ≤ 50000) (hx : x.un.length ≤ 90) : Calls Try.prog 22 #[.pointer (some ⟨b, 0, none⟩), .int .i64 ((c : Nat) : Int), su.v] w (WOut w n0 J b (exW x c up)) := by
 refine hideC fun C HC => ?_
 obtain ⟨v, mp, I, H, U, D, L, hA⟩ := hW
 have hml := hA.ml
 obtain ⟨gm, hgm⟩ := own_at hA.mm (by omega)
 obtain ⟨m, hmp, hM⟩ := hA.wl.mc c u hm
 have hls := hq.ls
 have hn7 := hq.n
 have hsl : (outs (u, tikP u)).length ≤ 7 := by
  have h1 := ss_tik hM
  have h2 := (hq.mr c u hm).2.2
  have h3 := hq.n
  rw [outs_len]
  dsimp only at h1 ⊢
  omega
 clear hM
 have hI1 : WInv (sendW x (outs (u, tikP u))) G TT := by
  have h1 := hI.tick c
  rw [tick_send hm hg] at h1
  exact h1
 have hQ1 : QB (N + 2) (Lb + 7) (Db + 1) (R + 1) (sendW x (outs (u, tikP u))) := by
  have h1 := hq.tick (w := w) c (fun s hs => hI.tikL hs)
  rw [tick_send hm hg] at h1
  exact h1
 have hl1 : (sendW x (outs (u, tikP u))).un.length ≤ 100 := by
  have := send_len (outs (u, tikP u)) x
  omega
 have hn1 : (sendW x (outs (u, tikP u))).n = x.n := (Gro.send x _).n
 rw [exW_some hm] at HC
 have HXO : Hid (∀ kd, kd < 2 → (∃ T', WInv (xsW (sendW x (outs (u, tikP u))) up kd) G T') ∧ QB (N + 2 + 200) (Lb + 7 + 700) (Db + 1 + 100) (R + 1 + 100) (xsW (sendW x (outs (u, tikP u))) up kd) ∧ (xsW (sendW x (outs (u, tikP u))) up kd).un.length ≤ 100 ∧ (xsW (sendW x (outs (u, tikP u))) up kd).n = (sendW x (outs (u, tikP u))).n) := fun kd hk => xs_ok hI1 hQ1 hl1 hk
 clear hI hq hI1 hQ1 hl1
 have HF : Hid (Wg w w n0 J J b v x mp I H U D L [] [(su, 4, 1, bnL up)] []) := (Wg.start hA).add (y := (su, 4, 1, bnL up)) (c := 0) hU hUJ (by simp)
 clear hA hU hUJ
 go_enter Try.func22, Try.ntmps22
 go_upto_region 0 with fail
 refine WL.start <| uK (pV b 0) <| uK (pV b 0) <| uK (pV b 2) <| uL 69 ⟨b, 2, none⟩ (v.mm.v) (ld1 HF.out.wbox 2 U69 rfl) <| uK (.int .i64 ((c : Nat) : Int)) <| uW (pV gm (0 + c * 1)) (exec_ixS 69 1 E69 F69 _ _ rfl hgm (by omega)) <| uL 31 ⟨gm, 0 + c * 1, none⟩ (.iface 115 (pV m 0)) (load_one ((HF.out.wa.mmc hgm hc).trans (by rw [hmp]; rfl)) U31 V31) <| uB .eql 31 (.iface 115 (pV m 0)) (.nilIface) (.bool false) (eql31_f _ _) <| WL.nil <| ?_
 try simp only [pS]
 go_upto_region 1 with fail
 refine WL.start <| uK (pV b 0) <| uK (pV b 0) <| uK (pV b 2) <| uL 69 ⟨b, 2, none⟩ (v.mm.v) (ld1 HF.out.wbox 2 U69 rfl) <| uK (.int .i64 ((c : Nat) : Int)) <| uW (pV gm (0 + c * 1)) (exec_ixS 69 1 E69 F69 _ _ rfl hgm (by omega)) <| uL 31 ⟨gm, 0 + c * 1, none⟩ (.iface 115 (pV m 0)) (load_one ((HF.out.wa.mmc hgm hc).trans (by rw [hmp]; rfl)) U31 V31) <| ?_
 try simp only [pS]
 refine uC 86 #[pV m 0] (tick_M5 (HF.out.mch hm hmp)) ?_
 rintro e wk1 hO
 obtain ⟨la, lc, ms, I2, J2, rfl, hL, hU2, hJ2, hG⟩ := HF.out.tell hmp hO (toOk_tik _)
 have HF : Hid (Wg w wk1 n0 J J2 b v ({ x with m := upN x.m c (some u) }) mp I2 H U D L [] [(su, 4, 1, bnL up)] []) := hG
 clear hG hO
 have HF : Hid (Wg w wk1 n0 J J2 b v x mp I2 H U D L [] [(su, 4, 1, bnL up)] []) := by
  have h1 := HF.out
  rw [upN_id _ _ hm] at h1
  exact h1
 refine ⟨.slice la ms.length lc, rfl, ?_⟩
 try simp only [pS]
 refine uK (.slice la ms.length lc) <| WL.nil <| ?_
 try simp only [pS]
 go_upto_region 2 with fail
 refine WL.start <| uK (pV b 0) <| uK (.slice la ms.length lc) <| ?_
 try simp only [pS]
 refine uC 45 #[pV b 0, .slice la ms.length lc] (send_any n0 J2 b x ⟨la, ms.length, lc⟩ (outs (u, tikP u)) ms _ ⟨_, _, _, _, _, _, _, HF.out.wa⟩ hL hJ2 hU2 (by omega)) ?_
 rintro e wk2 ⟨rfl, Js, ⟨vs, mps, Is, Hs, Us, Ds, Ls, hAs⟩, hup⟩
 have HF : Hid _ := HF.out.upd hAs hup
 clear hAs hup
 refine ⟨.tuple #[], rfl, ?_⟩
 try simp only [pS]
 refine WL.nil ?_
 try simp only [pS]
 go_upto_region 3 with fail
 refine WL.start <| uK (.int .i64 0) <| WL.nil <| ?_
 try simp only [pS]
 go_wp2
 go_loopw [7] (fun v7 wr => ∃ (kd : Nat) (Jo : Nat → Prop) (vo : Wv) (mpo : Nat → Option Nat) (Io : Nat → Nat → Prop) (Ho : List Bl) (Uo : List Mg) (Do : List Dv) (Lo : List Lv), v7 = .int .i64 ((kd : Nat) : Int) ∧ kd ≤ 2 ∧ Hid (Wg w wr n0 J Jo b vo (xsW (sendW x (outs (u, tikP u))) up kd) mpo Io Ho Uo Do Lo [] [(su, 4, 1, bnL up)] [])) (fun kd _ => 2 - (intOf kd).toNat)
 case atStart => exact ⟨0, Js, vs, mps, Is, Hs, Us, Ds, Ls, by go_num, by omega, HF⟩
 case round =>
  rename World => wo
  clear HF
  obtain ⟨kd, Jo, vo, mpo, Io, Ho, Uo, Do, Lo, rfl, hkd, HF⟩ := hrel
  by_cases hlt : kd < 2
  · skip
    obtain ⟨⟨T', hIX⟩, hQX, hlX, hnX⟩ := HXO.out kd hlt
    have hnx : (xsW (sendW x (outs (u, tikP u))) up kd).n = su.l := by omega
    have hst := xs_step (sendW x (outs (u, tikP u))) up hlt
    obtain ⟨X, hX⟩ : ∃ X, X = xsW (sendW x (outs (u, tikP u))) up kd := ⟨_, rfl⟩
    obtain ⟨kb, hkk⟩ : ∃ kb : Bool, kb = (kd == 1) := ⟨_, rfl⟩
    have hkb : ((((kd : Nat) : Int)) == 1) = kb := by rw [hkk]; rcases (show kd = 0 ∨ kd = 1 by omega) with rfl | rfl <;> rfl
    rw [← hX] at HF hIX hQX hlX hnx hst
    rw [← hkk] at hst
    clear hX hkk hnX
    have HIX : Hid (WInv X G T') := hIX
    have HQX : Hid (QB (N + 2 + 200) (Lb + 7 + 700) (Db + 1 + 100) (R + 1 + 100) X) := hQX
    clear hIX hQX
    have hUl : X.un.length = vo.un.l := by rw [HF.out.wa.pt.un.1, HF.out.wa.ul]
    obtain ⟨hEU, hBU⟩ := of_unm HF.out.wa.pt.un
    have HF : Hid (Wg w wo n0 J Jo b vo X mpo Io Ho Uo Do Lo [] [(su, 4, 1, bnL up)] (qOf X.un Uo)) := HF.out.byt (Q := []) (Q' := qOf X.un Uo) hBU
    clear hBU
    go_upto_region 4 with fail
    refine WL.start <| uK (.int .i64 ((kd : Nat) : Int)) <| uB .lss 3 (.int .i64 ((kd : Nat) : Int)) (.int .i64 2) (.bool true) (by rw [b_lss, decide_eq_true (by omega)]) <| WL.nil <| ?_
    try simp only [pS]
    go_upto_region 6 with fail
    refine WL.start <| uK (pV b 0) <| uK (pV b 0) <| uK (pV b 6) <| uL 71 ⟨b, 6, none⟩ (vo.un.v) (ld1 HF.out.wbox 6 U71 rfl) <| uK (vo.un.v) <| WL.nil <| ?_
    try simp only [pS]
    go_upto_region 7 with fail
    refine WL.start <| uK (pV b 0) <| uK (pV b 0) <| uK (pV b 6) <| ?_
    try simp only [pS]
    obtain ⟨J2c, hG, hdj⟩ := HF.out.cutU
    refine uT 71 ⟨b, 6, none⟩ (.slice none 0 0) (wo.setRow b (Wv.cells ⟨vo.gp, vo.hd, vo.mm, vo.aa, vo.rr, vo.gn, slZ, vo.ds, vo.ls, vo.now, vo.br⟩)) (rs (Wv.cs vo) ([.slice none 0 0]) (Wv.cs ⟨vo.gp, vo.hd, vo.mm, vo.aa, vo.rr, vo.gn, slZ, vo.ds, vo.ls, vo.now, vo.br⟩) (HF.out.wbox) S71 (by simp [Value.oneCell', Sl.v])) ?_
    try simp only [pS]
    have HF : Hid (Wg w (wo.setRow b (Wv.cells ⟨vo.gp, vo.hd, vo.mm, vo.aa, vo.rr, vo.gn, slZ, vo.ds, vo.ls, vo.now, vo.br⟩)) n0 J J2c b ⟨vo.gp, vo.hd, vo.mm, vo.aa, vo.rr, vo.gn, slZ, vo.ds, vo.ls, vo.now, vo.br⟩ ({ X with un := [] }) mpo Io Ho ([]) Do Lo [] [(su, 4, 1, bnL up), (vo.un, 52, 30, mgL Uo)] (qOf X.un Uo)) := hG
    try clear hG
    generalize wo.setRow b (Wv.cells ⟨vo.gp, vo.hd, vo.mm, vo.aa, vo.rr, vo.gn, slZ, vo.ds, vo.ls, vo.now, vo.br⟩) = wk3 at HF ⊢
    refine WL.nil ?_
    try simp only [pS]
    go_upto_region 8 with fail
    refine WL.start <| uK (.slice none 0 0) <| WL.nil <| ?_
    try simp only [pS]
    go_upto_region 9 with fail
    refine WL.start <| uK (.int .i64 0) <| WL.nil <| ?_
    try simp only [pS]
    have hd3 : ∀ (i : Nat) (y : Rowx) k, i ≠ 2 → [((su, 4, 1, bnL up) : Rowx), (vo.un, 52, 30, mgL Uo), (slZ, 52, 30, mgL [])][i]? = some y → At y.1.a k → ¬ At slZ.a k := fun _ _ _ _ _ _ e => At.none e
    have HFn : Hid (Wg w wk3 n0 J J2c b ⟨vo.gp, vo.hd, vo.mm, vo.aa, vo.rr, vo.gn, slZ, vo.ds, vo.ls, vo.now, vo.br⟩ ((exF kb up X (X.un.take 0)).1) mpo Io Ho ([]) Do Lo [] [(su, 4, 1, bnL up), (vo.un, 52, 30, mgL Uo), (slZ, 52, 30, mgL [])] (qOf X.un Uo ++ qOf (exF kb up X (X.un.take 0)).2 [])) := by
     have h1 := HF.out.add (y := ((slZ, 52, 30, mgL []) : Rowx)) (c := 0) (Own.nil _ _ _ _) (fun k e => absurd e At.none) (by simp)
     have e1 : qOf X.un Uo ++ qOf (exF kb up X (X.un.take 0)).2 [] = qOf X.un Uo := by show _ ++ [] = _; rw [List.append_nil]
     rw [e1]
     exact h1
    go_wp2
    go_loopw [9, 10] (fun v9 v10 wr => ∃ (i : Nat) (lt : Sl) (V : List Mg) (Ji : Nat → Prop) (vi : Wv) (mpi : Nat → Option Nat) (Ii : Nat → Nat → Prop) (Hi : List Bl) (Ui : List Mg) (Di : List Dv) (Li : List Lv), v9 = lt.v ∧ v10 = .int .i64 ((i : Nat) : Int) ∧ i ≤ vo.un.l ∧ lt.l ≤ i ∧ (∀ k, At lt.a k → w.heap.size ≤ k) ∧ (∀ (q : Nat) (y : Rowx) k, q ≠ 2 → [((su, 4, 1, bnL up) : Rowx), (vo.un, 52, 30, mgL Uo), (lt, 52, 30, mgL V)][q]? = some y → At y.1.a k → ¬ At lt.a k) ∧ Hid (Eqm (exF kb up X (X.un.take i)).2 V) ∧ Hid (Wg w wr n0 J Ji b vi ((exF kb up X (X.un.take i)).1) mpi Ii Hi Ui Di Li [] [(su, 4, 1, bnL up), (vo.un, 52, 30, mgL Uo), (lt, 52, 30, mgL V)] (qOf X.un Uo ++ qOf (exF kb up X (X.un.take i)).2 V))) (fun _ i _ => vo.un.l - (intOf i).toNat)
    case atStart => exact ⟨0, slZ, [], J2c, ⟨vo.gp, vo.hd, vo.mm, vo.aa, vo.rr, vo.gn, slZ, vo.ds, vo.ls, vo.now, vo.br⟩, mpo, Io, Ho, [], Do, Lo, rfl, by go_num, by omega, Nat.le_refl _, fun k e => absurd e At.none, hd3, ⟨rfl, fun i a c e => by cases e⟩, HFn⟩
    case round =>
     rename World => wi
     clear HF HFn hd3
     obtain ⟨i, lt, V, Ji, vi, mpi, Ii, Hi, Ui, Di, Li, rfl, rfl, hi, hli, hb0, hd0, HEV, HF⟩ := hrel
     by_cases hlti : i < vo.un.l
     · skip
       obtain ⟨p, hpi⟩ : ∃ p, X.un[i]? = some p := ⟨_, List.getElem?_eq_getElem (by omega)⟩
       obtain ⟨m, hmi, hme⟩ := hEU.at hpi
       obtain ⟨gu, hgu⟩ := own_at (HF.out.tl 1 _ rfl) (by show 0 < vo.un.l; omega)
       have hgu : vo.un.a = some ⟨gu, 0, none⟩ := hgu
       have hdb := exF_delB (up := up) kb HIX.out HQX.out (by omega) (by omega) (by omega) hpi
       have hmq0 : (m.bl, p.z) ∈ qOf X.un Uo := qOf_mem hpi hmi
       have hmq : (m.bl, p.z) ∈ qOf X.un Uo ++ qOf (exF kb up X (X.un.take i)).2 V := List.mem_append_left _ hmq0
       have HM : Hid (m = { mgP p with bl := m.bl }) := hme
       have htoo : m.too = p.too := by rw [hme]; rfl
       have htk : X.un.take (i + 1) = X.un.take i ++ [p] := by rw [List.take_add_one, hpi]; rfl
       have hex : exF kb up X (X.un.take (i + 1)) = exS kb up (exF kb up X (X.un.take i)) p := by rw [htk, exF_snoc]
       have hEVl := HEV.out.1
       clear hme
       go_upto_region 10 with fail
       refine WL.start <| uK (.int .i64 ((i : Nat) : Int)) <| uK (vo.un.v) <| uK (.int .i64 ((vo.un.l : Nat) : Int)) <| uB .lss 3 (.int .i64 ((i : Nat) : Int)) (.int .i64 ((vo.un.l : Nat) : Int)) (.bool true) (by rw [b_lss, decide_eq_true (by omega)]) <| WL.nil <| ?_
       try simp only [pS]
       go_upto_region 12 with fail
       refine WL.start <| uK (vo.un.v) <| uK (.int .i64 ((i : Nat) : Int)) <| uW (pV gu (0 + i * 30)) (exec_ixS 71 30 E71 F71 _ _ rfl hgu (by omega)) <| uL 52 ⟨gu, 0 + i * 30, none⟩ (.agg (Mg.cells m)) ((load_part (n := 0) (own_cell (show Own 52 30 wi 0 vo.un.a vo.un.k vo.un.l (mgL Uo) from HF.out.tl 1 _ rfl) hgu (mgL_c Uo) (by decide) hmi) (part_of (off := 0) (sub := Mg.cs m) (by kernel_rfl)) U52 rfl S52)) <| ?_
       try simp only [pS]
       refine uR (pV wi.heap.size 0) (wi.alloc (.cells (Mg.cells mgZ) 52)) (exec_alloc 52 rfl (Mg.cells mgZ) Z52) ?_
       try simp only [pS]
       have HF : Hid _ := HF.out.alloc 52 (Mg.cells mgZ)
       generalize wi.alloc (.cells (Mg.cells mgZ) 52) = wk5 at HF ⊢
       generalize wi.heap.size = gk4 at HF ⊢
       refine uT 52 ⟨gk4, 0, none⟩ (.agg (Mg.cells m)) (wk5.setRow gk4 (Mg.cells m)) (rs (Mg.cs mgZ) (Mg.cs m) (Mg.cs m) (HF.out.box 0 _ _ _ rfl) S52 (Mg.oneL _)) ?_
       try simp only [pS]
       have HF : Hid _ := HF.out.set 0 rfl (Mg.cells m)
       generalize wk5.setRow gk4 (Mg.cells m) = wk6 at HF ⊢
       refine WL.nil ?_
       try simp only [pS]
       go_upto_region 13 with fail
       refine WL.start <| uK (pV gk4 3) <| uK (pV gk4 3) <| uL 4 ⟨gk4, 3, none⟩ (.bool m.too.cl) (ld1 (HF.out.box 0 _ _ _ rfl) 3 U4 rfl) <| uK (.int .i64 ((kd : Nat) : Int)) <| uB .eql 3 (.int .i64 ((kd : Nat) : Int)) (.int .i64 1) (.bool kb) (by rw [b_eql, hkb]) <| ?_
       try simp only [pS]
       cases q1 : ((m.too.cl != kb))
       ·skip
        refine uB .neq 4 (.bool m.too.cl) (.bool kb) (.bool false) (by rw [b_neqB4, q1]; try rfl) <| WL.nil <| ?_
        try simp only [pS]
        have hno : ¬ (p.too.cl != kb) = true := by rw [← htoo, q1]; decide
        have hcl : m.too.cl = kb := by
         have h3 := q1
         generalize m.too.cl = aa at h3
         cases aa <;> cases kb <;> first | rfl | cases h3
        have hsv : kb = false → ∃ cc : Nat, cc < su.l ∧ m.too.id = (cc : Int) + 1 := fun e => by
         rcases hdb.ok with ⟨h1, _⟩ | ⟨_, ⟨cc, h2, h3⟩, _⟩
         · rw [← htoo, hcl, e] at h1; cases h1
         · refine ⟨cc, ?_, by rw [htoo]; exact h3⟩
           have e2 : (exF kb up X (X.un.take i)).1.n = X.n := (exF_inv kb up HIX.out (X.un.take i) (fun q hq => HIX.out.msg q (List.mem_of_mem_take hq))).choose_spec.2.2.1.n
           omega
        go_upto_region 15 with fail
        refine WL.start <| uK (.int .i64 ((kd : Nat) : Int)) <| uB .eql 3 (.int .i64 ((kd : Nat) : Int)) (.int .i64 1) (.bool kb) (by rw [b_eql, hkb]) <| uK (.bool kb) <| ?_
        try simp only [pS]
        cases q2 : (kb)
        ·skip
         obtain ⟨cc, hcc, hid⟩ := hsv q2
         obtain ⟨gs, hgs⟩ := own_at (HF.out.tl 0 _ rfl) (by show 0 < su.l; omega)
         have hgs : su.a = some ⟨gs, 0, none⟩ := hgs
         obtain ⟨ub, hub⟩ : ∃ ub : Bool, (bnL up)[cc]? = some (.bool ub) := by
          refine ⟨up[cc]'(by omega), ?_⟩
          unfold bnL
          rw [List.getElem?_map, List.getElem?_eq_getElem (by omega)]
          rfl
         try simp only [q2]
         refine uK (pV gk4 3) <| uK (pV gk4 4) <| uL 3 ⟨gk4, 4, none⟩ (.int .i64 m.too.id) (ld1 (HF.out.box 0 _ _ _ rfl) 4 U3 rfl) <| uB .geq 3 (.int .i64 m.too.id) (.int .i64 1) (.bool true) (by rw [hid, b_geq, decide_eq_true (by omega)]) <| uK (.bool true) <| uK (pV gk4 3) <| uK (pV gk4 4) <| uL 3 ⟨gk4, 4, none⟩ (.int .i64 m.too.id) (ld1 (HF.out.box 0 _ _ _ rfl) 4 U3 rfl) <| uK (su.v) <| uK (.int .i64 ((su.l : Nat) : Int)) <| uB .leq 3 (.int .i64 m.too.id) (.int .i64 ((su.l : Nat) : Int)) (.bool true) (by rw [hid, b_leq, decide_eq_true (by omega)]) <| uK (.bool true) <| uK (.bool true) <| uK (su.v) <| uK (pV gk4 3) <| uK (pV gk4 4) <| uL 3 ⟨gk4, 4, none⟩ (.int .i64 m.too.id) (ld1 (HF.out.box 0 _ _ _ rfl) 4 U3 rfl) <| uB .sub 3 (.int .i64 m.too.id) (.int .i64 1) (.int .i64 ((cc : Nat) : Int)) (by rw [hid]; exact b_subw _ _ _ (by rw [IntKind.wrap_i64]; omega) _) <| uW (pV gs (0 + cc * 1)) (exec_ixS 70 1 E70 F70 _ _ rfl hgs (by omega)) <| uL 4 ⟨gs, 0 + cc * 1, none⟩ (.bool ub) (load_one (own_c1 (show Own 4 1 wk6 0 su.a su.k su.l (bnL up) from HF.out.tl 0 _ rfl) hgs hub) U4 rfl) <| uK (.bool ub) <| uK (.bool ub) <| WL.nil <| ?_
         try simp only [pS]
         cases q3 : (ub)
         ·skip
          try simp only [q3]
          have hua : upAt up p.too.id = ub := by
           have h1 := bnL_at hub
           unfold upAt
           rw [← htoo, hid, decide_eq_true (by omega), decide_eq_true (by omega), show ((cc : Int) + 1 - 1).toNat = cc by omega, h1]
           rfl
          have hx0 : exS kb up (exF kb up X (X.un.take i)) p = exF kb up X (X.un.take i) := by
           unfold exS
           rw [if_neg hno, if_neg (by rw [hua, q3, q2]; decide)]
          have hx1 : (exF kb up X (X.un.take (i + 1))).1 = (exF kb up X (X.un.take i)).1 := by rw [hex, hx0]
          have hx2 : (exF kb up X (X.un.take (i + 1))).2 = (exF kb up X (X.un.take i)).2 := by rw [hex, hx0]
          have HF : Hid (Wg w wk6 n0 J Ji b vi ((exF kb up X (X.un.take i)).1) mpi Ii Hi Ui Di Li [] [(su, 4, 1, bnL up), (vo.un, 52, 30, mgL Uo), (lt, 52, 30, mgL V)] (qOf X.un Uo ++ qOf (exF kb up X (X.un.take i)).2 V)) := Wg.front (l := []) HF.out
          have HF : Hid (Wg w wk6 n0 J Ji b vi ((exF kb up X (X.un.take (i + 1))).1) mpi Ii Hi Ui Di Li [] [(su, 4, 1, bnL up), (vo.un, 52, 30, mgL Uo), (lt, 52, 30, mgL V)] (qOf X.un Uo ++ qOf (exF kb up X (X.un.take (i + 1))).2 V)) := by
           have h1 := HF.out
           rw [hx1, hx2]
           exact h1
          go_upto_region 11 with fail
          refine WL.start <| uK (.int .i64 ((i : Nat) : Int)) <| uB .add 3 (.int .i64 ((i : Nat) : Int)) (.int .i64 1) (.int .i64 (((i + 1) : Nat) : Int)) (b_addw _ _ _ (by rw [IntKind.wrap_i64]; omega) _) <| uK (.int .i64 (((i + 1) : Nat) : Int)) <| WL.nil <| ?_
          try simp only [pS]
          go_wp2
          go_roundw
          case rel => exact ⟨i + 1, lt, V, Ji, vi, mpi, Ii, Hi, Ui, Di, Li, rfl, by go_num, by omega, by omega, hb0, hd0, by rw [hx2]; exact HEV.out, HF⟩
          case measure => simp [intOf]; omega
         ·skip
          try simp only [q3]
          have hua : upAt up p.too.id = ub := by
           have h1 := bnL_at hub
           unfold upAt
           rw [← htoo, hid, decide_eq_true (by omega), decide_eq_true (by omega), show ((cc : Int) + 1 - 1).toNat = cc by omega, h1]
           rfl
          have hx0 : exS kb up (exF kb up X (X.un.take i)) p = (delW (exF kb up X (X.un.take i)).1 p, (exF kb up X (X.un.take i)).2) := by
           unfold exS
           rw [if_neg hno, if_pos (by rw [hua, q3, Bool.or_true])]
          have hx1 : (exF kb up X (X.un.take (i + 1))).1 = delW (exF kb up X (X.un.take i)).1 p := by rw [hex, hx0]
          have hx2 : (exF kb up X (X.un.take (i + 1))).2 = (exF kb up X (X.un.take i)).2 := by rw [hex, hx0]
          go_upto_region 16 with fail
          refine WL.start <| uK (pV b 0) <| uL 52 ⟨gk4, 0, none⟩ (.agg (Mg.cells m)) (run_load_part (cs := Mg.cs m) (sub := Mg.cs m) (HF.out.box 0 _ _ _ rfl) (Part.all _) U52 rfl S52) <| ?_
          try simp only [pS]
          refine uC 47 #[pV b 0, .agg (Mg.cells m)] (deliver_any n0 Ji b _ p m _ ⟨_, _, _, _, _, _, _, HF.out.wa⟩ ⟨HM.out, HF.out.qmem hmq⟩ hdb.ok hdb.now hdb.ls hdb.n hdb.at') ?_
          rintro e wk7 ⟨rfl, Jq, ⟨vq, mpq, Iq, Hq, Uq, Dq, Lq, hAq⟩, hup⟩
          have HF : Hid _ := HF.out.upd hAq hup
          clear hAq hup
          refine ⟨.tuple #[], rfl, ?_⟩
          try simp only [pS]
          refine WL.nil ?_
          try simp only [pS]
          have HF : Hid (Wg w wk7 n0 J Jq b vq (delW (exF kb up X (X.un.take i)).1 p) mpq Iq Hq Uq Dq Lq [] [(su, 4, 1, bnL up), (vo.un, 52, 30, mgL Uo), (lt, 52, 30, mgL V)] (qOf X.un Uo ++ qOf (exF kb up X (X.un.take i)).2 V)) := Wg.front (l := []) HF.out
          have HF : Hid (Wg w wk7 n0 J Jq b vq ((exF kb up X (X.un.take (i + 1))).1) mpq Iq Hq Uq Dq Lq [] [(su, 4, 1, bnL up), (vo.un, 52, 30, mgL Uo), (lt, 52, 30, mgL V)] (qOf X.un Uo ++ qOf (exF kb up X (X.un.take (i + 1))).2 V)) := by
           have h1 := HF.out
           rw [hx1, hx2]
           exact h1
          go_upto_region 11 with fail
          refine WL.start <| uK (.int .i64 ((i : Nat) : Int)) <| uB .add 3 (.int .i64 ((i : Nat) : Int)) (.int .i64 1) (.int .i64 (((i + 1) : Nat) : Int)) (b_addw _ _ _ (by rw [IntKind.wrap_i64]; omega) _) <| uK (.int .i64 (((i + 1) : Nat) : Int)) <| WL.nil <| ?_
          try simp only [pS]
          go_wp2
          go_roundw
          case rel => exact ⟨i + 1, lt, V, Jq, vq, mpq, Iq, Hq, Uq, Dq, Lq, rfl, by go_num, by omega, by omega, hb0, hd0, by rw [hx2]; exact HEV.out, HF⟩
          case measure => simp [intOf]; omega
        ·skip
         try simp only [q2]
         refine uZ <| uZ <| uZ <| uZ <| uZ <| uZ <| uZ <| uZ <| uZ <| uZ <| uZ <| uZ <| uZ <| uZ <| uZ <| uZ <| uZ <| uZ <| uZ <| uZ <| uZ <| uK (.bool true) <| WL.nil <| ?_
         try simp only [pS]
         have hx0 : exS kb up (exF kb up X (X.un.take i)) p = (delW (exF kb up X (X.un.take i)).1 p, (exF kb up X (X.un.take i)).2) := by
          unfold exS
          rw [if_neg hno, if_pos (by rw [q2]; rfl)]
         have hx1 : (exF kb up X (X.un.take (i + 1))).1 = delW (exF kb up X (X.un.take i)).1 p := by rw [hex, hx0]
         have hx2 : (exF kb up X (X.un.take (i + 1))).2 = (exF kb up X (X.un.take i)).2 := by rw [hex, hx0]
         go_upto_region 16 with fail
         refine WL.start <| uK (pV b 0) <| uL 52 ⟨gk4, 0, none⟩ (.agg (Mg.cells m)) (run_load_part (cs := Mg.cs m) (sub := Mg.cs m) (HF.out.box 0 _ _ _ rfl) (Part.all _) U52 rfl S52) <| ?_
         try simp only [pS]
         refine uC 47 #[pV b 0, .agg (Mg.cells m)] (deliver_any n0 Ji b _ p m _ ⟨_, _, _, _, _, _, _, HF.out.wa⟩ ⟨HM.out, HF.out.qmem hmq⟩ hdb.ok hdb.now hdb.ls hdb.n hdb.at') ?_
         rintro e wk8 ⟨rfl, Jq, ⟨vq, mpq, Iq, Hq, Uq, Dq, Lq, hAq⟩, hup⟩
         have HF : Hid _ := HF.out.upd hAq hup
         clear hAq hup
         refine ⟨.tuple #[], rfl, ?_⟩
         try simp only [pS]
         refine WL.nil ?_
         try simp only [pS]
         have HF : Hid (Wg w wk8 n0 J Jq b vq (delW (exF kb up X (X.un.take i)).1 p) mpq Iq Hq Uq Dq Lq [] [(su, 4, 1, bnL up), (vo.un, 52, 30, mgL Uo), (lt, 52, 30, mgL V)] (qOf X.un Uo ++ qOf (exF kb up X (X.un.take i)).2 V)) := Wg.front (l := []) HF.out
         have HF : Hid (Wg w wk8 n0 J Jq b vq ((exF kb up X (X.un.take (i + 1))).1) mpq Iq Hq Uq Dq Lq [] [(su, 4, 1, bnL up), (vo.un, 52, 30, mgL Uo), (lt, 52, 30, mgL V)] (qOf X.un Uo ++ qOf (exF kb up X (X.un.take (i + 1))).2 V)) := by
          have h1 := HF.out
          rw [hx1, hx2]
          exact h1
         go_upto_region 11 with fail
         refine WL.start <| uK (.int .i64 ((i : Nat) : Int)) <| uB .add 3 (.int .i64 ((i : Nat) : Int)) (.int .i64 1) (.int .i64 (((i + 1) : Nat) : Int)) (b_addw _ _ _ (by rw [IntKind.wrap_i64]; omega) _) <| uK (.int .i64 (((i + 1) : Nat) : Int)) <| WL.nil <| ?_
         try simp only [pS]
         go_wp2
         go_roundw
         case rel => exact ⟨i + 1, lt, V, Jq, vq, mpq, Iq, Hq, Uq, Dq, Lq, rfl, by go_num, by omega, by omega, hb0, hd0, by rw [hx2]; exact HEV.out, HF⟩
         case measure => simp [intOf]; omega
       ·skip
        refine uB .neq 4 (.bool m.too.cl) (.bool kb) (.bool true) (by rw [b_neqB4, q1]; try rfl) <| WL.nil <| ?_
        try simp only [pS]
        have hx0 : exS kb up (exF kb up X (X.un.take i)) p = ((exF kb up X (X.un.take i)).1, (exF kb up X (X.un.take i)).2 ++ [p]) := by unfold exS; rw [if_pos (by rw [← htoo]; exact q1)]
        have hx1 : (exF kb up X (X.un.take (i + 1))).1 = (exF kb up X (X.un.take i)).1 := by rw [hex, hx0]
        have hx2 : (exF kb up X (X.un.take (i + 1))).2 = (exF kb up X (X.un.take i)).2 ++ [p] := by rw [hex, hx0]
        go_upto_region 14 with fail
        refine WL.start <| uK (lt.v) <| uL 52 ⟨gk4, 0, none⟩ (.agg (Mg.cells m)) (run_load_part (cs := Mg.cs m) (sub := Mg.cs m) (HF.out.box 0 _ _ _ rfl) (Part.all _) U52 rfl S52) <| ?_
        try simp only [pS]
        refine uR (.slice (some ⟨wk6.heap.size, 0, none⟩) 1 1) (wk6.alloc (.cells (Mg.cells m) 52)) (exec_slice2 71 52 _ rfl (Mg.cells m) (.agg (Mg.cells m)) (by kernel_rfl) (by kernel_rfl)) ?_
        try simp only [pS]
        have HF : Hid _ := HF.out.alloc 52 (Mg.cells m)
        generalize wk6.alloc (.cells (Mg.cells m) 52) = wk10 at HF ⊢
        generalize wk6.heap.size = gk9 at HF ⊢
        obtain ⟨a1, k1, wk11, hap, hb1, hd1, hG⟩ := HF.out.later (q := 2) (y := m) (g := gk9) (cc := 1) rfl hb0 hd0 (by omega) (fun j uu hj => by rw [addr_add, Nat.zero_add, (HF.out.box 1 _ _ _ rfl).cell, List.getElem?_toArray]; exact hj)
        refine uR (.slice a1 (lt.l + 1) k1) (wk11) (exec_appN _ _ 71 71 rfl _ _ (by kernel_rfl) (by kernel_rfl) hap) ?_
        try simp only [pS]
        have HF : Hid (Wg w wk11 n0 J Ji b vi ((exF kb up X (X.un.take i)).1) mpi Ii Hi Ui Di Li [(gk4, 52, Mg.cells m), (gk9, 52, Mg.cells m)] [(su, 4, 1, bnL up), (vo.un, 52, 30, mgL Uo), (⟨a1, lt.l + 1, k1⟩, 52, 30, mgL (V ++ [m]))] (qOf X.un Uo ++ qOf (exF kb up X (X.un.take i)).2 V)) := hG
        clear hG hap
        refine uK (.slice a1 (lt.l + 1) k1) <| WL.nil <| ?_
        try simp only [pS]
        have HF : Hid (Wg w wk11 n0 J Ji b vi ((exF kb up X (X.un.take i)).1) mpi Ii Hi Ui Di Li [] [(su, 4, 1, bnL up), (vo.un, 52, 30, mgL Uo), (⟨a1, lt.l + 1, k1⟩, 52, 30, mgL (V ++ [m]))] (qOf X.un Uo ++ qOf (exF kb up X (X.un.take i)).2 V)) := Wg.front (l := []) HF.out
        have HF : Hid (Wg w wk11 n0 J Ji b vi ((exF kb up X (X.un.take (i + 1))).1) mpi Ii Hi Ui Di Li [] [(su, 4, 1, bnL up), (vo.un, 52, 30, mgL Uo), (⟨a1, lt.l + 1, k1⟩, 52, 30, mgL (V ++ [m]))] (qOf X.un Uo ++ qOf (exF kb up X (X.un.take (i + 1))).2 (V ++ [m]))) := by
         have h1 := HF.out
         rw [hx1, hx2]
         rw [qOf_snoc hEVl, ← List.append_assoc]
         refine h1.pick (fun _ h => h) (fun y hy => ?_)
         rcases List.mem_append.1 hy with hy | hy
         · exact hy
         · rw [List.mem_singleton.1 hy]; exact hmq
        go_upto_region 11 with fail
        refine WL.start <| uK (.int .i64 ((i : Nat) : Int)) <| uB .add 3 (.int .i64 ((i : Nat) : Int)) (.int .i64 1) (.int .i64 (((i + 1) : Nat) : Int)) (b_addw _ _ _ (by rw [IntKind.wrap_i64]; omega) _) <| uK (.int .i64 (((i + 1) : Nat) : Int)) <| WL.nil <| ?_
        try simp only [pS]
        go_wp2
        go_roundw
        case rel => exact ⟨i + 1, ⟨a1, lt.l + 1, k1⟩, (V ++ [m]), Ji, vi, mpi, Ii, Hi, Ui, Di, Li, rfl, by go_num, by omega, by show lt.l + 1 ≤ _; omega, hb1, (fun q y k hq hy e => by
         rcases q with _ | _ | q
         · cases hy; exact hd1 0 _ k (by omega) rfl e
         · cases hy; exact hd1 1 _ k (by omega) rfl e
         · exfalso
           rcases q with _ | q
           · omega
           · cases hy), by rw [hx2]; exact HEV.out.snoc HM.out, HF⟩
        case measure => simp [intOf]; omega
     · skip
       have hii : i = X.un.length := by omega
       have htl := take_len hii
       rw [htl] at HF HEV
       have hEV : Eqm (exF kb up X X.un).2 V := HEV.out
       clear HEV
       go_upto_region 10 with fail
       refine WL.start <| uK (.int .i64 ((i : Nat) : Int)) <| uK (vo.un.v) <| uK (.int .i64 ((vo.un.l : Nat) : Int)) <| uB .lss 3 (.int .i64 ((i : Nat) : Int)) (.int .i64 ((vo.un.l : Nat) : Int)) (.bool false) (by rw [b_lss, decide_eq_false (by omega)]) <| WL.nil <| ?_
       try simp only [pS]
       go_upto_region 17 with fail
       refine WL.start <| uK (pV b 0) <| uK (lt.v) <| uK (pV b 0) <| uK (pV b 0) <| uK (pV b 6) <| uL 71 ⟨b, 6, none⟩ (vi.un.v) (ld1 HF.out.wbox 6 U71 rfl) <| ?_
       try simp only [pS]
       have hlu : lt.l + vi.un.l ≤ 1000000 := by have h8 := HF.out.unl; have h9 := (exF_qb (up := up) kb HQX.out X.un).un; omega
       obtain ⟨a1, k1, wk12, hap, hbY, J2b, hj2, hG⟩ := HF.out.back (q := 2) (V := V) (ps := (exF kb up X X.un).2) (T' := [(su, 4, 1, bnL up)]) rfl hb0 (fun i y k hy e => by
        cases i with
        | zero => cases hy; exact hd0 0 _ k (by omega) rfl e
        | succ i => cases hy) (fun y hy => by rw [List.mem_singleton.1 hy]; simp) (unm_of hEV (fun y hy => HF.out.qmem (List.mem_append_right _ hy))) (by omega) (by omega)
       refine uR (.slice a1 (lt.l + vi.un.l) k1) (wk12) (exec_appN _ _ 71 71 rfl _ _ (by kernel_rfl) (by kernel_rfl) hap) ?_
       try simp only [pS]
       refine uK (pV b 0) <| uK (pV b 6) <| ?_
       try simp only [pS]
       refine uT 71 ⟨b, 6, none⟩ (.slice a1 (lt.l + vi.un.l) k1) (wk12.setRow b (Wv.cells ⟨vi.gp, vi.hd, vi.mm, vi.aa, vi.rr, vi.gn, ⟨a1, lt.l + vi.un.l, k1⟩, vi.ds, vi.ls, vi.now, vi.br⟩)) (rs (Wv.cs vi) ([.slice a1 (lt.l + vi.un.l) k1]) (Wv.cs ⟨vi.gp, vi.hd, vi.mm, vi.aa, vi.rr, vi.gn, ⟨a1, lt.l + vi.un.l, k1⟩, vi.ds, vi.ls, vi.now, vi.br⟩) (hbY) S71 (by simp [Value.oneCell', Sl.v])) ?_
       try simp only [pS]
       have HF : Hid (Wg w (wk12.setRow b (Wv.cells ⟨vi.gp, vi.hd, vi.mm, vi.aa, vi.rr, vi.gn, ⟨a1, lt.l + vi.un.l, k1⟩, vi.ds, vi.ls, vi.now, vi.br⟩)) n0 J J2b b ⟨vi.gp, vi.hd, vi.mm, vi.aa, vi.rr, vi.gn, ⟨a1, lt.l + vi.un.l, k1⟩, vi.ds, vi.ls, vi.now, vi.br⟩ (exK kb up X) mpi Ii Hi (V ++ Ui) Di Li [] [(su, 4, 1, bnL up)] (qOf X.un Uo ++ qOf (exF kb up X X.un).2 V)) := hG
       try clear hG
       generalize wk12.setRow b (Wv.cells ⟨vi.gp, vi.hd, vi.mm, vi.aa, vi.rr, vi.gn, ⟨a1, lt.l + vi.un.l, k1⟩, vi.ds, vi.ls, vi.now, vi.br⟩) = wk13 at HF ⊢
       refine WL.nil ?_
       try simp only [pS]
       have HF : Hid (Wg w wk13 n0 J J2b b ⟨vi.gp, vi.hd, vi.mm, vi.aa, vi.rr, vi.gn, ⟨a1, lt.l + vi.un.l, k1⟩, vi.ds, vi.ls, vi.now, vi.br⟩ (exK kb up X) mpi Ii Hi (V ++ Ui) Di Li [] [(su, 4, 1, bnL up)] []) := HF.out.pick (fun _ h => h) (fun y hy => by cases hy)
       go_upto_region 5 with fail
       refine WL.start <| uK (.int .i64 ((kd : Nat) : Int)) <| uB .add 3 (.int .i64 ((kd : Nat) : Int)) (.int .i64 1) (.int .i64 (((kd + 1) : Nat) : Int)) (b_addw _ _ _ (by rw [IntKind.wrap_i64]; omega) _) <| uK (.int .i64 (((kd + 1) : Nat) : Int)) <| WL.nil <| ?_
       try simp only [pS]
       go_wp2
       go_roundw
       case rel => exact ⟨kd + 1, J2b, ⟨vi.gp, vi.hd, vi.mm, vi.aa, vi.rr, vi.gn, ⟨a1, lt.l + vi.un.l, k1⟩, vi.ds, vi.ls, vi.now, vi.br⟩, mpi, Ii, Hi, (V ++ Ui), Di, Li, by go_num, by omega, by rw [hst]; exact HF⟩
       case measure => simp [intOf]; omega
  · skip
    have hk2 : kd = 2 := by omega
    have hxe : xsW (sendW x (outs (u, tikP u))) up kd = exK true up (exK false up (sendW x (outs (u, tikP u)))) := by rw [hk2]; rfl
    rw [hxe] at HF
    go_upto_region 4 with fail
    refine WL.start <| uK (.int .i64 ((kd : Nat) : Int)) <| uB .lss 3 (.int .i64 ((kd : Nat) : Int)) (.int .i64 2) (.bool false) (by rw [b_lss, decide_eq_false (by omega)]) <| WL.nil <| ?_
    try simp only [pS]
    set_option maxRecDepth 1000000 in
    go_wp2
    rw [HC.out]
    refine bodyPost_end (v := .tuple #[]) (by kernel_rfl) rfl ⟨rfl, HF.out.out⟩
end Go.Proofs.Ytgiokkcdgoloaaa.Md
namespace Go.Proofs.Ytgiokkcdgoloaaa.Md
open Go.RowKit
set_option linter.unusedVariables false
set_option linter.unusedSimpArgs false
theorem E64 : Try.prog.underlying 64 = some (.slice (Try.prog.elem 64)) := by kernel_rfl
theorem F64 : (Try.prog.info? (Try.prog.elem 64)).map (·.size) = some 3 := by kernel_rfl
structure Scr (w : World) (n0 : Nat) (t : Sl) (ss : List (Ev × List Int)) : Prop where
  row : RowsAt 3 w t.a (ss.map (fun q => Ev.cs q.1))
  len : ss.length = t.l
  by' : ∀ q, q ∈ ss → By w n0 q.1.d q.2
  old : ss ≠ [] → ∀ k, At t.a k → k < n0
theorem Scr.kept {w w' : World} {n0 : Nat} {t : Sl} {ss : List (Ev × List Int)} {S : Nat → Prop} (h : Scr w n0 t ss) (hk : Kept S w w') (hS : ∀ k, S k → n0 ≤ k ∧ ¬ ∃ cs, Box w k 5 cs) : Scr w' n0 t ss :=
  ⟨by
    by_cases hz : ss = []
    · subst hz
      intro i it hi
      simp at hi
    · exact h.row.kept hk (fun k e f => by have := h.old hz k e; have := (hS k f).1; omega), h.len, fun q hq => (h.by' q hq).kept hk hS, h.old⟩
def tri (ss : List (Ev × List Int)) : List (Int × Int × List Int) := ss.map (fun q => (q.1.k, q.1.a, q.2))
def SownO (w : World) (n : Nat) (e : Ending) (w' : World) : Prop := ∃ b J, e = .returned (.pointer (some ⟨b, 0, none⟩)) ∧ WAt w' w.heap.size J b (sownW n) ∧ Kept No w w'
def PlO (w : World) (x : Wd) (e : Ending) (w' : World) : Prop := ∃ b J, e = .returned (.pointer (some ⟨b, 0, none⟩)) ∧ WAt w' w.heap.size J b x ∧ Kept No w w'
theorem WAt.n0J {W : World} {n0 : Nat} {J : Nat → Prop} {b : Nat} {x : Wd} (h : WAt W n0 J b x) : ∀ k, J k → n0 ≤ k := by
  obtain ⟨v, mp, I, H, U, D, L, hA⟩ := h
  exact hA.n0J
structure Plg (w W : World) (b : Nat) (x : Wd) (t : Sl) (ss : List (Ev × List Int)) : Prop where
  wa : ∃ J, WAt W w.heap.size J b x
  kp : Kept No w W
  sc : Scr W w.heap.size t ss
theorem Plg.no {w W W2 : World} {b : Nat} {x : Wd} {t : Sl} {ss : List (Ev × List Int)} (h : Plg w W b x t ss) (hk : Kept No W W2) : Plg w W2 b x t ss := by
  obtain ⟨⟨J, v, mp, I, H, U, D, L, hA⟩, h2, h3⟩ := h
  exact ⟨⟨J, v, mp, I, H, U, D, L, hA.no hk⟩, h2.then hk, h3.kept hk (fun _ e => e.elim)⟩
theorem Plg.step {w W W2 : World} {b : Nat} {x x2 : Wd} {t : Sl} {ss : List (Ev × List Int)} {e : Ending} (h : Plg w W b x t ss) {J : Nat → Prop} (hJ : ∀ k, J k → w.heap.size ≤ k) (ho : WOut W w.heap.size J b x2 e W2) : Plg w W2 b x2 t ss := by
  obtain ⟨_, J2, h1, h2⟩ := ho
  exact ⟨⟨J2, h1⟩, h.kp.trans h2.kept (fun _ e => e) (fun k hk e => by have := hJ k e.1; omega), h.sc.kept h2.kept (fun k e => ⟨hJ k e.1, e.2⟩)⟩
theorem Scr.at {W : World} {n0 : Nat} {t : Sl} {ss : List (Ev × List Int)} (h : Scr W n0 t ss) {i : Nat} {q : Ev × List Int} (hq : ss[i]? = some q) : ∃ g off, t.a = some ⟨g, off, none⟩ ∧ ∀ (j : Nat) v, q.1.cs[j]? = some v → W.cell? ⟨g, off + i * 3 + j, none⟩ = some v :=
  h.row i q.1.cs (by rw [List.getElem?_map, hq]; rfl)
set_option maxRecDepth 100000 in
set_option maxHeartbeats 4000000 in
theorem played_any (f : Int) (n : Nat) (t : Sl) (ss : List (Ev × List Int)) (w : World) (hs : Calls Try.prog 41 #[.int .i64 f] w (SownO w n)) (hn : n ≤ 7) (hS : Scr w w.heap.size t ss) (ht : t.l ≤ 9000000000000000000) : Calls Try.prog 18 #[.int .i64 f, t.v] w (PlO w (plW n (tri (ss.take 600)))) := by
  refine hideC fun C HC => ?_
  have hle := hS.len
  have HS : Hid (Scr w w.heap.size t ss) := hS
  have HC41 : Hid (Calls Try.prog 41 #[.int .i64 f] w (SownO w n)) := hs
  clear hS hs
  go_enter Try.func18, Try.ntmps18
  go_upto_region 0 with fail
  refine WL.start <| uK (.pointer none) <| WL.nil <| ?_
  try simp only [pS]
  go_upto_region 1 with fail
  refine WL.start <| uK (.int .i64 f) <| ?_
  try simp only [pS]
  refine uC 41 #[.int .i64 f] (HC41.out) ?_
  rintro e wk1 ⟨b, J, rfl, hW, hk⟩
  have HF : Hid (Plg w wk1 b (plW n (tri (ss.take 0))) t ss) := ⟨⟨J, hW⟩, hk, HS.out.kept hk (fun _ e => e.elim)⟩
  clear hW hk
  refine ⟨.pointer (some ⟨b, 0, none⟩), rfl, ?_⟩
  try simp only [pS]
  refine uK (pV b 0) <| WL.nil <| ?_
  try simp only [pS]
  go_upto_region 2 with fail
  refine WL.start <| uK (.int .i64 0) <| WL.nil <| ?_
  try simp only [pS]
  go_wp2
  go_loopw [6] (fun v6 wr => ∃ i : Nat, v6 = .int .i64 ((i : Nat) : Int) ∧ i ≤ t.l ∧ i ≤ 600 ∧ Hid (Plg w wr b (plW n (tri (ss.take i))) t ss)) (fun i _ => t.l - (intOf i).toNat)
  case atStart => exact ⟨0, by go_num, by omega, by omega, HF⟩
  case round =>
    clear HF
    obtain ⟨i, rfl, hi, hi6, HF⟩ := hrel
    by_cases hlt : i < t.l
    · skip
      by_cases hl6 : i < 600
      · skip
        obtain ⟨q, hqi⟩ : ∃ q, ss[i]? = some q := ⟨_, List.getElem?_eq_getElem (by omega)⟩
        obtain ⟨g, off, hga, hgc⟩ := HF.out.sc.at hqi
        obtain ⟨J, hWJ⟩ := HF.out.wa
        go_upto_region 3 with fail
        refine WL.start <| uK (.int .i64 ((i : Nat) : Int)) <| uK (t.v) <| uK (.int .i64 ((t.l : Nat) : Int)) <| uB .lss 3 (.int .i64 ((i : Nat) : Int)) (.int .i64 ((t.l : Nat) : Int)) (.bool true) (by rw [b_lss, decide_eq_true (by omega)]) <| uK (.bool true) <| uK (.int .i64 ((i : Nat) : Int)) <| uB .lss 3 (.int .i64 ((i : Nat) : Int)) (.int .i64 600) (.bool true) (by rw [b_lss, decide_eq_true (by omega)]) <| uK (.bool true) <| WL.nil <| ?_
        try simp only [pS]
        go_upto_region 5 with fail
        refine WL.start <| uK (pV b 0) <| uK (t.v) <| uK (.int .i64 ((i : Nat) : Int)) <| uW (pV g (off + i * 3)) (exec_ixA 64 3 E64 F64 _ _ rfl g off t.l t.k i (Eq.trans (b := t.v) (by kernel_rfl) (sl_v hga)) (by kernel_rfl) (by omega)) <| uL 107 ⟨g, off + i * 3, none⟩ (.agg (Ev.cells q.1)) (load_at (n := 3) hgc U107 rfl S107) <| ?_
        try simp only [pS]
        refine uC 42 #[pV b 0, .agg (Ev.cells q.1)] (event_any w.heap.size J b _ q.1.k q.1.a q.1.d q.2 _ hWJ (HF.out.sc.by' q (List.mem_of_getElem? hqi)) (plW_ev n hn _ (by unfold tri; rw [List.length_map, List.length_take]; omega))) ?_
        intro e wk2 ho
        have HG : Hid (Plg w wk2 b (evW (plW n (tri (ss.take i))) q.1.k q.1.a q.2) t ss) := HF.out.step hWJ.n0J ho
        obtain ⟨rfl, _⟩ := ho
        refine ⟨.tuple #[], rfl, ?_⟩
        try simp only [pS]
        refine WL.nil ?_
        try simp only [pS]
        go_upto_region 4 with fail
        refine WL.start <| uK (.int .i64 ((i : Nat) : Int)) <| uB .add 3 (.int .i64 ((i : Nat) : Int)) (.int .i64 1) (.int .i64 (((i + 1) : Nat) : Int)) (b_addw _ _ _ (by rw [IntKind.wrap_i64]; omega) _) <| uK (.int .i64 (((i + 1) : Nat) : Int)) <| WL.nil <| ?_
        try simp only [pS]
        go_wp2
        go_roundw
        case rel =>
          have e : plW n (tri (ss.take (i + 1))) = evW (plW n (tri (ss.take i))) q.1.k q.1.a q.2 := by
            rw [List.take_add_one, hqi]
            unfold tri
            rw [List.map_append]
            exact plW_snoc _ _ _
          exact ⟨i + 1, by go_num, by omega, by omega, by rw [e]; exact HG⟩
        case measure => simp [intOf]; omega
      · skip
        go_upto_region 3 with fail
        refine WL.start <| uK (.int .i64 ((i : Nat) : Int)) <| uK (t.v) <| uK (.int .i64 ((t.l : Nat) : Int)) <| uB .lss 3 (.int .i64 ((i : Nat) : Int)) (.int .i64 ((t.l : Nat) : Int)) (.bool true) (by rw [b_lss, decide_eq_true (by omega)]) <| uK (.bool true) <| uK (.int .i64 ((i : Nat) : Int)) <| uB .lss 3 (.int .i64 ((i : Nat) : Int)) (.int .i64 600) (.bool false) (by rw [b_lss, decide_eq_false (by omega)]) <| uK (.bool false) <| WL.nil <| ?_
        try simp only [pS]
        go_upto_region 6 with fail
        refine WL.start <| uK (pV b 0) <| uK (pV b 0) <| WL.nil <| ?_
        try simp only [pS]
        go_wp2
        have e : plW n (tri (ss.take 600)) = plW n (tri (ss.take i)) := by
          congr 2
          rcases Nat.lt_or_ge i t.l with h | h
          · rw [show i = 600 by omega]
          · rw [List.take_of_length_le (by omega), List.take_of_length_le (by omega)]
        rw [HC.out, e]
        obtain ⟨J, hWJ⟩ := HF.out.wa
        exact ⟨b, J, rfl, hWJ, HF.out.kp⟩
    · skip
      go_upto_region 3 with fail
      refine WL.start <| uK (.int .i64 ((i : Nat) : Int)) <| uK (t.v) <| uK (.int .i64 ((t.l : Nat) : Int)) <| uB .lss 3 (.int .i64 ((i : Nat) : Int)) (.int .i64 ((t.l : Nat) : Int)) (.bool false) (by rw [b_lss, decide_eq_false (by omega)]) <| uK (.bool false) <| uZ <| uZ <| uK (.bool false) <| WL.nil <| ?_
      try simp only [pS]
      go_upto_region 6 with fail
      refine WL.start <| uK (pV b 0) <| uK (pV b 0) <| WL.nil <| ?_
      try simp only [pS]
      go_wp2
      have e : plW n (tri (ss.take 600)) = plW n (tri (ss.take i)) := by
        congr 2
        rcases Nat.lt_or_ge i t.l with h | h
        · rw [show i = 600 by omega]
        · rw [List.take_of_length_le (by omega), List.take_of_length_le (by omega)]
      rw [HC.out, e]
      obtain ⟨J, hWJ⟩ := HF.out.wa
      exact ⟨b, J, rfl, hWJ, HF.out.kp⟩
end Go.Proofs.Ytgiokkcdgoloaaa.Md
