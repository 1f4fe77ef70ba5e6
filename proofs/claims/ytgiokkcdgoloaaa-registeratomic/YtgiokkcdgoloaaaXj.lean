import Derived.Test.YtgiokkcdgoloaaaXh
namespace Go.Proofs.Ytgiokkcdgoloaaa.Md
open Go.RowKit
set_option linter.unusedVariables false
set_option linter.unusedSimpArgs false

theorem Wg.mch {w W : World} {n0 : Nat} {J0 J : Nat → Prop} {b : Nat} {v : Wv} {x : Wd} {mp : Nat → Option Nat} {I : Nat → Nat → Prop} {H : List Bl} {U : List Mg} {D : List Dv} {L : List Lv} {l : List (Nat × TypeId × Array Value)} {T : List Rowx} {Q : List (Sl × List Int)} (G : Wg w W n0 J0 J b v x mp I H U D L l T Q) {c m : Nat} {s : RM} (hm : x.m c = some s) (hp : mp c = some m) : Mch W (I c) m s := by
  obtain ⟨m', h1, h2⟩ := G.wa.wl.mc c s hm
  rw [hp] at h1
  cases h1
  exact h2
theorem done_W {W : World} {I : Nat → Prop} {m : Nat} {s : RM} {er : Int} {st : Sp} {z : List Int} {bb : Bool} (h : Mch W I m s) (hd : donP s = (er, st, z, bb)) : Calls Try.prog 83 #[.pointer (some ⟨m, 0, none⟩)] W (DoneOut W er st.n st.c z bb) := by
  have := done_M h
  rw [hd] at this
  exact this
theorem eql31_f (m : Nat) (w : World) : (binOp .eql 31 (.iface 115 (.pointer (some ⟨m, 0, none⟩))) .nilIface).run Try.prog w = .ok (.bool false) w := by kernel_rfl
theorem eql31_t (w : World) : (binOp .eql 31 .nilIface .nilIface).run Try.prog w = .ok (.bool true) w := by kernel_rfl
theorem DdM.en {W : World} {n0 : Nat} {p : Dd} {d : Dv} (h : DdM W n0 p d) (n : Int) : DdM W n0 { p with en := n } { d with en := n } :=
  ⟨by
    have e := h.e
    obtain ⟨a1, a2, a3, a4, a5, a6⟩ := d
    simp only [Dv.mk.injEq] at e ⊢
    exact ⟨e.1, e.2.1, e.2.2.1, trivial, trivial, e.2.2.2.2.2⟩, h.b, h.c⟩
theorem DdM.res {W : World} {n0 : Nat} {p : Dd} {d : Dv} (h : DdM W n0 p d) (er : Int) (st : Sp) {s : Sl} {z : List Int} (hz : By W n0 s z) : DdM W n0 { p with er := er, st := st, rz := z } { d with r := ⟨er, enZ, slZ, s, 0, st, 0⟩ } :=
  ⟨by
    have e := h.e
    obtain ⟨a1, a2, a3, a4, a5, a6⟩ := d
    simp only [Dv.mk.injEq] at e ⊢
    exact ⟨e.1, e.2.1, e.2.2.1, e.2.2.2.1, trivial, trivial⟩, h.b, hz⟩
set_option maxRecDepth 100000 in
set_option maxHeartbeats 4000000 in
theorem look_any_w (n0 : Nat) (J : Nat → Prop) (b : Nat) (x : Wd) (c : Nat) (w : World) (hW : WAt w n0 J b x) (hc : c < 4) (hat : ∀ s, x.m c = some s → x.at' c < x.ds.length) (hnow : 0 ≤ x.now ∧ x.now ≤ 1000000000) : Calls Try.prog 46 #[.pointer (some ⟨b, 0, none⟩), .int .i64 ((c : Nat) : Int)] w (WOut w n0 J b (lookW x c)) := by
  obtain ⟨C, hC⟩ : ∃ C : Ending → World → Prop, C = (WOut w n0 J b (lookW x c)) := ⟨_, rfl⟩
  have HC : Hid (C = (WOut w n0 J b (lookW x c))) := hC
  rw [← hC]
  clear hC
  obtain ⟨v, mp, I, H, U, D, L, hA⟩ := hW
  have hml := hA.ml
  have hal := hA.al
  have hrl := hA.rl
  have hdl := hA.dl
  have hvn := hA.now
  have hvb := hA.br
  have hxd : x.ds.length = v.ds.l := by rw [hA.pt.ds.1, hA.dl]
  obtain ⟨gm, hgm⟩ := own_at hA.mm (by omega)
  obtain ⟨ga, hga⟩ := own_at hA.aa (by omega)
  obtain ⟨gr, hgr⟩ := own_at hA.rr (by omega)
  have HF : Hid (Wg w w n0 J J b v x mp I H U D L [] [] []) := Wg.start hA
  clear hA
  go_enter Try.func46, Try.ntmps46
  cases hm : x.m c with
  | none =>
    have hmp : mp c = none := HF.out.wa.wl.mn c hm
    go_upto_region 0 with fail
    refine WL.start <| uK (.pointer (some ⟨b, 0, none⟩)) <| uK (.pointer (some ⟨b, 0, none⟩)) <| uK (.pointer (some ⟨b, 2, none⟩)) <| uL 69 ⟨b, 2, none⟩ (v.mm.v) (load_one ((HF.out.wbox).cell 2 |>.trans (by kernel_rfl)) U69 rfl) <| uK (.int .i64 ((c : Nat) : Int)) <| uW (.pointer (some ⟨gm, 0 + c * 1, none⟩)) (exec_ixA 69 1 E69 F69 _ _ rfl gm 0 v.mm.l v.mm.k c (Eq.trans (b := v.mm.v) (by kernel_rfl) (sl_v (s := v.mm) hgm)) (by kernel_rfl) (by omega)) <| uL 31 ⟨gm, 0 + c * 1, none⟩ (.nilIface) (load_one ((HF.out.wa.mmc hgm hc).trans (by rw [hmp]; rfl)) U31 V31) <| ?_
    try simp only [pS]
    refine uB .eql 31 (.nilIface) (.nilIface) (.bool true) (eql31_t _) <| WL.nil <| ?_
    try simp only [pS]
    go_wp2
    rw [HC.out, lookW_none hm]
    refine bodyPost_ret (v := .tuple #[]) (by kernel_rfl) rfl ⟨rfl, HF.out.out⟩
  | some s =>
    obtain ⟨m, hmp, hM⟩ := HF.out.wa.wl.mc c s hm
    have hzl := donP_len hM
    clear hM
    have hati := hat s hm
    obtain ⟨p, hpi⟩ : ∃ p, x.ds[x.at' c]? = some p := ⟨_, List.getElem?_eq_getElem hati⟩
    obtain ⟨d, hdi, hdd⟩ := HF.out.wa.pt.ds.at hpi
    clear hdd
    obtain ⟨gd, hgd⟩ := own_at HF.out.wa.ds (by omega)
    obtain ⟨⟨er, st, z, bb⟩, hdp⟩ : ∃ q, donP s = q := ⟨_, rfl⟩
    rw [hdp] at hzl
    dsimp only at hzl
    cases bb with
    | false =>
      go_upto_region 0 with fail
      refine WL.start <| uK (.pointer (some ⟨b, 0, none⟩)) <| uK (.pointer (some ⟨b, 0, none⟩)) <| uK (.pointer (some ⟨b, 2, none⟩)) <| uL 69 ⟨b, 2, none⟩ (v.mm.v) (load_one ((HF.out.wbox).cell 2 |>.trans (by kernel_rfl)) U69 rfl) <| uK (.int .i64 ((c : Nat) : Int)) <| uW (.pointer (some ⟨gm, 0 + c * 1, none⟩)) (exec_ixA 69 1 E69 F69 _ _ rfl gm 0 v.mm.l v.mm.k c (Eq.trans (b := v.mm.v) (by kernel_rfl) (sl_v (s := v.mm) hgm)) (by kernel_rfl) (by omega)) <| uL 31 ⟨gm, 0 + c * 1, none⟩ (.iface 115 (.pointer (some ⟨m, 0, none⟩))) (load_one ((HF.out.wa.mmc hgm hc).trans (by rw [hmp]; rfl)) U31 V31) <| ?_
      try simp only [pS]
      refine uB .eql 31 (.iface 115 (.pointer (some ⟨m, 0, none⟩))) (.nilIface) (.bool false) (eql31_f _ _) <| WL.nil <| ?_
      try simp only [pS]
      go_upto_region 1 with fail
      refine WL.start <| uK (.pointer (some ⟨b, 0, none⟩)) <| uK (.pointer (some ⟨b, 0, none⟩)) <| uK (.pointer (some ⟨b, 2, none⟩)) <| uL 69 ⟨b, 2, none⟩ (v.mm.v) (load_one ((HF.out.wbox).cell 2 |>.trans (by kernel_rfl)) U69 rfl) <| uK (.int .i64 ((c : Nat) : Int)) <| uW (.pointer (some ⟨gm, 0 + c * 1, none⟩)) (exec_ixA 69 1 E69 F69 _ _ rfl gm 0 v.mm.l v.mm.k c (Eq.trans (b := v.mm.v) (by kernel_rfl) (sl_v (s := v.mm) hgm)) (by kernel_rfl) (by omega)) <| uL 31 ⟨gm, 0 + c * 1, none⟩ (.iface 115 (.pointer (some ⟨m, 0, none⟩))) (load_one ((HF.out.wa.mmc hgm hc).trans (by rw [hmp]; rfl)) U31 V31) <| ?_
      try simp only [pS]
      refine uC 83 #[.pointer (some ⟨m, 0, none⟩)] (done_W (HF.out.mch hm hmp) hdp) ?_
      rintro e wk1 ⟨da, dc, rfl, hO, hk⟩
      have HF : Hid (Wg w wk1 n0 J J b v x mp I H U D L [] [] [(⟨da, z.length, dc⟩, z)]) := (HF.out.no hk).byt (Q := []) (Q' := [(⟨da, z.length, dc⟩, z)]) (by simpa using By.own (Own.lower hO (Nat.zero_le _)) hzl)
      clear hO hk
      refine ⟨.tuple #[.agg (resC er st.n st.c da z.length dc), .bool false], rfl, ?_⟩
      try simp only [pS]
      refine uK (.tuple #[.agg (resC er st.n st.c da z.length dc), .bool false]) <| uK (.agg (Rz.cells ⟨er, enZ, slZ, ⟨da, z.length, dc⟩, 0, st, 0⟩)) <| uK (.bool false) <| ?_
      try simp only [pS]
      refine uR (.pointer (some ⟨wk1.heap.size, 0, none⟩)) (wk1.alloc (.cells (Rz.cells rzZ) 90)) (exec_alloc 90 rfl (Rz.cells rzZ) Z90) ?_
      try simp only [pS]
      have HF : Hid (Wg w (wk1.alloc (.cells (Rz.cells rzZ) 90)) n0 J J b v x mp I H U D L [(wk1.heap.size, 90, Rz.cells rzZ)] [] [(⟨da, z.length, dc⟩, z)]) := HF.out.alloc _ _
      generalize wk1.alloc (.cells (Rz.cells rzZ) 90) = wk3 at HF ⊢
      generalize wk1.heap.size = gk2 at HF ⊢
      refine uT 90 ⟨gk2, 0, none⟩ (.agg (Rz.cells ⟨er, enZ, slZ, ⟨da, z.length, dc⟩, 0, st, 0⟩)) (wk3.setRow gk2 (Rz.cells ⟨er, enZ, slZ, ⟨da, z.length, dc⟩, 0, st, 0⟩)) (rs (Rz.cs rzZ) (Rz.cs ⟨er, enZ, slZ, ⟨da, z.length, dc⟩, 0, st, 0⟩) (Rz.cs ⟨er, enZ, slZ, ⟨da, z.length, dc⟩, 0, st, 0⟩) (HF.out.box 0 _ _ _ rfl) S90 (Rz.oneL _)) ?_
      try simp only [pS]
      have HF : Hid (Wg w (wk3.setRow gk2 (Rz.cells ⟨er, enZ, slZ, ⟨da, z.length, dc⟩, 0, st, 0⟩)) n0 J J b v x mp I H U D L [(gk2, 90, Rz.cells ⟨er, enZ, slZ, ⟨da, z.length, dc⟩, 0, st, 0⟩)] [] [(⟨da, z.length, dc⟩, z)]) := HF.out.set 0 rfl _
      generalize wk3.setRow gk2 (Rz.cells ⟨er, enZ, slZ, ⟨da, z.length, dc⟩, 0, st, 0⟩) = wk4 at HF ⊢
      refine uK (.bool false) <| WL.nil <| ?_
      try simp only [pS]
      go_upto_region 2 with fail
      refine wp_region_held_drew (S := fun w' => Box w' b 75 (Wv.cells v)) rfl (HF.out.drew.wbox) (fun hH => ?_)
      have HF : Hid (Wg w wk4.drew n0 J J b v x mp I H U D L [(gk2, 90, Rz.cells ⟨er, enZ, slZ, ⟨da, z.length, dc⟩, 0, st, 0⟩)] [] [(⟨da, z.length, dc⟩, z)]) := HF.out.drew
      generalize wk4.drew = wk5 at HF hH ⊢
      refine xV 0 25 (.pointer (some ⟨b, 0, none⟩)) hH <| xV 1 26 (.pointer (some ⟨b, 0, none⟩)) hH <| xV 2 27 (.pointer (some ⟨b, 4, none⟩)) hH <| xL 3 28 24 ⟨b, 4, none⟩ v.rr.v (fun _ hw => load_one ((hw).cell 4 |>.trans (by kernel_rfl)) U24 rfl) hH <| xV 4 29 (.int .i64 ((c : Nat) : Int)) hH <| xV 5 30 (.pointer (some ⟨b, 0, none⟩)) hH <| ?_
      try simp only [pS]
      refine xV 6 31 (.pointer (some ⟨b, 0, none⟩)) hH <| xV 7 32 (.pointer (some ⟨b, 2, none⟩)) hH <| xL 8 33 69 ⟨b, 2, none⟩ v.mm.v (fun _ hw => load_one ((hw).cell 2 |>.trans (by kernel_rfl)) U69 rfl) hH <| xV 9 34 (.int .i64 ((c : Nat) : Int)) hH <| xU 10 35 (.pointer (some ⟨gm, 0 + c * 1, none⟩)) (fun w' hw => exec_ixA 69 1 E69 F69 _ _ rfl gm 0 v.mm.l v.mm.k c (Eq.trans (b := v.mm.v) (by kernel_rfl) (sl_v (s := v.mm) hgm)) (by kernel_rfl) (by omega)) hH <| ?_
      try simp only [pS]
      refine xP 11 36 (.iface 115 (.pointer (some ⟨m, 0, none⟩))) (w' := wk5) (exec_load 31 _ rfl ⟨gm, 0 + c * 1, none⟩ (by kernel_rfl) (.iface 115 (.pointer (some ⟨m, 0, none⟩))) (load_one ((HF.out.wa.mmc hgm hc).trans (by rw [hmp]; rfl)) U31 V31)) hH (fun hH => ?_)
      try simp only [pS]
      refine xC 12 37 84 #[.pointer (some ⟨m, 0, none⟩)] (round_M (HF.out.mch hm hmp)) ?_
      rintro e wq ⟨rfl, hwq⟩
      rw [hwq]
      clear hwq wq
      refine ⟨.int .i64 s.rd, rfl, hH, fun hH => ?_⟩
      try simp only [pS]
      refine xU 13 38 (.pointer (some ⟨gr, 0 + c * 1, none⟩)) (fun w' hw => exec_ixA 24 1 E24 F24 _ _ rfl gr 0 v.rr.l v.rr.k c (Eq.trans (b := v.rr.v) (by kernel_rfl) (sl_v (s := v.rr) hgr)) (by kernel_rfl) (by omega)) hH ?_
      try simp only [pS]
      obtain ⟨csr, J2, hst, hG⟩ := HF.out.setR hgr hc s.rd
      refine xS 14 3 ⟨gr, 0 + c * 1, none⟩ (.int .i64 s.rd) (w' := wk5.setRow gr csr) hst ((hG.wbox)) (fun hH => ?_)
      try simp only [pS]
      have HF : Hid (Wg w (wk5.setRow gr csr) n0 J J2 b v ({ x with rd := upN x.rd c s.rd }) mp I H U D L [(gk2, 90, Rz.cells ⟨er, enZ, slZ, ⟨da, z.length, dc⟩, 0, st, 0⟩)] [] [(⟨da, z.length, dc⟩, z)]) := hG
      clear hG hst
      generalize wk5.setRow gr csr = wk6 at HF hH ⊢
      refine wpAnyH_done (by kernel_rfl) ?_ _
      try simp only [pS]
      clear hH
      go_upto_region 3 with fail
      refine WL.start <| uK (.bool false) <| uK (.bool true) <| WL.nil <| ?_
      try simp only [pS]
      go_wp2
      rw [HC.out, lookW_no hm (by rw [hdp])]
      refine bodyPost_ret (v := .tuple #[]) (by kernel_rfl) rfl ⟨rfl, HF.out.out⟩
    | true =>
      go_upto_region 0 with fail
      refine WL.start <| uK (.pointer (some ⟨b, 0, none⟩)) <| uK (.pointer (some ⟨b, 0, none⟩)) <| uK (.pointer (some ⟨b, 2, none⟩)) <| uL 69 ⟨b, 2, none⟩ (v.mm.v) (load_one ((HF.out.wbox).cell 2 |>.trans (by kernel_rfl)) U69 rfl) <| uK (.int .i64 ((c : Nat) : Int)) <| uW (.pointer (some ⟨gm, 0 + c * 1, none⟩)) (exec_ixA 69 1 E69 F69 _ _ rfl gm 0 v.mm.l v.mm.k c (Eq.trans (b := v.mm.v) (by kernel_rfl) (sl_v (s := v.mm) hgm)) (by kernel_rfl) (by omega)) <| uL 31 ⟨gm, 0 + c * 1, none⟩ (.iface 115 (.pointer (some ⟨m, 0, none⟩))) (load_one ((HF.out.wa.mmc hgm hc).trans (by rw [hmp]; rfl)) U31 V31) <| ?_
      try simp only [pS]
      refine uB .eql 31 (.iface 115 (.pointer (some ⟨m, 0, none⟩))) (.nilIface) (.bool false) (eql31_f _ _) <| WL.nil <| ?_
      try simp only [pS]
      go_upto_region 1 with fail
      refine WL.start <| uK (.pointer (some ⟨b, 0, none⟩)) <| uK (.pointer (some ⟨b, 0, none⟩)) <| uK (.pointer (some ⟨b, 2, none⟩)) <| uL 69 ⟨b, 2, none⟩ (v.mm.v) (load_one ((HF.out.wbox).cell 2 |>.trans (by kernel_rfl)) U69 rfl) <| uK (.int .i64 ((c : Nat) : Int)) <| uW (.pointer (some ⟨gm, 0 + c * 1, none⟩)) (exec_ixA 69 1 E69 F69 _ _ rfl gm 0 v.mm.l v.mm.k c (Eq.trans (b := v.mm.v) (by kernel_rfl) (sl_v (s := v.mm) hgm)) (by kernel_rfl) (by omega)) <| uL 31 ⟨gm, 0 + c * 1, none⟩ (.iface 115 (.pointer (some ⟨m, 0, none⟩))) (load_one ((HF.out.wa.mmc hgm hc).trans (by rw [hmp]; rfl)) U31 V31) <| ?_
      try simp only [pS]
      refine uC 83 #[.pointer (some ⟨m, 0, none⟩)] (done_W (HF.out.mch hm hmp) hdp) ?_
      rintro e wk7 ⟨da, dc, rfl, hO, hk⟩
      have HF : Hid (Wg w wk7 n0 J J b v x mp I H U D L [] [] [(⟨da, z.length, dc⟩, z)]) := (HF.out.no hk).byt (Q := []) (Q' := [(⟨da, z.length, dc⟩, z)]) (by simpa using By.own (Own.lower hO (Nat.zero_le _)) hzl)
      clear hO hk
      refine ⟨.tuple #[.agg (resC er st.n st.c da z.length dc), .bool true], rfl, ?_⟩
      try simp only [pS]
      refine uK (.tuple #[.agg (resC er st.n st.c da z.length dc), .bool true]) <| uK (.agg (Rz.cells ⟨er, enZ, slZ, ⟨da, z.length, dc⟩, 0, st, 0⟩)) <| uK (.bool true) <| ?_
      try simp only [pS]
      refine uR (.pointer (some ⟨wk7.heap.size, 0, none⟩)) (wk7.alloc (.cells (Rz.cells rzZ) 90)) (exec_alloc 90 rfl (Rz.cells rzZ) Z90) ?_
      try simp only [pS]
      have HF : Hid (Wg w (wk7.alloc (.cells (Rz.cells rzZ) 90)) n0 J J b v x mp I H U D L [(wk7.heap.size, 90, Rz.cells rzZ)] [] [(⟨da, z.length, dc⟩, z)]) := HF.out.alloc _ _
      generalize wk7.alloc (.cells (Rz.cells rzZ) 90) = wk9 at HF ⊢
      generalize wk7.heap.size = gk8 at HF ⊢
      refine uT 90 ⟨gk8, 0, none⟩ (.agg (Rz.cells ⟨er, enZ, slZ, ⟨da, z.length, dc⟩, 0, st, 0⟩)) (wk9.setRow gk8 (Rz.cells ⟨er, enZ, slZ, ⟨da, z.length, dc⟩, 0, st, 0⟩)) (rs (Rz.cs rzZ) (Rz.cs ⟨er, enZ, slZ, ⟨da, z.length, dc⟩, 0, st, 0⟩) (Rz.cs ⟨er, enZ, slZ, ⟨da, z.length, dc⟩, 0, st, 0⟩) (HF.out.box 0 _ _ _ rfl) S90 (Rz.oneL _)) ?_
      try simp only [pS]
      have HF : Hid (Wg w (wk9.setRow gk8 (Rz.cells ⟨er, enZ, slZ, ⟨da, z.length, dc⟩, 0, st, 0⟩)) n0 J J b v x mp I H U D L [(gk8, 90, Rz.cells ⟨er, enZ, slZ, ⟨da, z.length, dc⟩, 0, st, 0⟩)] [] [(⟨da, z.length, dc⟩, z)]) := HF.out.set 0 rfl _
      generalize wk9.setRow gk8 (Rz.cells ⟨er, enZ, slZ, ⟨da, z.length, dc⟩, 0, st, 0⟩) = wk10 at HF ⊢
      refine uK (.bool true) <| WL.nil <| ?_
      try simp only [pS]
      go_upto_region 2 with fail
      refine wp_region_held_drew (S := fun w' => Box w' b 75 (Wv.cells v)) rfl (HF.out.drew.wbox) (fun hH => ?_)
      have HF : Hid (Wg w wk10.drew n0 J J b v x mp I H U D L [(gk8, 90, Rz.cells ⟨er, enZ, slZ, ⟨da, z.length, dc⟩, 0, st, 0⟩)] [] [(⟨da, z.length, dc⟩, z)]) := HF.out.drew
      generalize wk10.drew = wk11 at HF hH ⊢
      refine xV 0 25 (.pointer (some ⟨b, 0, none⟩)) hH <| xV 1 26 (.pointer (some ⟨b, 0, none⟩)) hH <| xV 2 27 (.pointer (some ⟨b, 4, none⟩)) hH <| xL 3 28 24 ⟨b, 4, none⟩ v.rr.v (fun _ hw => load_one ((hw).cell 4 |>.trans (by kernel_rfl)) U24 rfl) hH <| xV 4 29 (.int .i64 ((c : Nat) : Int)) hH <| xV 5 30 (.pointer (some ⟨b, 0, none⟩)) hH <| ?_
      try simp only [pS]
      refine xV 6 31 (.pointer (some ⟨b, 0, none⟩)) hH <| xV 7 32 (.pointer (some ⟨b, 2, none⟩)) hH <| xL 8 33 69 ⟨b, 2, none⟩ v.mm.v (fun _ hw => load_one ((hw).cell 2 |>.trans (by kernel_rfl)) U69 rfl) hH <| xV 9 34 (.int .i64 ((c : Nat) : Int)) hH <| xU 10 35 (.pointer (some ⟨gm, 0 + c * 1, none⟩)) (fun w' hw => exec_ixA 69 1 E69 F69 _ _ rfl gm 0 v.mm.l v.mm.k c (Eq.trans (b := v.mm.v) (by kernel_rfl) (sl_v (s := v.mm) hgm)) (by kernel_rfl) (by omega)) hH <| ?_
      try simp only [pS]
      refine xP 11 36 (.iface 115 (.pointer (some ⟨m, 0, none⟩))) (w' := wk11) (exec_load 31 _ rfl ⟨gm, 0 + c * 1, none⟩ (by kernel_rfl) (.iface 115 (.pointer (some ⟨m, 0, none⟩))) (load_one ((HF.out.wa.mmc hgm hc).trans (by rw [hmp]; rfl)) U31 V31)) hH (fun hH => ?_)
      try simp only [pS]
      refine xC 12 37 84 #[.pointer (some ⟨m, 0, none⟩)] (round_M (HF.out.mch hm hmp)) ?_
      rintro e wq ⟨rfl, hwq⟩
      rw [hwq]
      clear hwq wq
      refine ⟨.int .i64 s.rd, rfl, hH, fun hH => ?_⟩
      try simp only [pS]
      refine xU 13 38 (.pointer (some ⟨gr, 0 + c * 1, none⟩)) (fun w' hw => exec_ixA 24 1 E24 F24 _ _ rfl gr 0 v.rr.l v.rr.k c (Eq.trans (b := v.rr.v) (by kernel_rfl) (sl_v (s := v.rr) hgr)) (by kernel_rfl) (by omega)) hH ?_
      try simp only [pS]
      obtain ⟨csr, J2, hst, hG⟩ := HF.out.setR hgr hc s.rd
      refine xS 14 3 ⟨gr, 0 + c * 1, none⟩ (.int .i64 s.rd) (w' := wk11.setRow gr csr) hst ((hG.wbox)) (fun hH => ?_)
      try simp only [pS]
      have HF : Hid (Wg w (wk11.setRow gr csr) n0 J J2 b v ({ x with rd := upN x.rd c s.rd }) mp I H U D L [(gk8, 90, Rz.cells ⟨er, enZ, slZ, ⟨da, z.length, dc⟩, 0, st, 0⟩)] [] [(⟨da, z.length, dc⟩, z)]) := hG
      clear hG hst
      generalize wk11.setRow gr csr = wk12 at HF hH ⊢
      refine wpAnyH_done (by kernel_rfl) ?_ _
      try simp only [pS]
      clear hH
      go_upto_region 3 with fail
      refine WL.start <| uK (.bool true) <| uK (.bool false) <| WL.nil <| ?_
      try simp only [pS]
      go_upto_region 4 with fail
      refine WL.start <| uK (.pointer (some ⟨b, 0, none⟩)) <| uK (.pointer (some ⟨b, 0, none⟩)) <| uK (.pointer (some ⟨b, 9, none⟩)) <| uL 3 ⟨b, 9, none⟩ (.int .i64 v.now) (load_one ((HF.out.wbox).cell 9 |>.trans (by kernel_rfl)) U3 rfl) <| uB .add 3 (.int .i64 v.now) (.int .i64 1) (.int .i64 (v.now + 1)) (b_addw _ _ _ (by rw [IntKind.wrap_i64]; omega) _) <| uK (.pointer (some ⟨b, 0, none⟩)) <| uK (.pointer (some ⟨b, 9, none⟩)) <| ?_
      try simp only [pS]
      have hG := HF.out.flag (v.now + 1) v.br
      refine uT 3 ⟨b, 9, none⟩ (.int .i64 (v.now + 1)) (wk12.setRow b (Wv.cells ⟨v.gp, v.hd, v.mm, v.aa, v.rr, v.gn, v.un, v.ds, v.ls, v.now + 1, v.br⟩)) (rs (Wv.cs v) ([.int .i64 (v.now + 1)]) (Wv.cs ⟨v.gp, v.hd, v.mm, v.aa, v.rr, v.gn, v.un, v.ds, v.ls, v.now + 1, v.br⟩) (HF.out.wbox) S3 (by simp [Value.oneCell', Sl.v])) ?_
      try simp only [pS]
      have HF : Hid (Wg w (wk12.setRow b (Wv.cells ⟨v.gp, v.hd, v.mm, v.aa, v.rr, v.gn, v.un, v.ds, v.ls, v.now + 1, v.br⟩)) n0 J J2 b ⟨v.gp, v.hd, v.mm, v.aa, v.rr, v.gn, v.un, v.ds, v.ls, v.now + 1, v.br⟩ ({ x with rd := upN x.rd c s.rd, now := v.now + 1, br := v.br }) mp I H U D L [(gk8, 90, Rz.cells ⟨er, enZ, slZ, ⟨da, z.length, dc⟩, 0, st, 0⟩)] [] [(⟨da, z.length, dc⟩, z)]) := hG
      try clear hG
      generalize wk12.setRow b (Wv.cells ⟨v.gp, v.hd, v.mm, v.aa, v.rr, v.gn, v.un, v.ds, v.ls, v.now + 1, v.br⟩) = wk13 at HF ⊢
      refine WL.nil ?_
      try simp only [pS]
      go_upto_region 5 with fail
      refine wp_region_held_drew (S := fun w' => Box w' b 75 (Wv.cells ⟨v.gp, v.hd, v.mm, v.aa, v.rr, v.gn, v.un, v.ds, v.ls, v.now + 1, v.br⟩)) rfl (HF.out.drew.wbox) (fun hH => ?_)
      have HF : Hid (Wg w wk13.drew n0 J J2 b ⟨v.gp, v.hd, v.mm, v.aa, v.rr, v.gn, v.un, v.ds, v.ls, v.now + 1, v.br⟩ ({ x with rd := upN x.rd c s.rd, now := v.now + 1, br := v.br }) mp I H U D L [(gk8, 90, Rz.cells ⟨er, enZ, slZ, ⟨da, z.length, dc⟩, 0, st, 0⟩)] [] [(⟨da, z.length, dc⟩, z)]) := HF.out.drew
      generalize wk13.drew = wk14 at HF hH ⊢
      refine xV 0 48 (.pointer (some ⟨b, 0, none⟩)) hH <| xV 1 49 (.pointer (some ⟨b, 0, none⟩)) hH <| xV 2 50 (.pointer (some ⟨b, 7, none⟩)) hH <| xL 3 51 72 ⟨b, 7, none⟩ v.ds.v (fun _ hw => load_one ((hw).cell 7 |>.trans (by kernel_rfl)) U72 rfl) hH <| xV 4 52 (.pointer (some ⟨b, 0, none⟩)) hH <| xV 5 53 (.pointer (some ⟨b, 0, none⟩)) hH <| ?_
      try simp only [pS]
      refine xV 6 54 (.pointer (some ⟨b, 3, none⟩)) hH <| xL 7 55 24 ⟨b, 3, none⟩ v.aa.v (fun _ hw => load_one ((hw).cell 3 |>.trans (by kernel_rfl)) U24 rfl) hH <| xV 8 56 (.int .i64 ((c : Nat) : Int)) hH <| xU 9 57 (.pointer (some ⟨ga, 0 + c * 1, none⟩)) (fun w' hw => exec_ixA 24 1 E24 F24 _ _ rfl ga 0 v.aa.l v.aa.k c (Eq.trans (b := v.aa.v) (by kernel_rfl) (sl_v (s := v.aa) hga)) (by kernel_rfl) (by omega)) hH <| xV 11 59 (.pointer (some ⟨b, 0, none⟩)) hH <| xV 12 60 (.pointer (some ⟨b, 0, none⟩)) hH <| ?_
      try simp only [pS]
      refine xV 13 61 (.pointer (some ⟨b, 9, none⟩)) hH <| xL 14 62 3 ⟨b, 9, none⟩ (.int .i64 (v.now + 1)) (fun _ hw => load_one ((hw).cell 9 |>.trans (by kernel_rfl)) U3 rfl) hH <| ?_
      try simp only [pS]
      refine xP 10 58 (.int .i64 ((x.at' c : Nat) : Int)) (w' := wk14) (exec_load 3 _ rfl ⟨ga, 0 + c * 1, none⟩ (by kernel_rfl) (.int .i64 ((x.at' c : Nat) : Int)) (load_one (HF.out.wa.aac hga hc) U3 rfl)) hH (fun hH => ?_)
      try simp only [pS]
      refine xU 15 63 (.pointer (some ⟨gd, 0 + (x.at' c) * 16, none⟩)) (fun w' hw => exec_ixA 72 16 E72 F72 _ _ rfl gd 0 v.ds.l v.ds.k (x.at' c) (Eq.trans (b := v.ds.v) (by kernel_rfl) (sl_v (s := v.ds) hgd)) (by kernel_rfl) (by omega)) hH <| xV 16 64 (.pointer (some ⟨gd, 0 + (x.at' c) * 16 + 3, none⟩)) hH <| ?_
      try simp only [pS]
      have hdd := (HF.out.wa.pt.ds.2 _ _ _ hpi hdi).en (v.now + 1)
      obtain ⟨csd, J3, hst, hG⟩ := HF.out.setE (p2 := { p with en := v.now + 1 }) (d2 := { d with en := v.now + 1 }) (u := .int .i64 (v.now + 1)) (y := [.int .i64 (v.now + 1)]) (k := 3) hgd hdi rfl S3 (by simp [Value.oneCell']) (Nat.le_of_ble_eq_true (by kernel_rfl)) rfl hdd
      refine xS 17 3 ⟨gd, 0 + (x.at' c) * 16 + 3, none⟩ (.int .i64 (v.now + 1)) (w' := wk14.setRow gd csd) hst ((hG.wbox)) (fun hH => ?_)
      try simp only [pS]
      have HF : Hid (Wg w (wk14.setRow gd csd) n0 J J3 b ⟨v.gp, v.hd, v.mm, v.aa, v.rr, v.gn, v.un, v.ds, v.ls, v.now + 1, v.br⟩ ({ x with rd := upN x.rd c s.rd, now := v.now + 1, br := v.br, ds := x.ds.set (x.at' c) { p with en := v.now + 1 } }) mp I H U (D.set (x.at' c) { d with en := v.now + 1 }) L [(gk8, 90, Rz.cells ⟨er, enZ, slZ, ⟨da, z.length, dc⟩, 0, st, 0⟩)] [] [(⟨da, z.length, dc⟩, z)]) := hG
      clear hG hst
      generalize wk14.setRow gd csd = wk15 at HF hH ⊢
      clear hdd
      refine wpAnyH_done (by kernel_rfl) ?_ _
      try simp only [pS]
      clear hH
      go_upto_region 6 with fail
      refine wp_region_held_drew (S := fun w' => Box w' b 75 (Wv.cells ⟨v.gp, v.hd, v.mm, v.aa, v.rr, v.gn, v.un, v.ds, v.ls, v.now + 1, v.br⟩) ∧ Box w' gk8 90 (Rz.cells ⟨er, enZ, slZ, ⟨da, z.length, dc⟩, 0, st, 0⟩)) rfl ⟨HF.out.drew.wbox, HF.out.drew.box 0 _ _ _ rfl⟩ (fun hH => ?_)
      have HF : Hid (Wg w wk15.drew n0 J J3 b ⟨v.gp, v.hd, v.mm, v.aa, v.rr, v.gn, v.un, v.ds, v.ls, v.now + 1, v.br⟩ ({ x with rd := upN x.rd c s.rd, now := v.now + 1, br := v.br, ds := x.ds.set (x.at' c) { p with en := v.now + 1 } }) mp I H U (D.set (x.at' c) { d with en := v.now + 1 }) L [(gk8, 90, Rz.cells ⟨er, enZ, slZ, ⟨da, z.length, dc⟩, 0, st, 0⟩)] [] [(⟨da, z.length, dc⟩, z)]) := HF.out.drew
      generalize wk15.drew = wk16 at HF hH ⊢
      refine xV 0 65 (.pointer (some ⟨b, 0, none⟩)) hH <| xV 1 66 (.pointer (some ⟨b, 0, none⟩)) hH <| xV 2 67 (.pointer (some ⟨b, 7, none⟩)) hH <| xL 3 68 72 ⟨b, 7, none⟩ v.ds.v (fun _ hw => load_one ((hw.1).cell 7 |>.trans (by kernel_rfl)) U72 rfl) hH <| xV 4 69 (.pointer (some ⟨b, 0, none⟩)) hH <| xV 5 70 (.pointer (some ⟨b, 0, none⟩)) hH <| ?_
      try simp only [pS]
      refine xV 6 71 (.pointer (some ⟨b, 3, none⟩)) hH <| xL 7 72 24 ⟨b, 3, none⟩ v.aa.v (fun _ hw => load_one ((hw.1).cell 3 |>.trans (by kernel_rfl)) U24 rfl) hH <| xV 8 73 (.int .i64 ((c : Nat) : Int)) hH <| xU 9 74 (.pointer (some ⟨ga, 0 + c * 1, none⟩)) (fun w' hw => exec_ixA 24 1 E24 F24 _ _ rfl ga 0 v.aa.l v.aa.k c (Eq.trans (b := v.aa.v) (by kernel_rfl) (sl_v (s := v.aa) hga)) (by kernel_rfl) (by omega)) hH <| xL 11 76 90 ⟨gk8, 0, none⟩ (.agg (Rz.cells ⟨er, enZ, slZ, ⟨da, z.length, dc⟩, 0, st, 0⟩)) (fun _ hw => run_load_part (cs := Rz.cs ⟨er, enZ, slZ, ⟨da, z.length, dc⟩, 0, st, 0⟩) (sub := Rz.cs ⟨er, enZ, slZ, ⟨da, z.length, dc⟩, 0, st, 0⟩) (hw.2) (Part.all _) U90 rfl S90) hH <| ?_
      try simp only [pS]
      refine xP 10 75 (.int .i64 ((x.at' c : Nat) : Int)) (w' := wk16) (exec_load 3 _ rfl ⟨ga, 0 + c * 1, none⟩ (by kernel_rfl) (.int .i64 ((x.at' c : Nat) : Int)) (load_one (HF.out.wa.aac hga hc) U3 rfl)) hH (fun hH => ?_)
      try simp only [pS]
      refine xU 12 77 (.pointer (some ⟨gd, 0 + (x.at' c) * 16, none⟩)) (fun w' hw => exec_ixA 72 16 E72 F72 _ _ rfl gd 0 v.ds.l v.ds.k (x.at' c) (Eq.trans (b := v.ds.v) (by kernel_rfl) (sl_v (s := v.ds) hgd)) (by kernel_rfl) (by omega)) hH <| xV 13 78 (.pointer (some ⟨gd, 0 + (x.at' c) * 16 + 5, none⟩)) hH <| ?_
      try simp only [pS]
      have hpi2 : (x.ds.set (x.at' c) { p with en := v.now + 1 })[x.at' c]? = some { p with en := v.now + 1 } := List.getElem?_set_self (by omega)
      have hdi2 : (D.set (x.at' c) { d with en := v.now + 1 })[x.at' c]? = some { d with en := v.now + 1 } := List.getElem?_set_self (by omega)
      have hdd := (HF.out.wa.pt.ds.2 _ _ _ hpi2 hdi2).res er st (HF.out.qs 0 _ rfl)
      obtain ⟨cse, J4, hst, hG⟩ := HF.out.setE (p2 := { p with en := v.now + 1, er := er, st := st, rz := z }) (d2 := { d with en := v.now + 1, r := ⟨er, enZ, slZ, ⟨da, z.length, dc⟩, 0, st, 0⟩ }) (u := .agg (Rz.cells ⟨er, enZ, slZ, ⟨da, z.length, dc⟩, 0, st, 0⟩)) (y := Rz.cs ⟨er, enZ, slZ, ⟨da, z.length, dc⟩, 0, st, 0⟩) (k := 5) hgd hdi2 rfl S90 (Rz.oneL _) (Nat.le_of_ble_eq_true (by kernel_rfl)) rfl hdd
      refine xS 14 90 ⟨gd, 0 + (x.at' c) * 16 + 5, none⟩ (.agg (Rz.cells ⟨er, enZ, slZ, ⟨da, z.length, dc⟩, 0, st, 0⟩)) (w' := wk16.setRow gd cse) hst (⟨hG.wbox, hG.box 0 _ _ _ rfl⟩) (fun hH => ?_)
      try simp only [pS]
      have HF : Hid (Wg w (wk16.setRow gd cse) n0 J J4 b ⟨v.gp, v.hd, v.mm, v.aa, v.rr, v.gn, v.un, v.ds, v.ls, v.now + 1, v.br⟩ ({ x with rd := upN x.rd c s.rd, now := v.now + 1, br := v.br, ds := (x.ds.set (x.at' c) { p with en := v.now + 1 }).set (x.at' c) { p with en := v.now + 1, er := er, st := st, rz := z } }) mp I H U ((D.set (x.at' c) { d with en := v.now + 1 }).set (x.at' c) { d with en := v.now + 1, r := ⟨er, enZ, slZ, ⟨da, z.length, dc⟩, 0, st, 0⟩ }) L [(gk8, 90, Rz.cells ⟨er, enZ, slZ, ⟨da, z.length, dc⟩, 0, st, 0⟩)] [] [(⟨da, z.length, dc⟩, z)]) := hG
      clear hG hst
      generalize wk16.setRow gd cse = wk17 at HF hH ⊢
      clear hdd hpi2 hdi2
      refine wpAnyH_done (by kernel_rfl) ?_ _
      try simp only [pS]
      clear hH
      go_upto_region 7 with fail
      refine WL.start <| uK (.pointer (some ⟨b, 0, none⟩)) <| uK (.pointer (some ⟨b, 0, none⟩)) <| uK (.pointer (some ⟨b, 2, none⟩)) <| uL 69 ⟨b, 2, none⟩ (v.mm.v) (load_one ((HF.out.wbox).cell 2 |>.trans (by kernel_rfl)) U69 rfl) <| uK (.int .i64 ((c : Nat) : Int)) <| uW (.pointer (some ⟨gm, 0 + c * 1, none⟩)) (exec_ixA 69 1 E69 F69 _ _ rfl gm 0 v.mm.l v.mm.k c (Eq.trans (b := v.mm.v) (by kernel_rfl) (sl_v (s := v.mm) hgm)) (by kernel_rfl) (by omega)) <| ?_
      try simp only [pS]
      obtain ⟨csm, J5, hst, hG⟩ := HF.out.die hgm hc
      refine uT 31 ⟨gm, 0 + c * 1, none⟩ (.nilIface) (wk17.setRow gm csm) hst ?_
      try simp only [pS]
      have HF : Hid (Wg w (wk17.setRow gm csm) n0 J J5 b ⟨v.gp, v.hd, v.mm, v.aa, v.rr, v.gn, v.un, v.ds, v.ls, v.now + 1, v.br⟩ ({ x with rd := upN x.rd c s.rd, now := v.now + 1, br := v.br, ds := (x.ds.set (x.at' c) { p with en := v.now + 1 }).set (x.at' c) { p with en := v.now + 1, er := er, st := st, rz := z }, m := upN x.m c none }) (upN mp c none) (fun i k => i ≠ c ∧ I i k) H U ((D.set (x.at' c) { d with en := v.now + 1 }).set (x.at' c) { d with en := v.now + 1, r := ⟨er, enZ, slZ, ⟨da, z.length, dc⟩, 0, st, 0⟩ }) L [(gk8, 90, Rz.cells ⟨er, enZ, slZ, ⟨da, z.length, dc⟩, 0, st, 0⟩)] [] [(⟨da, z.length, dc⟩, z)]) := hG
      clear hG hst
      generalize wk17.setRow gm csm = wk18 at HF ⊢
      refine WL.nil ?_
      try simp only [pS]
      go_wp2
      rw [HC.out]
      have e1 : lookW x c = { x with rd := upN x.rd c s.rd, now := v.now + 1, br := v.br, ds := (x.ds.set (x.at' c) { p with en := v.now + 1 }).set (x.at' c) { p with en := v.now + 1, er := er, st := st, rz := z }, m := upN x.m c none } := by
        rw [lookW_fin hm (by rw [hdp]), modify_set _ hpi, hdp, List.set_set, hvn, hvb]
        rfl
      rw [e1]
      refine bodyPost_end (v := .tuple #[]) (by kernel_rfl) rfl ⟨rfl, HF.out.out⟩

end Go.Proofs.Ytgiokkcdgoloaaa.Md
namespace Go.Proofs.Ytgiokkcdgoloaaa.Md
open Go.RowKit
set_option linter.unusedVariables false
set_option linter.unusedSimpArgs false

/-! What a machine tells goes into the world: messages lie apart from it. -/
section
variable {W W2 : World} {n0 : Nat} {J S : Nat → Prop} {b : Nat} {cs : Array Value} {rs : List Rowx} {I : Nat → Nat → Prop} {ms : Nat → Option RM} {mp : Nat → Option Nat}
/-- A machine was asked: its set is another one. -/
theorem Wl.mach5 (H : Wl W n0 J b cs rs I ms mp) {c m : Nat} (hm : mp c = some m) {s : RM} {I' : Nat → Prop} (hM2 : Mch W2 I' m s) (hI : ∀ k, I' k → (I c k ∨ W.heap.size ≤ k) ∧ k < W2.heap.size) (hK : Kept (N5 W (I c)) W W2) : Wl W2 n0 (fun k => J k ∨ I' k) b cs rs (fun i k => (i = c ∧ I' k) ∨ (i ≠ c ∧ I i k)) (upN ms c (some s)) mp ∧ Up5 W J W2 (fun k => J k ∨ I' k) := by
  have hK' := Kept.five hK
  have n0J : n0 ≤ W.heap.size := by have := H.jl b H.bj; omega
  refine ⟨⟨H.box.kept hK' (fun f => H.ib c b f rfl), fun i x hx => Own.kept (H.ow i x hx) hK' (fun k e f => H.ri c k i x f hx e), H.ty, H.ap, ?_, ?_, ?_, ?_, ?_, ?_, .inl H.bj, fun i x k hx e => .inl (H.rj i x k hx e), ?_⟩, ?_, hK.mono (fun k _ e => ⟨H.ij c k e.1, e.2⟩)⟩
  · intro i t ht
    unfold upN at ht
    by_cases e : i = c
    · subst e
      rw [if_pos rfl] at ht
      cases ht
      exact ⟨m, hm, hM2.wide (fun k e => .inl ⟨rfl, e⟩)⟩
    · rw [if_neg e] at ht
      obtain ⟨m', h1, h2⟩ := H.mc i t ht
      exact ⟨m', h1, h2.kept hK' (fun k f _ => ⟨fun g => e (H.ii i c k f g), .inr ⟨e, f⟩⟩)⟩
  · intro i hi
    unfold upN at hi
    by_cases e : i = c
    · subst e; rw [if_pos rfl] at hi; cases hi
    · rw [if_neg e] at hi; exact H.mn i hi
  · rintro i q k (⟨rfl, e⟩ | ⟨e1, e⟩) (⟨rfl, f⟩ | ⟨f1, f⟩)
    · rfl
    · rcases (hI k e).1 with g | g
      · exact H.ii _ _ k g f
      · have := (H.jl k (H.ij q k f)).2; omega
    · rcases (hI k f).1 with g | g
      · exact H.ii _ _ k e g
      · have := (H.jl k (H.ij i k e)).2; omega
    · exact H.ii i q k e f
  · rintro i k (⟨rfl, e⟩ | ⟨e1, e⟩)
    · rcases (hI k e).1 with g | g
      · exact H.ib _ k g
      · have := (H.jl b H.bj).2; omega
    · exact H.ib i k e
  · rintro q k i x (⟨rfl, e⟩ | ⟨e1, e⟩) hx f
    · rcases (hI k e).1 with g | g
      · exact H.ri _ k i x g hx f
      · have := (H.jl k (H.rj i x k hx f)).2; omega
    · exact H.ri q k i x e hx f
  · rintro q k (⟨rfl, e⟩ | ⟨e1, e⟩)
    · exact .inr e
    · exact .inl (H.ij q k e)
  · rintro k (e | e)
    · exact ⟨(H.jl k e).1, Nat.lt_of_lt_of_le (H.jl k e).2 hK.size⟩
    · refine ⟨?_, (hI k e).2⟩
      rcases (hI k e).1 with g | g
      · exact (H.jl k (H.ij c k g)).1
      · omega
  · rintro k (e | e)
    · exact .inl e
    · exact (hI k e).1.imp (H.ij c k) id
end
/-- No message lies in this block. -/
def No52 (w : World) (k : Nat) : Prop := ¬ ∃ cs, Box w k 52 cs
theorem no52_ty {w : World} {k : Nat} {t : TypeId} (h : ∃ cs, Box w k t cs) (hne : t ≠ 52) : No52 w k := fun e => ty_ne h e hne
theorem Tal.no52 {α : Type} {T : TypeId} {f : Option α → Value} {w : World} {tb bb ct : Nat} {at' : Option Addr} {X : TS α} (h : Tal T f w tb bb at' ct X) (hT : T ≠ 52) {k : Nat} (e : TB tb bb at' k) : No52 w k := by
  rcases e with rfl | rfl | e
  · exact no52_ty ⟨_, h.box⟩ hT
  · rintro ⟨cs, hb⟩
    exact box_map hb h.map rfl
  · exact no52_ty (Own.ty h.row e) (by decide)
theorem Mch.no52 {w : World} {I : Nat → Prop} {m : Nat} {s : RM} (h : Mch w I m s) : Mch w (fun k => I k ∧ No52 w k) m s := by
  obtain ⟨⟨a, cap, t, v, h1, h2, h3, h4⟩, len⟩ := h
  have hk := Kept.refl No w
  have h5 : ∀ k, I k → (∃ cs, Box w k 5 cs) → ¬ No k ∧ (I k ∧ No52 w k) := fun k e b => ⟨fun f => f, e, no52_ty b (by decide)⟩
  refine ⟨⟨a, cap, t, v, h1, ⟨h2, no52_ty ⟨_, h1.box⟩ (by decide)⟩, fun k e => ⟨h3 k e, no52_ty (Own.ty h1.row e) (by decide)⟩, ?_⟩, len⟩
  cases hp : s.ph with
  | fresh =>
    rw [hp] at h4
    obtain ⟨q1, ai, av, q2, q3⟩ := h4
    exact ⟨q1, ai, av, q2, q3.kept5 hk h5⟩
  | ask X =>
    rw [hp] at h4
    obtain ⟨q1, r0, r1, ai, av, tb, bb, at', ct, Y, q2, q3, q4, q5, q6, q7⟩ := h4
    exact ⟨q1, r0, r1, ai, av, tb, bb, at', ct, Y, q2, q3.kept5 hk h5, q4, q5.kept5 hk h5, fun k e => ⟨q6 k e, Tal.no52 q4 (by decide) e⟩, q7⟩
  | lay b U =>
    rw [hp] at h4
    obtain ⟨q1, pa, pk, da, dc, ub, ubb, ua, ut, q2, q3, q4, q5, q6, q7, q8, q9, q10⟩ := h4
    exact ⟨q1, pa, pk, da, dc, ub, ubb, ua, ut, q2, q3, q4, fun k e => ⟨q5 k e, no52_ty (OwnB.five q4 e) (by decide)⟩, q6, fun k e => ⟨⟨(q7 k e).1, no52_ty (q7 k e).2 (by decide)⟩, (q7 k e).2⟩, q8, fun k e => ⟨q9 k e, Tal.no52 q8 (by decide) e⟩, q10⟩
  | fin er st z =>
    rw [hp] at h4
    obtain ⟨q1, da, dc, q2, q3, q4, q5⟩ := h4
    exact ⟨q1, da, dc, q2, q3, q4, fun k e => ⟨⟨(q5 k e).1, no52_ty (q5 k e).2 (by decide)⟩, (q5 k e).2⟩⟩
/-- What is told, as messages in memory. -/
def qmM (o : RM × To) (q : Qm) : Mg := ⟨o.2.k, ⟨true, o.1.cl⟩, ⟨false, q.sv⟩, o.1.op, o.1.rd, o.1.ky, o.2.st, spZ, ⟨q.ba, o.2.z.length, q.bc⟩, cZ, bvZ, slZ, false⟩
theorem qmM_l (o : RM × To) (qs : List Qm) : msgsC o.1.x ⟨o.2.k, o.2.st.n, o.2.st.c, o.2.z.length⟩ qs = mgL (qs.map (qmM o)) := by
  unfold msgsC mgL
  rw [List.flatMap_def, List.map_map]
  rfl
def ToOk (o : RM × To) : Prop := (o.2.z = [] ∨ ∃ b U, o.1.ph = .lay b U ∧ o.2.z = b.z)
theorem Mch.toLen {w : World} {I : Nat → Prop} {m : Nat} {o : RM × To} (h : Mch w I m o.1) (ho : ToOk o) : o.2.z.length ≤ 140737488351232 := by
  rcases ho with e | ⟨b, U, hp, e⟩
  · rw [e]; simp
  · obtain ⟨⟨a, cap, t, v, h1, h2, h3, h4⟩, len⟩ := h
    rw [hp] at h4
    obtain ⟨q1, pa, pk, da, dc, ub, ubb, ua, ut, q2, q3, _⟩ := h4
    rw [e]; exact q3
theorem toOk_beg (s : RM) : ToOk (begP s) := by
  unfold begP ToOk
  split
  · split <;> exact .inl rfl
  · exact .inl rfl
theorem toOk_tik (s : RM) : ToOk (s, tikP s) := by
  unfold tikP ToOk
  split
  · exact .inl rfl
  · rename_i b U e; exact .inr ⟨b, U, e, rfl⟩
  · exact .inl rfl
theorem toOk_lay (s : RM) (b : Bp) : ToOk (layP s b) := by
  unfold layP ToOk
  split
  · exact .inl rfl
  · exact .inr ⟨b, _, rfl, rfl⟩
theorem toOk_set (s : RM) (l : List Bp) : ToOk (setP s l) := by
  unfold setP
  split
  · split
    · exact .inl rfl
    · exact toOk_lay _ _
  · split
    · exact toOk_lay _ _
    · exact .inl rfl
theorem toOk_tak (s : RM) (d : Mg) (z : List Int) : ToOk (takP s d z) := by
  unfold takP
  split
  · split
    · split
      · exact toOk_set _ _
      · exact .inl rfl
    · exact .inl rfl
  · split
    · split <;> exact .inl rfl
    · exact .inl rfl
  · exact .inl rfl
/-- How many. -/
theorem ss_lay (s : RM) (b : Bp) : (layP s b).2.ss.length ≤ s.zs.length := by
  unfold layP
  split
  · simp [toZ]
  · exact Nat.le_refl _
theorem ss_set (s : RM) (l : List Bp) : (setP s l).2.ss.length ≤ s.zs.length := by
  unfold setP
  split
  · split
    · simp [toZ]
    · exact ss_lay _ _
  · split
    · exact ss_lay _ _
    · simp [toZ]
theorem ss_tak (s : RM) (d : Mg) (z : List Int) : (takP s d z).2.ss.length ≤ s.zs.length := by
  unfold takP
  split
  · split
    · split
      · exact ss_set _ _
      · simp [toZ]
    · simp [toZ]
  · split
    · split <;> simp [toZ]
    · simp [toZ]
  · simp [toZ]
theorem ss_beg (s : RM) : (begP s).2.ss.length ≤ s.zs.length := by
  unfold begP
  split
  · split
    · exact Nat.le_refl _
    · simp [toZ]
  · simp [toZ]
theorem ss_tik {w : World} {I : Nat → Prop} {m : Nat} {s : RM} (h : Mch w I m s) : (tikP s).ss.length ≤ s.zs.length := by
  obtain ⟨⟨a, cap, t, v, h1, h2, h3, h4⟩, len⟩ := h
  unfold tikP
  split
  · rename_i X e
    rw [e] at h4
    obtain ⟨q1, r0, r1, ai, av, tb, bb, at', ct, Y, q2, q3, q4, q5, q6, q7⟩ := h4
    have := missL_len X
    rw [q7] at this
    exact this
  · rename_i b U e
    rw [e] at h4
    obtain ⟨q1, pa, pk, da, dc, ub, ubb, ua, ut, q2, q3, q4, q5, q6, q7, q8, q9, q10⟩ := h4
    have := missL_len U
    rw [q10] at this
    exact this
  · simp [toZ]
/-- A machine of the world is asked. -/
theorem Wg.tell {w W W2 : World} {n0 : Nat} {J0 J : Nat → Prop} {b : Nat} {v : Wv} {x : Wd} {mp : Nat → Option Nat} {I : Nat → Nat → Prop} {H : List Bl} {U : List Mg} {D : List Dv} {L : List Lv} {l : List (Nat × TypeId × Array Value)} {T : List Rowx} {Q : List (Sl × List Int)} (G : Wg w W n0 J0 J b v x mp I H U D L l T Q) {c m : Nat} (hp : mp c = some m) {o : RM × To} {e : Ending} (h : MOut5 W (I c) m o e W2) (ho : ToOk o) :
    ∃ la lc ms I2 J2, e = .returned (.slice la ms.length lc) ∧ Own 52 30 W2 0 la lc ms.length (mgL ms) ∧ Two2 (UnM W2 n0) (outs o) ms ∧ (∀ k, At la k → ¬ J2 k) ∧ Wg w W2 n0 J0 J2 b v { x with m := upN x.m c (some o.1) } mp I2 H U D L l T Q := by
  obtain ⟨la, lc, qs, I', he, hq, hMs, hM, hI, hK⟩ := h
  obtain ⟨h1, h2⟩ := G.wa.wl.mach5 hp hM.no52 (fun k e => hI k e.1) hK
  have hrow := hMs.row
  rw [qmM_l] at hrow
  have hzl := hM.toLen ho
  refine ⟨la, lc, qs.map (qmM o), _, _, by rw [List.length_map]; exact he, by rw [List.length_map]; exact Own.lower hrow (Nat.zero_le _), ⟨?_, ?_⟩, ?_, G.upd ⟨h1, ?_, G.wa.now, G.wa.br⟩ h2⟩
  · unfold outs
    rw [List.length_map, List.length_map, ← hq, List.length_map]
  · intro i p y hpi hyi
    unfold outs at hpi
    rw [← hq, List.getElem?_map, List.getElem?_map] at hpi
    rw [List.getElem?_map] at hyi
    cases hqi : qs[i]? with
    | none => rw [hqi] at hyi; cases hyi
    | some q =>
      rw [hqi] at hpi hyi
      cases hpi
      cases hyi
      exact ⟨rfl, By.own (Own.lower (hMs.own q (List.mem_of_getElem? hqi)) (Nat.zero_le _)) hzl⟩
  · intro k ek f
    have hb := Own.base hrow ek
    rcases f with f | f
    · have := (G.wa.wl.jl k f).2; omega
    · exact f.2 (Own.ty hrow ek)
  · have p := G.wa.pt.up h2 G.wa.n0J
    exact ⟨p.hd, p.un, p.ds, p.ls⟩
end Go.Proofs.Ytgiokkcdgoloaaa.Md
