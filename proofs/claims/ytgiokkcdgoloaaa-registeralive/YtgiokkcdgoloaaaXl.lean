import Derived.Test.YtgiokkcdgoloaaaXk
import Derived.Test.YtgiokkcdgoloaaaNc
namespace Go.Proofs.Ytgiokkcdgoloaaa.Md
open Go.RowKit
set_option linter.unusedVariables false
set_option linter.unusedSimpArgs false
theorem newer_W {w : World} {n0 : Nat} {h : Bl} {z0 z : List Int} {st : Sp} {s : Sl} (hb : By w n0 h.d z0) (hs : By w n0 s z) : Calls Try.prog 14 #[.agg h.cells, .agg st.cells, s.v] w (fun e w' => ∃ (y : Bl) (q : Bool), e = .returned (.tuple #[.agg y.cells, .bool q]) ∧ HdM w' n0 (newW ⟨h.s, z0⟩ st z) y ∧ Kept No w w') := by
 have h1 := hb.le
 have h2 := hb.rd.len
 have h3 := hs.le
 have h4 := hs.rd.len
 refine (newer_any ⟨h.s.n, h.s.c, h.d.a, h.d.l, h.d.k, z0⟩ ⟨st.n, st.c, s.a, s.l, s.k, z⟩ h.d.a h.d.k s.a s.k w hb.rd.row h2 (by dsimp only; omega) hs.rd.row h4 (by dsimp only; omega)).mono ?_
 rintro e w' ⟨a', k', rfl, ho, hk⟩
 unfold newW
 dsimp only
 cases hl : lessB h.s.n h.s.c st.n st.c with
 | true =>
  have e1 : pickB ⟨h.s.n, h.s.c, h.d.a, h.d.l, h.d.k, z0⟩ ⟨st.n, st.c, s.a, s.l, s.k, z⟩ = ⟨st.n, st.c, s.a, s.l, s.k, z⟩ := by unfold pickB lessBl; dsimp only; rw [hl]; rfl
  rw [e1] at ho ⊢
  refine ⟨⟨st, ⟨a', s.l, k'⟩⟩, _, rfl, ⟨rfl, ?_⟩, hk⟩
  have := By.own (n0 := n0) (Own.lower ho (Nat.zero_le _)) h3
  rw [h4] at this
  exact this
 | false =>
  have e1 : pickB ⟨h.s.n, h.s.c, h.d.a, h.d.l, h.d.k, z0⟩ ⟨st.n, st.c, s.a, s.l, s.k, z⟩ = ⟨h.s.n, h.s.c, h.d.a, h.d.l, h.d.k, z0⟩ := by unfold pickB lessBl; dsimp only; rw [hl]; rfl
  rw [e1] at ho ⊢
  refine ⟨⟨h.s, ⟨a', h.d.l, k'⟩⟩, _, rfl, ⟨rfl, ?_⟩, hk⟩
  have := By.own (n0 := n0) (Own.lower ho (Nat.zero_le _)) h1
  rw [h2] at this
  exact this
theorem Bl.oneL' (x : Bl) : ∀ v ∈ x.cs, v.oneCell' = true := by simp [Bl.cs, Sp.cs, Value.oneCell', Sl.v]
theorem hdsW_at {x : Wd} {c : Nat} (h : c < x.n) : (hdsW x)[c]? = some (x.held ((c : Int) + 1)) := by
 unfold hdsW
 rw [List.getElem?_map, List.getElem?_range h]
 rfl
theorem hdsW_up {x : Wd} {c : Nat} (h : c < x.n) (y : Bp) : hdsW { x with held := upI x.held ((c : Int) + 1) y } = (hdsW x).set c y := by
 refine List.ext_getElem? (fun j => ?_)
 rw [List.getElem?_set]
 unfold hdsW
 rw [List.getElem?_map, List.getElem?_map]
 by_cases hj : j < x.n
 · rw [List.getElem?_range hj]
   by_cases e : c = j
   · subst e
     simp [upI, h]
   · have e' : ¬ ((j : Int) = (c : Int)) := by omega
     simp [upI, e', e, hj]
 · rw [List.getElem?_eq_none (by simp; omega)]
   have : ¬ c = j := by omega
   simp [this, hj]
theorem Wg.setH {w W : World} {n0 : Nat} {J0 J : Nat → Prop} {b g c : Nat} {v : Wv} {x : Wd} {mp : Nat → Option Nat} {I : Nat → Nat → Prop} {H : List Bl} {U : List Mg} {D : List Dv} {L : List Lv} {l : List (Nat × TypeId × Array Value)} {T : List Rowx} {Q : List (Sl × List Int)} (G : Wg w W n0 J0 J b v x mp I H U D L l T Q) (hg : v.hd.a = some ⟨g, 0, none⟩) (hc : c < x.n) {y : Bl} {p : Bp} (hy : HdM W n0 p y) : ∃ cs' J2, (storeVar 57 ⟨g, 0 + c * 3, none⟩ (.agg y.cells)).run Try.prog W = .ok () (W.setRow g cs') ∧ Wg w (W.setRow g cs') n0 J0 J2 b v { x with held := upI x.held ((c : Int) + 1) p } mp I (H.set c y) U D L l T Q := by
 have hl := G.wa.hn
 obtain ⟨cs', h2, h3⟩ := Own.setN (ty := 57) (xs := H.map Bl.cs) G.wa.hd (bkL_c H) (by rw [List.length_map]; exact G.wa.hl) (i := c) (by omega) hg (v := .agg y.cells) (y := y.cs) rfl S57 (Bl.oneL' y) rfl
 have hk : Kept (At v.hd.a) W (W.setRow g cs') := (Kept.setRow W g cs').mono (fun k _ e => only_at hg k e)
 have bb : ∀ {s : Sl} {z : List Int}, By W n0 s z → By (W.setRow g cs') n0 s z := fun hb => G.wa.wl.by' (j := 1) (y := (v.hd, 57, 3, bkL H)) rfl hk hb
 obtain ⟨J2, h4, h5⟩ := G.wa.setH (H2 := H.set c y) (hl2 := upI x.held ((c : Int) + 1) p) hk (by unfold bkL; rw [List.map_set]; exact h3) (by
  rw [hdsW_up hc]
  exact (G.wa.pt.hd.mono (fun a c r => ⟨r.s, bb r.b⟩)).set c ⟨hy.s, bb hy.b⟩)
 exact ⟨cs', J2, h2, G.upd h4 h5⟩
theorem own_box1 {W : World} {g : Nat} {m : Mg} (h : Box W g 52 (Mg.cells m)) : Own 52 30 W 0 (some ⟨g, 0, none⟩) 1 1 (mgL [m]) := by
 have e : mgL [m] = m.cs := by simp [mgL]
 rw [e]
 refine ⟨rfl, .inr ⟨g, 1, Mg.cells m, rfl, Nat.zero_le _, h, Nat.le_refl _, by unfold maxLen; omega, rfl, ?_⟩⟩
 exact List.take_of_length_le (Nat.le_refl _)
theorem servW_1 {x : Wd} {p : Pm} (h : p.k = 1) : servW x p = sendW x [⟨11, p.too, p.fr, p.op, p.rd, p.ky, (x.held p.too.id).st, (x.held p.too.id).z⟩] := by unfold servW; rw [if_pos h]
theorem servW_2 {x : Wd} {p : Pm} (h : p.k = 2) : servW x p = sendW { x with held := upI x.held p.too.id (newW (x.held p.too.id) p.st p.z) } [⟨12, p.too, p.fr, p.op, p.rd, p.ky, spZ, []⟩] := by unfold servW; rw [if_neg (by omega), if_pos h]
set_option maxRecDepth 100000 in
set_option maxHeartbeats 4000000 in
theorem deliver_s1 (n0 : Nat) (J : Nat → Prop) (b : Nat) (x : Wd) (fr : Ad) (c : Nat) (op rd : Int) (ky : Ky) (st : Sp) (z : List Int) (s : Sl) (w : World) (hW : WAt w n0 J b x) (hz : By w n0 s z) (hc : c < x.n) (hn : x.n ≤ 1000) (hl : x.ls.length ≤ 900000) : Calls Try.prog 47 #[.pointer (some ⟨b, 0, none⟩), .agg (Mg.cells ⟨1, fr, ⟨false, (c : Int) + 1⟩, op, rd, ky, st, spZ, s, cZ, bvZ, slZ, false⟩)] w (WOut w n0 J b (servW x ⟨1, fr, ⟨false, (c : Int) + 1⟩, op, rd, ky, st, z⟩)) := by
 refine hideC fun C HC => ?_
 obtain ⟨v, mp, I, H, U, D, L, hA⟩ := hW
 have hhn := hA.hn
 obtain ⟨gh, hgh⟩ := own_at hA.hd (by omega)
 obtain ⟨h, hhi, hhd⟩ := hA.pt.hd.at (hdsW_at hc)
 have hhs := hhd.s
 have HF : Hid (Wg w w n0 J J b v x mp I H U D L [] [] [(s, z), (h.d, (x.held ((c : Int) + 1)).z)]) := (Wg.start hA).byt (Q := []) (Q' := [(s, z), (h.d, (x.held ((c : Int) + 1)).z)]) (by simpa using ⟨hz, hhd.b⟩)
 clear hA hz hhd
 obtain ⟨hz0, hhz⟩ : ∃ q, q = (x.held ((c : Int) + 1)).z := ⟨_, rfl⟩
 rw [← hhz] at HF
 go_enter Try.func47, Try.ntmps47
 go_upto_region 0 with fail
 refine WL.start ?_
 refine uR (pV w.heap.size 0) (w.alloc (.cells (Mg.cells ⟨1, fr, ⟨false, (c : Int) + 1⟩, op, rd, ky, st, spZ, s, cZ, bvZ, slZ, false⟩) 52)) (exec_box 52 _ rfl (Mg.cells ⟨1, fr, ⟨false, (c : Int) + 1⟩, op, rd, ky, st, spZ, s, cZ, bvZ, slZ, false⟩) (by kernel_rfl)) ?_
 try simp only [pS]
 have HF : Hid _ := HF.out.alloc 52 (Mg.cells ⟨1, fr, ⟨false, (c : Int) + 1⟩, op, rd, ky, st, spZ, s, cZ, bvZ, slZ, false⟩)
 generalize w.alloc (.cells (Mg.cells ⟨1, fr, ⟨false, (c : Int) + 1⟩, op, rd, ky, st, spZ, s, cZ, bvZ, slZ, false⟩) 52) = wk2 at HF ⊢
 generalize w.heap.size = gk1 at HF ⊢
 refine WL.nil ?_
 try simp only [pS]
 go_upto_region 1 with fail
 refine WL.start <| uK (pV gk1 3) <| uK (pV gk1 3) <| uL 4 ⟨gk1, 3, none⟩ (.bool false) (ld1 (HF.out.box 0 _ _ _ rfl) 3 U4 rfl) <| WL.nil <| ?_
 try simp only [pS]
 go_upto_region 9 with fail
 refine WL.start <| uK (pV gk1 3) <| uK (pV gk1 4) <| uL 3 ⟨gk1, 4, none⟩ (.int .i64 ((c : Int) + 1)) (ld1 (HF.out.box 0 _ _ _ rfl) 4 U3 rfl) <| uB .sub 3 (.int .i64 ((c : Int) + 1)) (.int .i64 1) (.int .i64 ((c : Nat) : Int)) (b_subw _ _ _ (by rw [IntKind.wrap_i64]; omega) _) <| uK (.int .i64 ((c : Nat) : Int)) <| WL.nil <| ?_
 try simp only [pS]
 go_upto_region 10 with fail
 refine WL.start <| uK (.int .i64 ((c : Nat) : Int)) <| uB .lss 3 (.int .i64 ((c : Nat) : Int)) (.int .i64 0) (.bool false) (by rw [b_lss, decide_eq_false (by omega)]) <| uK (.bool false) <| uK (.int .i64 ((c : Nat) : Int)) <| uK (pV b 0) <| uK (pV b 0) <| uK (pV b 1) <| uL 58 ⟨b, 1, none⟩ (v.hd.v) (ld1 HF.out.wbox 1 U58 rfl) <| uK (.int .i64 ((v.hd.l : Nat) : Int)) <| uB .geq 3 (.int .i64 ((c : Nat) : Int)) (.int .i64 ((v.hd.l : Nat) : Int)) (.bool false) (by rw [b_geq, decide_eq_false (by omega)]) <| uK (.bool false) <| WL.nil <| ?_
 try simp only [pS]
 go_upto_region 12 with fail
 refine WL.start <| uK (pV gk1 3) <| uL 39 ⟨gk1, 3, none⟩ (.agg (Ad.cells ⟨false, (c : Int) + 1⟩)) (run_load_part (cs := Mg.cs ⟨1, fr, ⟨false, (c : Int) + 1⟩, op, rd, ky, st, spZ, s, cZ, bvZ, slZ, false⟩) (sub := Ad.cs ⟨false, (c : Int) + 1⟩) (HF.out.box 0 _ _ _ rfl) (part_of (by kernel_rfl)) U39 rfl S39) <| uK (pV gk1 1) <| uL 39 ⟨gk1, 1, none⟩ (.agg (Ad.cells fr)) (run_load_part (cs := Mg.cs ⟨1, fr, ⟨false, (c : Int) + 1⟩, op, rd, ky, st, spZ, s, cZ, bvZ, slZ, false⟩) (sub := Ad.cs fr) (HF.out.box 0 _ _ _ rfl) (part_of (by kernel_rfl)) U39 rfl S39) <| uK (pV gk1 5) <| uL 3 ⟨gk1, 5, none⟩ (.int .i64 op) (ld1 (HF.out.box 0 _ _ _ rfl) 5 U3 rfl) <| uK (pV gk1 6) <| uL 3 ⟨gk1, 6, none⟩ (.int .i64 rd) (ld1 (HF.out.box 0 _ _ _ rfl) 6 U3 rfl) <| uK (pV gk1 7) <| uL 23 ⟨gk1, 7, none⟩ (.agg (Ky.cells ky)) (run_load_part (cs := Mg.cs ⟨1, fr, ⟨false, (c : Int) + 1⟩, op, rd, ky, st, spZ, s, cZ, bvZ, slZ, false⟩) (sub := Ky.cs ky) (HF.out.box 0 _ _ _ rfl) (part_of (by kernel_rfl)) U23 rfl S23) <| uW (.agg (Mg.cells ⟨0, ⟨false, (c : Int) + 1⟩, fr, op, rd, ky, spZ, spZ, slZ, cZ, bvZ, slZ, false⟩)) (exec_build 52 _ rfl (Mg.cells ⟨0, ⟨false, (c : Int) + 1⟩, fr, op, rd, ky, spZ, spZ, slZ, cZ, bvZ, slZ, false⟩) (by kernel_rfl)) <| ?_
 try simp only [pS]
 refine uR (pV wk2.heap.size 0) (wk2.alloc (.cells (Mg.cells mgZ) 52)) (exec_alloc 52 rfl (Mg.cells mgZ) Z52) ?_
 try simp only [pS]
 have HF : Hid _ := HF.out.alloc 52 (Mg.cells mgZ)
 generalize wk2.alloc (.cells (Mg.cells mgZ) 52) = wk4 at HF ⊢
 generalize wk2.heap.size = gk3 at HF ⊢
 refine uT 52 ⟨gk3, 0, none⟩ (.agg (Mg.cells ⟨0, ⟨false, (c : Int) + 1⟩, fr, op, rd, ky, spZ, spZ, slZ, cZ, bvZ, slZ, false⟩)) (wk4.setRow gk3 (Mg.cells ⟨0, ⟨false, (c : Int) + 1⟩, fr, op, rd, ky, spZ, spZ, slZ, cZ, bvZ, slZ, false⟩)) (rs (Mg.cs mgZ) (Mg.cs ⟨0, ⟨false, (c : Int) + 1⟩, fr, op, rd, ky, spZ, spZ, slZ, cZ, bvZ, slZ, false⟩) (Mg.cs ⟨0, ⟨false, (c : Int) + 1⟩, fr, op, rd, ky, spZ, spZ, slZ, cZ, bvZ, slZ, false⟩) (HF.out.box 1 _ _ _ rfl) S52 (Mg.oneL _)) ?_
 try simp only [pS]
 have HF : Hid _ := HF.out.set 1 rfl (Mg.cells ⟨0, ⟨false, (c : Int) + 1⟩, fr, op, rd, ky, spZ, spZ, slZ, cZ, bvZ, slZ, false⟩)
 generalize wk4.setRow gk3 (Mg.cells ⟨0, ⟨false, (c : Int) + 1⟩, fr, op, rd, ky, spZ, spZ, slZ, cZ, bvZ, slZ, false⟩) = wk5 at HF ⊢
 refine WL.nil ?_
 try simp only [pS]
 go_upto_region 13 with fail
 refine WL.start <| uK (pV gk1 0) <| uL 3 ⟨gk1, 0, none⟩ (.int .i64 1) (ld1 (HF.out.box 0 _ _ _ rfl) 0 U3 rfl) <| WL.nil <| ?_
 try simp only [pS]
 go_upto_region 15 with fail
 refine WL.start <| uB .eql 3 (.int .i64 1) (.int .i64 1) (.bool true) (by rw [b_eql]; rfl) <| uK (.bool true) <| WL.nil <| ?_
 try simp only [pS]
 go_upto_region 16 with fail
 refine WL.start <| uK (pV gk3 0) <| ?_
 try simp only [pS]
 refine uT 3 ⟨gk3, 0, none⟩ (.int .i64 11) (wk5.setRow gk3 (Mg.cells ⟨11, ⟨false, (c : Int) + 1⟩, fr, op, rd, ky, spZ, spZ, slZ, cZ, bvZ, slZ, false⟩)) (rs (Mg.cs ⟨0, ⟨false, (c : Int) + 1⟩, fr, op, rd, ky, spZ, spZ, slZ, cZ, bvZ, slZ, false⟩) ([.int .i64 11]) (Mg.cs ⟨11, ⟨false, (c : Int) + 1⟩, fr, op, rd, ky, spZ, spZ, slZ, cZ, bvZ, slZ, false⟩) (HF.out.box 1 _ _ _ rfl) S3 (by simp [Value.oneCell', Sl.v])) ?_
 try simp only [pS]
 have HF : Hid _ := HF.out.set 1 rfl (Mg.cells ⟨11, ⟨false, (c : Int) + 1⟩, fr, op, rd, ky, spZ, spZ, slZ, cZ, bvZ, slZ, false⟩)
 generalize wk5.setRow gk3 (Mg.cells ⟨11, ⟨false, (c : Int) + 1⟩, fr, op, rd, ky, spZ, spZ, slZ, cZ, bvZ, slZ, false⟩) = wk6 at HF ⊢
 refine WL.nil ?_
 try simp only [pS]
 go_upto_region 17 with fail
 refine WL.start <| uK (pV b 0) <| uK (pV b 0) <| uK (pV b 1) <| uL 58 ⟨b, 1, none⟩ (v.hd.v) (ld1 HF.out.wbox 1 U58 rfl) <| uK (.int .i64 ((c : Nat) : Int)) <| uW (pV gh (0 + c * 3)) (exec_ixS 58 3 E58 F58 _ _ rfl hgh (by omega)) <| uK (pV gh (0 + c * 3)) <| uL 41 ⟨gh, 0 + c * 3, none⟩ (.agg (Sp.cells h.s)) ((load_part (n := 0) (own_cell HF.out.wa.hd hgh (bkL_c H) (by decide) hhi) (part_of (off := 0) (sub := Sp.cs h.s) (by kernel_rfl)) U41 rfl S41)) <| uK (pV gk3 11) <| ?_
 try simp only [pS]
 refine uT 41 ⟨gk3, 11, none⟩ (.agg (Sp.cells h.s)) (wk6.setRow gk3 (Mg.cells ⟨11, ⟨false, (c : Int) + 1⟩, fr, op, rd, ky, h.s, spZ, slZ, cZ, bvZ, slZ, false⟩)) (rs (Mg.cs ⟨11, ⟨false, (c : Int) + 1⟩, fr, op, rd, ky, spZ, spZ, slZ, cZ, bvZ, slZ, false⟩) (Sp.cs h.s) (Mg.cs ⟨11, ⟨false, (c : Int) + 1⟩, fr, op, rd, ky, h.s, spZ, slZ, cZ, bvZ, slZ, false⟩) (HF.out.box 1 _ _ _ rfl) S41 (Sp.oneL _)) ?_
 try simp only [pS]
 have HF : Hid _ := HF.out.set 1 rfl (Mg.cells ⟨11, ⟨false, (c : Int) + 1⟩, fr, op, rd, ky, h.s, spZ, slZ, cZ, bvZ, slZ, false⟩)
 generalize wk6.setRow gk3 (Mg.cells ⟨11, ⟨false, (c : Int) + 1⟩, fr, op, rd, ky, h.s, spZ, slZ, cZ, bvZ, slZ, false⟩) = wk7 at HF ⊢
 refine WL.nil ?_
 try simp only [pS]
 go_upto_region 18 with fail
 refine WL.start ?_
 refine uR (.slice (some ⟨wk7.heap.size, 0, none⟩) 0 0) (wk7.alloc (.cells #[] 5)) (exec_sl0 25 5 rfl (sl0_5 _)) ?_
 try simp only [pS]
 have HFa : Hid (Wg w (wk7.alloc (.cells #[] 5)) n0 J J b v x mp I H U D L [(gk1, 52, Mg.cells ⟨1, fr, ⟨false, (c : Int) + 1⟩, op, rd, ky, st, spZ, s, cZ, bvZ, slZ, false⟩), (gk3, 52, Mg.cells ⟨11, ⟨false, (c : Int) + 1⟩, fr, op, rd, ky, h.s, spZ, slZ, cZ, bvZ, slZ, false⟩)] [] [(s, z), (h.d, hz0)]) := HF.out.no ((Kept.refl No _).alloc _)
 refine uK (pV b 0) <| uK (pV b 0) <| uK (pV b 1) <| uL 58 ⟨b, 1, none⟩ (v.hd.v) (load_one ((HFa.out.wbox).cell 1 |>.trans (by kernel_rfl)) U58 rfl) <| uK (.int .i64 ((c : Nat) : Int)) <| uW (pV gh (0 + c * 3)) (exec_ixS 58 3 E58 F58 _ _ rfl hgh (by omega)) <| uK (pV gh (0 + c * 3 + 2)) <| uL 25 ⟨gh, 0 + c * 3 + 2, none⟩ (h.d.v) (load_one ((own_cell HFa.out.wa.hd hgh (bkL_c H) (by decide) hhi) 2 _ (by kernel_rfl)) U25 rfl) <| ?_
 try simp only [pS]
 have hzB : By wk7 n0 h.d hz0 := HF.out.qs 1 _ rfl
 obtain ⟨a2, k2, wbk8, hap0, ho2, hk⟩ := run_cpy (w := wk7) 25 25 5 1 1 _ U25 I5 rfl (by decide) h.d.a h.d.l h.d.k (u8L hz0) (by rw [Nat.mul_one]; simpa [u8L] using hzB.rd.len) hzB.rd.cap hzB.rd.src (num_one .u8 hz0) (by have := hzB.le; have := hzB.rd.len; omega) (by have := hzB.le; have := hzB.rd.len; omega)
 have hyB : By wbk8 n0 ⟨a2, h.d.l, k2⟩ hz0 := by
  have := hzB.rd.len
  rw [← this] at ho2 ⊢
  exact By.own ho2 hzB.le
 have HF : Hid (Wg w wbk8 n0 J J b v x mp I H U D L [(gk1, 52, Mg.cells ⟨1, fr, ⟨false, (c : Int) + 1⟩, op, rd, ky, st, spZ, s, cZ, bvZ, slZ, false⟩), (gk3, 52, Mg.cells ⟨11, ⟨false, (c : Int) + 1⟩, fr, op, rd, ky, h.s, spZ, slZ, cZ, bvZ, slZ, false⟩)] [] [(s, z), (h.d, hz0), (⟨a2, h.d.l, k2⟩, hz0)]) := (HF.out.no hk).byt (Q := [(s, z), (h.d, hz0)]) (Q' := [(⟨a2, h.d.l, k2⟩, hz0)]) (by simpa using hyB)
 refine uR (.slice a2 h.d.l k2) (wbk8) (exec_appN _ _ 25 25 rfl _ _ (by kernel_rfl) (by kernel_rfl) hap0) ?_
 try clear hH2
 clear hap0 hk hyB hzB ho2
 try clear HFa
 try simp only [pS]
 refine uK (pV gk3 15) ?_
 try simp only [pS]
 refine uT 25 ⟨gk3, 15, none⟩ (.slice a2 h.d.l k2) (wbk8.setRow gk3 (Mg.cells ⟨11, ⟨false, (c : Int) + 1⟩, fr, op, rd, ky, h.s, spZ, ⟨a2, h.d.l, k2⟩, cZ, bvZ, slZ, false⟩)) (rs (Mg.cs ⟨11, ⟨false, (c : Int) + 1⟩, fr, op, rd, ky, h.s, spZ, slZ, cZ, bvZ, slZ, false⟩) ([.slice a2 h.d.l k2]) (Mg.cs ⟨11, ⟨false, (c : Int) + 1⟩, fr, op, rd, ky, h.s, spZ, ⟨a2, h.d.l, k2⟩, cZ, bvZ, slZ, false⟩) (HF.out.box 1 _ _ _ rfl) S25 (by simp [Value.oneCell', Sl.v])) ?_
 try simp only [pS]
 have HF : Hid _ := HF.out.set 1 rfl (Mg.cells ⟨11, ⟨false, (c : Int) + 1⟩, fr, op, rd, ky, h.s, spZ, ⟨a2, h.d.l, k2⟩, cZ, bvZ, slZ, false⟩)
 generalize wbk8.setRow gk3 (Mg.cells ⟨11, ⟨false, (c : Int) + 1⟩, fr, op, rd, ky, h.s, spZ, ⟨a2, h.d.l, k2⟩, cZ, bvZ, slZ, false⟩) = wk9 at HF ⊢
 refine WL.nil ?_
 try simp only [pS]
 go_upto_region 22 with fail
 refine WL.start <| uK (pV b 0) <| uL 52 ⟨gk3, 0, none⟩ (.agg (Mg.cells ⟨11, ⟨false, (c : Int) + 1⟩, fr, op, rd, ky, h.s, spZ, ⟨a2, h.d.l, k2⟩, cZ, bvZ, slZ, false⟩)) (run_load_part (cs := Mg.cs ⟨11, ⟨false, (c : Int) + 1⟩, fr, op, rd, ky, h.s, spZ, ⟨a2, h.d.l, k2⟩, cZ, bvZ, slZ, false⟩) (sub := Mg.cs ⟨11, ⟨false, (c : Int) + 1⟩, fr, op, rd, ky, h.s, spZ, ⟨a2, h.d.l, k2⟩, cZ, bvZ, slZ, false⟩) (HF.out.box 1 _ _ _ rfl) (Part.all _) U52 rfl S52) <| ?_
 try simp only [pS]
 refine uR (.slice (some ⟨wk9.heap.size, 0, none⟩) 1 1) (wk9.alloc (.cells (Mg.cells ⟨11, ⟨false, (c : Int) + 1⟩, fr, op, rd, ky, h.s, spZ, ⟨a2, h.d.l, k2⟩, cZ, bvZ, slZ, false⟩) 52)) (exec_slice2 71 52 _ rfl (Mg.cells ⟨11, ⟨false, (c : Int) + 1⟩, fr, op, rd, ky, h.s, spZ, ⟨a2, h.d.l, k2⟩, cZ, bvZ, slZ, false⟩) (.agg (Mg.cells ⟨11, ⟨false, (c : Int) + 1⟩, fr, op, rd, ky, h.s, spZ, ⟨a2, h.d.l, k2⟩, cZ, bvZ, slZ, false⟩)) (by kernel_rfl) (by kernel_rfl)) ?_
 try simp only [pS]
 have HF : Hid _ := HF.out.alloc 52 (Mg.cells ⟨11, ⟨false, (c : Int) + 1⟩, fr, op, rd, ky, h.s, spZ, ⟨a2, h.d.l, k2⟩, cZ, bvZ, slZ, false⟩)
 generalize wk9.alloc (.cells (Mg.cells ⟨11, ⟨false, (c : Int) + 1⟩, fr, op, rd, ky, h.s, spZ, ⟨a2, h.d.l, k2⟩, cZ, bvZ, slZ, false⟩) 52) = wk11 at HF ⊢
 generalize wk9.heap.size = gk10 at HF ⊢
 refine uC 45 #[pV b 0, .slice (some ⟨gk10, 0, none⟩) 1 1] (send_any n0 J b _ ⟨some ⟨gk10, 0, none⟩, 1, 1⟩ [⟨11, ⟨false, (c : Int) + 1⟩, fr, op, rd, ky, h.s, hz0⟩] [⟨11, ⟨false, (c : Int) + 1⟩, fr, op, rd, ky, h.s, spZ, ⟨a2, h.d.l, k2⟩, cZ, bvZ, slZ, false⟩] _ ⟨_, _, _, _, _, _, _, HF.out.wa⟩ (own_box1 (HF.out.box 2 _ _ _ rfl)) (fun k e => by obtain ⟨ad, e1, e2⟩ := e; cases e1; subst e2; exact (HF.out.li 2 _ _ _ rfl).1) (Two2.cons ⟨rfl, HF.out.qs 2 _ rfl⟩ (Two2.nil _)) (by simp; omega)) ?_
 rintro e wk12 ⟨rfl, J3, ⟨v3, mp3, I3, H3, U3, D3, L3, hA3⟩, hup⟩
 have HF : Hid _ := HF.out.upd hA3 hup
 clear hA3 hup
 refine ⟨.tuple #[], rfl, ?_⟩
 try simp only [pS]
 refine WL.nil ?_
 try simp only [pS]
 go_wp2
 rw [HC.out, servW_1 rfl]
 have e1 : (⟨11, ⟨false, (c : Int) + 1⟩, fr, op, rd, ky, (x.held ((c : Int) + 1)).st, (x.held ((c : Int) + 1)).z⟩ : Pm) = ⟨11, ⟨false, (c : Int) + 1⟩, fr, op, rd, ky, h.s, hz0⟩ := by rw [hhs, hhz]
 dsimp only
 rw [e1]
 refine bodyPost_end (v := .tuple #[]) (by kernel_rfl) rfl ⟨rfl, HF.out.out⟩
set_option maxRecDepth 100000 in
set_option maxHeartbeats 4000000 in
theorem deliver_s2 (n0 : Nat) (J : Nat → Prop) (b : Nat) (x : Wd) (fr : Ad) (c : Nat) (op rd : Int) (ky : Ky) (st : Sp) (z : List Int) (s : Sl) (w : World) (hW : WAt w n0 J b x) (hz : By w n0 s z) (hc : c < x.n) (hn : x.n ≤ 1000) (hl : x.ls.length ≤ 900000) : Calls Try.prog 47 #[.pointer (some ⟨b, 0, none⟩), .agg (Mg.cells ⟨2, fr, ⟨false, (c : Int) + 1⟩, op, rd, ky, st, spZ, s, cZ, bvZ, slZ, false⟩)] w (WOut w n0 J b (servW x ⟨2, fr, ⟨false, (c : Int) + 1⟩, op, rd, ky, st, z⟩)) := by
 refine hideC fun C HC => ?_
 obtain ⟨v, mp, I, H, U, D, L, hA⟩ := hW
 have hhn := hA.hn
 obtain ⟨gh, hgh⟩ := own_at hA.hd (by omega)
 obtain ⟨h, hhi, hhd⟩ := hA.pt.hd.at (hdsW_at hc)
 have hhs := hhd.s
 have HF : Hid (Wg w w n0 J J b v x mp I H U D L [] [] [(s, z), (h.d, (x.held ((c : Int) + 1)).z)]) := (Wg.start hA).byt (Q := []) (Q' := [(s, z), (h.d, (x.held ((c : Int) + 1)).z)]) (by simpa using ⟨hz, hhd.b⟩)
 clear hA hz hhd
 obtain ⟨hz0, hhz⟩ : ∃ q, q = (x.held ((c : Int) + 1)).z := ⟨_, rfl⟩
 rw [← hhz] at HF
 go_enter Try.func47, Try.ntmps47
 go_upto_region 0 with fail
 refine WL.start ?_
 refine uR (pV w.heap.size 0) (w.alloc (.cells (Mg.cells ⟨2, fr, ⟨false, (c : Int) + 1⟩, op, rd, ky, st, spZ, s, cZ, bvZ, slZ, false⟩) 52)) (exec_box 52 _ rfl (Mg.cells ⟨2, fr, ⟨false, (c : Int) + 1⟩, op, rd, ky, st, spZ, s, cZ, bvZ, slZ, false⟩) (by kernel_rfl)) ?_
 try simp only [pS]
 have HF : Hid _ := HF.out.alloc 52 (Mg.cells ⟨2, fr, ⟨false, (c : Int) + 1⟩, op, rd, ky, st, spZ, s, cZ, bvZ, slZ, false⟩)
 generalize w.alloc (.cells (Mg.cells ⟨2, fr, ⟨false, (c : Int) + 1⟩, op, rd, ky, st, spZ, s, cZ, bvZ, slZ, false⟩) 52) = wk2 at HF ⊢
 generalize w.heap.size = gk1 at HF ⊢
 refine WL.nil ?_
 try simp only [pS]
 go_upto_region 1 with fail
 refine WL.start <| uK (pV gk1 3) <| uK (pV gk1 3) <| uL 4 ⟨gk1, 3, none⟩ (.bool false) (ld1 (HF.out.box 0 _ _ _ rfl) 3 U4 rfl) <| WL.nil <| ?_
 try simp only [pS]
 go_upto_region 9 with fail
 refine WL.start <| uK (pV gk1 3) <| uK (pV gk1 4) <| uL 3 ⟨gk1, 4, none⟩ (.int .i64 ((c : Int) + 1)) (ld1 (HF.out.box 0 _ _ _ rfl) 4 U3 rfl) <| uB .sub 3 (.int .i64 ((c : Int) + 1)) (.int .i64 1) (.int .i64 ((c : Nat) : Int)) (b_subw _ _ _ (by rw [IntKind.wrap_i64]; omega) _) <| uK (.int .i64 ((c : Nat) : Int)) <| WL.nil <| ?_
 try simp only [pS]
 go_upto_region 10 with fail
 refine WL.start <| uK (.int .i64 ((c : Nat) : Int)) <| uB .lss 3 (.int .i64 ((c : Nat) : Int)) (.int .i64 0) (.bool false) (by rw [b_lss, decide_eq_false (by omega)]) <| uK (.bool false) <| uK (.int .i64 ((c : Nat) : Int)) <| uK (pV b 0) <| uK (pV b 0) <| uK (pV b 1) <| uL 58 ⟨b, 1, none⟩ (v.hd.v) (ld1 HF.out.wbox 1 U58 rfl) <| uK (.int .i64 ((v.hd.l : Nat) : Int)) <| uB .geq 3 (.int .i64 ((c : Nat) : Int)) (.int .i64 ((v.hd.l : Nat) : Int)) (.bool false) (by rw [b_geq, decide_eq_false (by omega)]) <| uK (.bool false) <| WL.nil <| ?_
 try simp only [pS]
 go_upto_region 12 with fail
 refine WL.start <| uK (pV gk1 3) <| uL 39 ⟨gk1, 3, none⟩ (.agg (Ad.cells ⟨false, (c : Int) + 1⟩)) (run_load_part (cs := Mg.cs ⟨2, fr, ⟨false, (c : Int) + 1⟩, op, rd, ky, st, spZ, s, cZ, bvZ, slZ, false⟩) (sub := Ad.cs ⟨false, (c : Int) + 1⟩) (HF.out.box 0 _ _ _ rfl) (part_of (by kernel_rfl)) U39 rfl S39) <| uK (pV gk1 1) <| uL 39 ⟨gk1, 1, none⟩ (.agg (Ad.cells fr)) (run_load_part (cs := Mg.cs ⟨2, fr, ⟨false, (c : Int) + 1⟩, op, rd, ky, st, spZ, s, cZ, bvZ, slZ, false⟩) (sub := Ad.cs fr) (HF.out.box 0 _ _ _ rfl) (part_of (by kernel_rfl)) U39 rfl S39) <| uK (pV gk1 5) <| uL 3 ⟨gk1, 5, none⟩ (.int .i64 op) (ld1 (HF.out.box 0 _ _ _ rfl) 5 U3 rfl) <| uK (pV gk1 6) <| uL 3 ⟨gk1, 6, none⟩ (.int .i64 rd) (ld1 (HF.out.box 0 _ _ _ rfl) 6 U3 rfl) <| uK (pV gk1 7) <| uL 23 ⟨gk1, 7, none⟩ (.agg (Ky.cells ky)) (run_load_part (cs := Mg.cs ⟨2, fr, ⟨false, (c : Int) + 1⟩, op, rd, ky, st, spZ, s, cZ, bvZ, slZ, false⟩) (sub := Ky.cs ky) (HF.out.box 0 _ _ _ rfl) (part_of (by kernel_rfl)) U23 rfl S23) <| uW (.agg (Mg.cells ⟨0, ⟨false, (c : Int) + 1⟩, fr, op, rd, ky, spZ, spZ, slZ, cZ, bvZ, slZ, false⟩)) (exec_build 52 _ rfl (Mg.cells ⟨0, ⟨false, (c : Int) + 1⟩, fr, op, rd, ky, spZ, spZ, slZ, cZ, bvZ, slZ, false⟩) (by kernel_rfl)) <| ?_
 try simp only [pS]
 refine uR (pV wk2.heap.size 0) (wk2.alloc (.cells (Mg.cells mgZ) 52)) (exec_alloc 52 rfl (Mg.cells mgZ) Z52) ?_
 try simp only [pS]
 have HF : Hid _ := HF.out.alloc 52 (Mg.cells mgZ)
 generalize wk2.alloc (.cells (Mg.cells mgZ) 52) = wk4 at HF ⊢
 generalize wk2.heap.size = gk3 at HF ⊢
 refine uT 52 ⟨gk3, 0, none⟩ (.agg (Mg.cells ⟨0, ⟨false, (c : Int) + 1⟩, fr, op, rd, ky, spZ, spZ, slZ, cZ, bvZ, slZ, false⟩)) (wk4.setRow gk3 (Mg.cells ⟨0, ⟨false, (c : Int) + 1⟩, fr, op, rd, ky, spZ, spZ, slZ, cZ, bvZ, slZ, false⟩)) (rs (Mg.cs mgZ) (Mg.cs ⟨0, ⟨false, (c : Int) + 1⟩, fr, op, rd, ky, spZ, spZ, slZ, cZ, bvZ, slZ, false⟩) (Mg.cs ⟨0, ⟨false, (c : Int) + 1⟩, fr, op, rd, ky, spZ, spZ, slZ, cZ, bvZ, slZ, false⟩) (HF.out.box 1 _ _ _ rfl) S52 (Mg.oneL _)) ?_
 try simp only [pS]
 have HF : Hid _ := HF.out.set 1 rfl (Mg.cells ⟨0, ⟨false, (c : Int) + 1⟩, fr, op, rd, ky, spZ, spZ, slZ, cZ, bvZ, slZ, false⟩)
 generalize wk4.setRow gk3 (Mg.cells ⟨0, ⟨false, (c : Int) + 1⟩, fr, op, rd, ky, spZ, spZ, slZ, cZ, bvZ, slZ, false⟩) = wk5 at HF ⊢
 refine WL.nil ?_
 try simp only [pS]
 go_upto_region 13 with fail
 refine WL.start <| uK (pV gk1 0) <| uL 3 ⟨gk1, 0, none⟩ (.int .i64 2) (ld1 (HF.out.box 0 _ _ _ rfl) 0 U3 rfl) <| WL.nil <| ?_
 try simp only [pS]
 go_upto_region 15 with fail
 refine WL.start <| uB .eql 3 (.int .i64 2) (.int .i64 1) (.bool false) (by rw [b_eql]; rfl) <| uK (.bool false) <| WL.nil <| ?_
 try simp only [pS]
 go_upto_region 19 with fail
 refine WL.start <| uB .eql 3 (.int .i64 2) (.int .i64 2) (.bool true) (by rw [b_eql]; rfl) <| uK (.bool true) <| WL.nil <| ?_
 try simp only [pS]
 go_upto_region 20 with fail
 refine wp_region_held_drew (S := fun w' => Box w' b 75 (Wv.cells v) ∧ Box w' gk1 52 (Mg.cells ⟨2, fr, ⟨false, (c : Int) + 1⟩, op, rd, ky, st, spZ, s, cZ, bvZ, slZ, false⟩)) rfl ⟨HF.out.drew.wbox, HF.out.drew.box 0 _ _ _ rfl⟩ (fun hH => ?_)
 have HF : Hid _ := HF.out.drew
 generalize wk5.drew = wk6 at HF hH ⊢
 refine xV 0 116 (pV b 0) hH <| xV 1 117 (pV b 0) hH <| xV 2 118 (pV b 1) hH <| xL 3 119 58 ⟨b, 1, none⟩ v.hd.v (fun _ hw => ld1 hw.1 1 U58 rfl) hH <| xV 4 120 (.int .i64 ((c : Nat) : Int)) hH <| xV 5 121 (pV b 0) hH <| xV 6 122 (pV b 0) hH <| xV 7 123 (pV b 1) hH <| xL 8 124 58 ⟨b, 1, none⟩ v.hd.v (fun _ hw => ld1 hw.1 1 U58 rfl) hH <| xV 9 125 (.int .i64 ((c : Nat) : Int)) hH <| xU 10 126 (pV gh (0 + c * 3)) (fun w' hw => exec_ixS 58 3 E58 F58 _ _ rfl hgh (by omega)) hH <| xV 12 128 (pV gk1 11) hH <| xL 13 129 41 ⟨gk1, 11, none⟩ (.agg (Sp.cells st)) (fun _ hw => run_load_part (cs := Mg.cs ⟨2, fr, ⟨false, (c : Int) + 1⟩, op, rd, ky, st, spZ, s, cZ, bvZ, slZ, false⟩) (sub := Sp.cs st) (hw.2) (part_of (by kernel_rfl)) U41 rfl S41) hH <| xV 14 130 (pV gk1 15) hH <| xL 15 131 25 ⟨gk1, 15, none⟩ s.v (fun _ hw => ld1 hw.2 15 U25 rfl) hH <| ?_
 try simp only [pS]
 refine xP 11 127 (.agg (Bl.cells h)) (w' := wk6) (exec_load 57 _ rfl ⟨gh, 0 + c * 3, none⟩ (by kernel_rfl) (.agg (Bl.cells h)) ((load_part (n := 0) (own_cell HF.out.wa.hd hgh (bkL_c H) (by decide) hhi) (part_of (off := 0) (sub := Bl.cs h) (by kernel_rfl)) U57 rfl S57))) hH (fun hH => ?_)
 try simp only [pS]
 refine xC 16 132 14 #[.agg (Bl.cells h), .agg (Sp.cells st), s.v] (newer_W (HF.out.qs 1 _ rfl) (HF.out.qs 0 _ rfl)) ?_
 rintro e wk7 ⟨y, q, rfl, hy, hk⟩
 have hH2 : Box wk7 b 75 (Wv.cells v) ∧ Box wk7 gk1 52 (Mg.cells ⟨2, fr, ⟨false, (c : Int) + 1⟩, op, rd, ky, st, spZ, s, cZ, bvZ, slZ, false⟩) := ⟨(HF.out.no hk).wbox, (HF.out.no hk).box 0 _ _ _ rfl⟩
 have HF : Hid _ := HF.out.no hk
 clear hk
 have HY : Hid (HdM wk7 n0 (newW ⟨h.s, hz0⟩ st z) y) := hy
 clear hy
 refine ⟨.tuple #[.agg y.cells, .bool q], rfl, hH2, fun hH => ?_⟩
 clear hH2
 try simp only [pS]
 refine xV 17 115 (.tuple #[.agg y.cells, .bool q]) hH <| xV 18 133 (.agg (Bl.cells y)) hH <| xV 19 134 (.bool q) hH <| xU 20 135 (pV gh (0 + c * 3)) (fun w' hw => exec_ixS 58 3 E58 F58 _ _ rfl hgh (by omega)) hH <| ?_
 try simp only [pS]
 have hy := HY.out
 obtain ⟨csh, J2, hst, hG⟩ := HF.out.setH hgh hc hy
 refine xS 21 57 ⟨gh, 0 + c * 3, none⟩ (.agg (Bl.cells y)) (w' := wk7.setRow gh csh) hst (⟨hG.wbox, hG.box 0 _ _ _ rfl⟩) (fun hH => ?_)
 try simp only [pS]
 have HF : Hid (Wg w (wk7.setRow gh csh) n0 J J2 b v ({ x with held := upI x.held ((c : Int) + 1) (newW ⟨h.s, hz0⟩ st z) }) mp I (H.set c y) U D L [(gk1, 52, Mg.cells ⟨2, fr, ⟨false, (c : Int) + 1⟩, op, rd, ky, st, spZ, s, cZ, bvZ, slZ, false⟩), (gk3, 52, Mg.cells ⟨0, ⟨false, (c : Int) + 1⟩, fr, op, rd, ky, spZ, spZ, slZ, cZ, bvZ, slZ, false⟩)] [] [(s, z), (h.d, hz0)]) := hG
 clear hG hst
 generalize wk7.setRow gh csh = wk8 at HF hH ⊢
 clear hy HY
 refine wpAnyH_done (by kernel_rfl) ?_ _
 try simp only [pS]
 clear hH
 go_upto_region 21 with fail
 refine WL.start <| uK (pV gk3 0) <| ?_
 try simp only [pS]
 refine uT 3 ⟨gk3, 0, none⟩ (.int .i64 12) (wk8.setRow gk3 (Mg.cells ⟨12, ⟨false, (c : Int) + 1⟩, fr, op, rd, ky, spZ, spZ, slZ, cZ, bvZ, slZ, false⟩)) (rs (Mg.cs ⟨0, ⟨false, (c : Int) + 1⟩, fr, op, rd, ky, spZ, spZ, slZ, cZ, bvZ, slZ, false⟩) ([.int .i64 12]) (Mg.cs ⟨12, ⟨false, (c : Int) + 1⟩, fr, op, rd, ky, spZ, spZ, slZ, cZ, bvZ, slZ, false⟩) (HF.out.box 1 _ _ _ rfl) S3 (by simp [Value.oneCell', Sl.v])) ?_
 try simp only [pS]
 have HF : Hid _ := HF.out.set 1 rfl (Mg.cells ⟨12, ⟨false, (c : Int) + 1⟩, fr, op, rd, ky, spZ, spZ, slZ, cZ, bvZ, slZ, false⟩)
 generalize wk8.setRow gk3 (Mg.cells ⟨12, ⟨false, (c : Int) + 1⟩, fr, op, rd, ky, spZ, spZ, slZ, cZ, bvZ, slZ, false⟩) = wk9 at HF ⊢
 refine WL.nil ?_
 try simp only [pS]
 go_upto_region 22 with fail
 refine WL.start <| uK (pV b 0) <| uL 52 ⟨gk3, 0, none⟩ (.agg (Mg.cells ⟨12, ⟨false, (c : Int) + 1⟩, fr, op, rd, ky, spZ, spZ, slZ, cZ, bvZ, slZ, false⟩)) (run_load_part (cs := Mg.cs ⟨12, ⟨false, (c : Int) + 1⟩, fr, op, rd, ky, spZ, spZ, slZ, cZ, bvZ, slZ, false⟩) (sub := Mg.cs ⟨12, ⟨false, (c : Int) + 1⟩, fr, op, rd, ky, spZ, spZ, slZ, cZ, bvZ, slZ, false⟩) (HF.out.box 1 _ _ _ rfl) (Part.all _) U52 rfl S52) <| ?_
 try simp only [pS]
 refine uR (.slice (some ⟨wk9.heap.size, 0, none⟩) 1 1) (wk9.alloc (.cells (Mg.cells ⟨12, ⟨false, (c : Int) + 1⟩, fr, op, rd, ky, spZ, spZ, slZ, cZ, bvZ, slZ, false⟩) 52)) (exec_slice2 71 52 _ rfl (Mg.cells ⟨12, ⟨false, (c : Int) + 1⟩, fr, op, rd, ky, spZ, spZ, slZ, cZ, bvZ, slZ, false⟩) (.agg (Mg.cells ⟨12, ⟨false, (c : Int) + 1⟩, fr, op, rd, ky, spZ, spZ, slZ, cZ, bvZ, slZ, false⟩)) (by kernel_rfl) (by kernel_rfl)) ?_
 try simp only [pS]
 have HF : Hid _ := HF.out.alloc 52 (Mg.cells ⟨12, ⟨false, (c : Int) + 1⟩, fr, op, rd, ky, spZ, spZ, slZ, cZ, bvZ, slZ, false⟩)
 generalize wk9.alloc (.cells (Mg.cells ⟨12, ⟨false, (c : Int) + 1⟩, fr, op, rd, ky, spZ, spZ, slZ, cZ, bvZ, slZ, false⟩) 52) = wk11 at HF ⊢
 generalize wk9.heap.size = gk10 at HF ⊢
 refine uC 45 #[pV b 0, .slice (some ⟨gk10, 0, none⟩) 1 1] (send_any n0 J2 b _ ⟨some ⟨gk10, 0, none⟩, 1, 1⟩ [⟨12, ⟨false, (c : Int) + 1⟩, fr, op, rd, ky, spZ, []⟩] [⟨12, ⟨false, (c : Int) + 1⟩, fr, op, rd, ky, spZ, spZ, slZ, cZ, bvZ, slZ, false⟩] _ ⟨_, _, _, _, _, _, _, HF.out.wa⟩ (own_box1 (HF.out.box 2 _ _ _ rfl)) (fun k e => by obtain ⟨ad, e1, e2⟩ := e; cases e1; subst e2; exact (HF.out.li 2 _ _ _ rfl).1) (Two2.cons ⟨rfl, By.nil _ _⟩ (Two2.nil _)) (by simp; omega)) ?_
 rintro e wk12 ⟨rfl, J3, ⟨v3, mp3, I3, H3, U3, D3, L3, hA3⟩, hup⟩
 have HF : Hid _ := HF.out.upd hA3 hup
 clear hA3 hup
 refine ⟨.tuple #[], rfl, ?_⟩
 try simp only [pS]
 refine WL.nil ?_
 try simp only [pS]
 go_wp2
 rw [HC.out, servW_2 rfl]
 have e1 : x.held ((c : Int) + 1) = ⟨h.s, hz0⟩ := by rw [hhs, hhz]
 dsimp only
 rw [e1]
 refine bodyPost_end (v := .tuple #[]) (by kernel_rfl) rfl ⟨rfl, HF.out.out⟩
end Go.Proofs.Ytgiokkcdgoloaaa.Md
