import Derived.Test.YtgiokkcdgoloaaaXp
namespace Go.Proofs.Ytgiokkcdgoloaaa.Md
open Go.RowKit
set_option linter.unusedVariables false
set_option linter.unusedSimpArgs false
structure Rg (w W : World) (n0 : Nat) (J : Nat → Prop) (b : Nat) (v : Wv) (x : Wd) (mp : Nat → Option Nat) (I : Nat → Nat → Prop) (H : List Bl) (U : List Mg) (D : List Dv) (L : List Lv) (l : List (Nat × TypeId × Array Value)) (Q : List (Sl × List Int)) : Prop where
  wa0 : WA w n0 J b v x mp I H U D L
  fr : Fq No w W l
  qs0 : ∀ (i : Nat) y, Q[i]? = some y → By w n0 y.1 y.2
section
variable {w W W' : World} {n0 : Nat} {J : Nat → Prop} {b : Nat} {v : Wv} {x : Wd} {mp : Nat → Option Nat} {I : Nat → Nat → Prop} {H : List Bl} {U : List Mg} {D : List Dv} {L : List Lv} {l l2 : List (Nat × TypeId × Array Value)} {Q Q' : List (Sl × List Int)}
theorem Rg.kept (G : Rg w W n0 J b v x mp I H U D L l Q) : Kept No w W := G.fr.kept
theorem Rg.wa (G : Rg w W n0 J b v x mp I H U D L l Q) : WA W n0 J b v x mp I H U D L := G.wa0.no G.fr.kept
theorem Rg.box (G : Rg w W n0 J b v x mp I H U D L l Q) : ∀ (i : Nat) g T cs, l[i]? = some (g, T, cs) → Box W g T cs := G.fr.box
theorem Rg.wbox (G : Rg w W n0 J b v x mp I H U D L l Q) : Box W b 75 v.cells := G.wa.wl.box
theorem Rg.low (G : Rg w W n0 J b v x mp I H U D L l Q) : ∀ (i : Nat) g t cs, l[i]? = some (g, t, cs) → w.heap.size ≤ g := fun i g t cs hi => (G.fr.low i g t cs hi).elim id (fun e => e.elim)
theorem Rg.ne (G : Rg w W n0 J b v x mp I H U D L l Q) (i j : Nat) {g g' : Nat} {T T' : TypeId} {cs cs' : Array Value} (hi : l[i]? = some (g, T, cs)) (hj : l[j]? = some (g', T', cs')) (hne : i ≠ j) : g ≠ g' := G.fr.ne i j hi hj hne
theorem Rg.no (G : Rg w W n0 J b v x mp I H U D L l Q) (hk : Kept No W W') : Rg w W' n0 J b v x mp I H U D L l Q := ⟨G.wa0, G.fr.no hk, G.qs0⟩
theorem Rg.drew (G : Rg w W n0 J b v x mp I H U D L l Q) : Rg w W.drew n0 J b v x mp I H U D L l Q := G.no (Kept.refl No W).drew
theorem Rg.alloc (G : Rg w W n0 J b v x mp I H U D L l Q) (t : TypeId) (cs : Array Value) : Rg w (W.alloc (.cells cs t)) n0 J b v x mp I H U D L (l ++ [(W.heap.size, t, cs)]) Q := ⟨G.wa0, G.fr.alloc t cs, G.qs0⟩
theorem Rg.set (G : Rg w W n0 J b v x mp I H U D L l Q) (i : Nat) {g : Nat} {t : TypeId} {cs : Array Value} (hi : l[i]? = some (g, t, cs)) (cs' : Array Value) : Rg w (W.setRow g cs') n0 J b v x mp I H U D L (l.set i (g, t, cs')) Q := ⟨G.wa0, G.fr.set i hi cs', G.qs0⟩
theorem Rg.qs (G : Rg w W n0 J b v x mp I H U D L l Q) : ∀ (i : Nat) y, Q[i]? = some y → By W n0 y.1 y.2 := fun i y hy => (G.qs0 i y hy).no G.fr.kept
theorem Rg.front (G : Rg w W n0 J b v x mp I H U D L (l ++ l2) Q) : Rg w W n0 J b v x mp I H U D L l Q := ⟨G.wa0, G.fr.front, G.qs0⟩
theorem Rg.setQ (G : Rg w W n0 J b v x mp I H U D L l Q) (h : ∀ y ∈ Q', By w n0 y.1 y.2) : Rg w W n0 J b v x mp I H U D L l Q' := ⟨G.wa0, G.fr, fun i y hy => h y (List.mem_of_getElem? hy)⟩
theorem Rg.start (h : WA w n0 J b v x mp I H U D L) (hq : ∀ y ∈ Q, By w n0 y.1 y.2) : Rg w w n0 J b v x mp I H U D L [] Q := ⟨h, Fq.start _ _, fun i y hy => hq y (List.mem_of_getElem? hy)⟩
end
def TrR (w : World) (e : Ending) (w' : World) : Prop := e = .returned (.bool true) ∧ Kept No w w'
theorem b_neq86 (a b : Int) (w : World) : (binOp .neq 86 (.int .i64 a) (.int .i64 b)).run Try.prog w = .ok (.bool (!(a == b))) w := by kernel_rfl
theorem make_by3 (w : World) : (Instr.makeSlice 25 (.int .i64 3) (.int .i64 3)).run Try.prog w = .ok (.slice (some ⟨w.heap.size, 0, none⟩) 3 3) (w.alloc (.cells #[.int .u8 0, .int .u8 0, .int .u8 0] 5)) := by kernel_rfl
theorem by_new (W : World) (n0 : Nat) : By (W.alloc (.cells #[.int .u8 0, .int .u8 0, .int .u8 0] 5)) n0 ⟨some ⟨W.heap.size, 0, none⟩, 3, 3⟩ [0, 0, 0] := by
  have hb := Box.new W 5 #[.int .u8 0, .int .u8 0, .int .u8 0]
  have hn := Box.nums (q := .u8) (zs := [0, 0, 0]) hb 3
  refine ⟨⟨hn, rfl, fun e => by cases e⟩, by simp, fun _ k e => .inr ?_⟩
  obtain ⟨ad, e1, e2⟩ := e
  cases e1
  subst e2
  exact ⟨_, hb⟩
end Go.Proofs.Ytgiokkcdgoloaaa.Md
namespace Go.Proofs.Ytgiokkcdgoloaaa.Md
open Go.RowKit
set_option linter.unusedVariables false
set_option linter.unusedSimpArgs false
set_option maxRecDepth 100000 in
set_option maxHeartbeats 4000000 in
theorem rests_w (n0 : Nat) (J : Nat → Prop) (b : Nat) (v : Wv) (x : Wd) (mp : Nat → Option Nat) (I : Nat → Nat → Prop) (H : List Bl) (U : List Mg) (D : List Dv) (L : List Lv) (cl beg en er : Int) (da ra : Sl) (st : Sp) (rz : List Int) (w : World) (hW : WA w n0 J b v x mp I H U D L) (hst : st.c = cl) (hra : ra.l = 0) : Calls Try.prog 43 #[.pointer (some ⟨b, 0, none⟩), .agg (Dv.cells ⟨true, cl, beg, en, da, ⟨er, enZ, slZ, ra, 0, st, 0⟩⟩)] w (TrR w) := by
 refine hideC fun C HC => ?_
 have HF : Hid (Rg w w n0 J b v x mp I H U D L [] []) := Rg.start hW (by simp)
 clear hW
 go_enter Try.func43, Try.ntmps43
 go_upto_region 0 with fail
 refine WL.start ?_
 refine uR (pV w.heap.size 0) (w.alloc (.cells (Dv.cells ⟨true, cl, beg, en, da, ⟨er, enZ, slZ, ra, 0, st, 0⟩⟩) 109)) (exec_box 109 _ rfl (Dv.cells ⟨true, cl, beg, en, da, ⟨er, enZ, slZ, ra, 0, st, 0⟩⟩) (by kernel_rfl)) ?_
 try simp only [pS]
 have HF : Hid _ := HF.out.alloc 109 (Dv.cells ⟨true, cl, beg, en, da, ⟨er, enZ, slZ, ra, 0, st, 0⟩⟩)
 generalize w.alloc (.cells (Dv.cells ⟨true, cl, beg, en, da, ⟨er, enZ, slZ, ra, 0, st, 0⟩⟩) 109) = wk2 at HF ⊢
 generalize w.heap.size = gk1 at HF ⊢
 refine uK (.bool false) <| WL.nil <| ?_
 try simp only [pS]
 go_upto_region 1 with fail
 refine WL.start <| uK (pV gk1 5) <| uK (pV gk1 13) <| uL 41 ⟨gk1, 13, none⟩ (.agg (Sp.cells st)) (run_load_part (cs := Dv.cs ⟨true, cl, beg, en, da, ⟨er, enZ, slZ, ra, 0, st, 0⟩⟩) (sub := Sp.cs st) (HF.out.box 0 _ _ _ rfl) (part_of (by kernel_rfl)) U41 rfl S41) <| ?_
 try simp only [pS]
 refine uR (pV wk2.heap.size 0) (wk2.alloc (.cells (Sp.cells spZ) 41)) (exec_alloc 41 rfl (Sp.cells spZ) Z41) ?_
 try simp only [pS]
 have HF : Hid _ := HF.out.alloc 41 (Sp.cells spZ)
 generalize wk2.alloc (.cells (Sp.cells spZ) 41) = wk4 at HF ⊢
 generalize wk2.heap.size = gk3 at HF ⊢
 refine uT 41 ⟨gk3, 0, none⟩ (.agg (Sp.cells st)) (wk4.setRow gk3 (Sp.cells st)) (rs (Sp.cs spZ) (Sp.cs st) (Sp.cs st) (HF.out.box 1 _ _ _ rfl) S41 (Sp.oneL _)) ?_
 try simp only [pS]
 have HF : Hid _ := HF.out.set 1 rfl (Sp.cells st)
 generalize wk4.setRow gk3 (Sp.cells st) = wk5 at HF ⊢
 refine WL.nil ?_
 try simp only [pS]
 go_upto_region 2 with fail
 refine WL.start <| uK (pV gk1 0) <| uL 4 ⟨gk1, 0, none⟩ (.bool true) (ld1 (HF.out.box 0 _ _ _ rfl) 0 U4 rfl) <| WL.nil <| ?_
 try simp only [pS]
 go_upto_region 3 with fail
 refine WL.start <| uK (pV gk3 1) <| uL 3 ⟨gk3, 1, none⟩ (.int .i64 st.c) (ld1 (HF.out.box 1 _ _ _ rfl) 1 U3 rfl) <| uK (pV gk1 1) <| uL 3 ⟨gk1, 1, none⟩ (.int .i64 cl) (ld1 (HF.out.box 0 _ _ _ rfl) 1 U3 rfl) <| uB .eql 3 (.int .i64 st.c) (.int .i64 cl) (.bool true) (by rw [b_eql, beq_iff_eq.2 (by omega)]) <| uK (.bool true) <| uK (pV gk1 5) <| uK (pV gk1 11) <| uL 25 ⟨gk1, 11, none⟩ (ra.v) (ld1 (HF.out.box 0 _ _ _ rfl) 11 U25 rfl) <| uK (.int .i64 ((ra.l : Nat) : Int)) <| uB .eql 3 (.int .i64 ((ra.l : Nat) : Int)) (.int .i64 0) (.bool true) (by rw [b_eql, beq_iff_eq.2 (by omega)]) <| uK (.bool true) <| uK (.bool true) <| WL.nil <| ?_
 try simp only [pS]
 go_wp2
 rw [HC.out]
 exact ⟨rfl, HF.out.kept⟩
set_option maxRecDepth 100000 in
set_option maxHeartbeats 4000000 in
theorem rests_z (n0 : Nat) (J : Nat → Prop) (b : Nat) (v : Wv) (x : Wd) (mp : Nat → Option Nat) (I : Nat → Nat → Prop) (H : List Bl) (U : List Mg) (D : List Dv) (L : List Lv) (cl beg en er : Int) (da ra : Sl) (st : Sp) (rz : List Int) (w : World) (hW : WA w n0 J b v x mp I H U D L) (hz : By w n0 ra [0, 0, 0]) : Calls Try.prog 43 #[.pointer (some ⟨b, 0, none⟩), .agg (Dv.cells ⟨false, cl, beg, en, da, ⟨er, enZ, slZ, ra, 0, spZ, 0⟩⟩)] w (TrR w) := by
 refine hideC fun C HC => ?_
 have HF : Hid (Rg w w n0 J b v x mp I H U D L [] [(ra, [0, 0, 0])]) := Rg.start hW (fun y hy => by rw [List.mem_singleton.1 hy]; exact hz)
 clear hW hz
 go_enter Try.func43, Try.ntmps43
 go_upto_region 0 with fail
 refine WL.start ?_
 refine uR (pV w.heap.size 0) (w.alloc (.cells (Dv.cells ⟨false, cl, beg, en, da, ⟨er, enZ, slZ, ra, 0, spZ, 0⟩⟩) 109)) (exec_box 109 _ rfl (Dv.cells ⟨false, cl, beg, en, da, ⟨er, enZ, slZ, ra, 0, spZ, 0⟩⟩) (by kernel_rfl)) ?_
 try simp only [pS]
 have HF : Hid _ := HF.out.alloc 109 (Dv.cells ⟨false, cl, beg, en, da, ⟨er, enZ, slZ, ra, 0, spZ, 0⟩⟩)
 generalize w.alloc (.cells (Dv.cells ⟨false, cl, beg, en, da, ⟨er, enZ, slZ, ra, 0, spZ, 0⟩⟩) 109) = wk2 at HF ⊢
 generalize w.heap.size = gk1 at HF ⊢
 refine uK (.bool false) <| WL.nil <| ?_
 try simp only [pS]
 go_upto_region 1 with fail
 refine WL.start <| uK (pV gk1 5) <| uK (pV gk1 13) <| uL 41 ⟨gk1, 13, none⟩ (.agg (Sp.cells spZ)) (run_load_part (cs := Dv.cs ⟨false, cl, beg, en, da, ⟨er, enZ, slZ, ra, 0, spZ, 0⟩⟩) (sub := Sp.cs spZ) (HF.out.box 0 _ _ _ rfl) (part_of (by kernel_rfl)) U41 rfl S41) <| ?_
 try simp only [pS]
 refine uR (pV wk2.heap.size 0) (wk2.alloc (.cells (Sp.cells spZ) 41)) (exec_alloc 41 rfl (Sp.cells spZ) Z41) ?_
 try simp only [pS]
 have HF : Hid _ := HF.out.alloc 41 (Sp.cells spZ)
 generalize wk2.alloc (.cells (Sp.cells spZ) 41) = wk4 at HF ⊢
 generalize wk2.heap.size = gk3 at HF ⊢
 refine uT 41 ⟨gk3, 0, none⟩ (.agg (Sp.cells spZ)) (wk4.setRow gk3 (Sp.cells spZ)) (rs (Sp.cs spZ) (Sp.cs spZ) (Sp.cs spZ) (HF.out.box 1 _ _ _ rfl) S41 (Sp.oneL _)) ?_
 try simp only [pS]
 have HF : Hid _ := HF.out.set 1 rfl (Sp.cells spZ)
 generalize wk4.setRow gk3 (Sp.cells spZ) = wk5 at HF ⊢
 refine WL.nil ?_
 try simp only [pS]
 go_upto_region 2 with fail
 refine WL.start <| uK (pV gk1 0) <| uL 4 ⟨gk1, 0, none⟩ (.bool false) (ld1 (HF.out.box 0 _ _ _ rfl) 0 U4 rfl) <| WL.nil <| ?_
 try simp only [pS]
 go_upto_region 4 with fail
 refine WL.start <| uL 41 ⟨gk3, 0, none⟩ (.agg (Sp.cells spZ)) (run_load_part (cs := Sp.cs spZ) (sub := Sp.cs spZ) (HF.out.box 1 _ _ _ rfl) (Part.all _) U41 rfl S41) <| uW (.agg (Sp.cells spZ)) (exec_build 41 _ rfl (Sp.cells spZ) (by kernel_rfl)) <| uB .eql 41 (.agg (Sp.cells spZ)) (.agg (Sp.cells spZ)) (.bool true) (by rw [eqS_eql, eqS_refl]) <| WL.nil <| ?_
 try simp only [pS]
 go_upto_region 5 with fail
 refine wp_region_held_drew (S := fun w' => Box w' gk1 109 (Dv.cells ⟨false, cl, beg, en, da, ⟨er, enZ, slZ, ra, 0, spZ, 0⟩⟩)) rfl (HF.out.drew.box 0 _ _ _ rfl) (fun hH => ?_)
 have HF : Hid _ := HF.out.drew
 generalize wk5.drew = wk6 at HF hH ⊢
 refine xV 0 28 (pV gk1 5) hH <| xV 1 29 (pV gk1 11) hH <| xL 2 30 25 ⟨gk1, 11, none⟩ ra.v (fun _ hw => ld1 hw 11 U25 rfl) hH <| ?_
 try simp only [pS]
 refine xP 3 31 (.slice (some ⟨wk6.heap.size, 0, none⟩) 3 3) (w' := wk6.alloc (.cells #[.int .u8 0, .int .u8 0, .int .u8 0] 5)) (exec_make 25 _ _ rfl (.int .i64 3) (.int .i64 3) (by kernel_rfl) (by kernel_rfl) (make_by3 _)) ((hH.alloc _)) (fun hH => ?_)
 try simp only [pS]
 have HZ : Hid (By (wk6.alloc (.cells #[.int .u8 0, .int .u8 0, .int .u8 0] 5)) n0 ⟨some ⟨wk6.heap.size, 0, none⟩, 3, 3⟩ [0, 0, 0]) := by_new wk6 n0
 have HF : Hid (Rg w (wk6.alloc (.cells #[.int .u8 0, .int .u8 0, .int .u8 0] 5)) n0 J b v x mp I H U D L [(gk1, 109, Dv.cells ⟨false, cl, beg, en, da, ⟨er, enZ, slZ, ra, 0, spZ, 0⟩⟩), (gk3, 41, Sp.cells spZ)] [(ra, [0, 0, 0])]) := HF.out.no ((Kept.refl No _).alloc _)
 generalize hgz : wk6.heap.size = gz at HZ ⊢
 clear hgz
 generalize wk6.alloc (.cells #[.int .u8 0, .int .u8 0, .int .u8 0] 5) = wk7 at HF HZ hH ⊢
 refine xC 4 32 17 #[ra.v, .slice (some ⟨gz, 0, none⟩) 3 3] (same_by (t := ⟨some ⟨gz, 0, none⟩, 3, 3⟩) (HF.out.qs 0 _ rfl) HZ.out) ?_
 rintro e wk8 ⟨rfl, hk⟩
 have hH2 : Box wk8 gk1 109 (Dv.cells ⟨false, cl, beg, en, da, ⟨er, enZ, slZ, ra, 0, spZ, 0⟩⟩) := (hH.kept hk (fun e => e))
 have HF : Hid _ := HF.out.no hk
 clear hk
 refine ⟨.bool true, by rw [eqB_refl], hH2, fun hH => ?_⟩
 clear hH2
 try simp only [pS]
 refine xV 5 4 (.bool true) hH ?_
 try simp only [pS]
 refine wpAnyH_done (by kernel_rfl) ?_ _
 try simp only [pS]
 clear hH
 go_wp2
 rw [HC.out]
 exact ⟨rfl, HF.out.kept⟩
set_option maxRecDepth 100000 in
set_option maxHeartbeats 4000000 in
theorem rests_l (n0 : Nat) (J : Nat → Prop) (b : Nat) (v : Wv) (x : Wd) (mp : Nat → Option Nat) (I : Nat → Nat → Prop) (H : List Bl) (U : List Mg) (D : List Dv) (L : List Lv) (cl beg en er : Int) (da ra : Sl) (st : Sp) (rz : List Int) (w : World) (j : Nat) (dj : Dd) (hW : WA w n0 J b v x mp I H U D L) (hz : By w n0 ra rz) (hs0 : eqS st spZ = false) (hdj : x.ds[j]? = some dj) (hjw : dj.wr = true) (hjc : dj.cl = st.c) (hjz : dj.z = rz) (hjb : dj.beg ≤ en) (hjo : dj.en = 0 ∨ dj.er ≠ 0 ∨ dj.st = st) (hdl : x.ds.length ≤ 1000000000) : Calls Try.prog 43 #[.pointer (some ⟨b, 0, none⟩), .agg (Dv.cells ⟨false, cl, beg, en, da, ⟨er, enZ, slZ, ra, 0, st, 0⟩⟩)] w (TrR w) := by
 refine hideC fun C HC => ?_
 have hxd : x.ds.length = v.ds.l := by rw [hW.pt.ds.1, hW.dl]
 have hjl := (List.getElem?_eq_some_iff.1 hdj).1
 obtain ⟨gd, hgd⟩ := own_at hW.ds (by omega)
 have HBz : Hid (By w n0 ra rz) := hz
 have HF : Hid (Rg w w n0 J b v x mp I H U D L [] [(ra, rz)]) := Rg.start hW (fun y hy => by rw [List.mem_singleton.1 hy]; exact hz)
 clear hW hz
 go_enter Try.func43, Try.ntmps43
 go_upto_region 0 with fail
 refine WL.start ?_
 refine uR (pV w.heap.size 0) (w.alloc (.cells (Dv.cells ⟨false, cl, beg, en, da, ⟨er, enZ, slZ, ra, 0, st, 0⟩⟩) 109)) (exec_box 109 _ rfl (Dv.cells ⟨false, cl, beg, en, da, ⟨er, enZ, slZ, ra, 0, st, 0⟩⟩) (by kernel_rfl)) ?_
 try simp only [pS]
 have HF : Hid _ := HF.out.alloc 109 (Dv.cells ⟨false, cl, beg, en, da, ⟨er, enZ, slZ, ra, 0, st, 0⟩⟩)
 generalize w.alloc (.cells (Dv.cells ⟨false, cl, beg, en, da, ⟨er, enZ, slZ, ra, 0, st, 0⟩⟩) 109) = wk2 at HF ⊢
 generalize w.heap.size = gk1 at HF ⊢
 refine uK (.bool false) <| WL.nil <| ?_
 try simp only [pS]
 go_upto_region 1 with fail
 refine WL.start <| uK (pV gk1 5) <| uK (pV gk1 13) <| uL 41 ⟨gk1, 13, none⟩ (.agg (Sp.cells st)) (run_load_part (cs := Dv.cs ⟨false, cl, beg, en, da, ⟨er, enZ, slZ, ra, 0, st, 0⟩⟩) (sub := Sp.cs st) (HF.out.box 0 _ _ _ rfl) (part_of (by kernel_rfl)) U41 rfl S41) <| ?_
 try simp only [pS]
 refine uR (pV wk2.heap.size 0) (wk2.alloc (.cells (Sp.cells spZ) 41)) (exec_alloc 41 rfl (Sp.cells spZ) Z41) ?_
 try simp only [pS]
 have HF : Hid _ := HF.out.alloc 41 (Sp.cells spZ)
 generalize wk2.alloc (.cells (Sp.cells spZ) 41) = wk4 at HF ⊢
 generalize wk2.heap.size = gk3 at HF ⊢
 refine uT 41 ⟨gk3, 0, none⟩ (.agg (Sp.cells st)) (wk4.setRow gk3 (Sp.cells st)) (rs (Sp.cs spZ) (Sp.cs st) (Sp.cs st) (HF.out.box 1 _ _ _ rfl) S41 (Sp.oneL _)) ?_
 try simp only [pS]
 have HF : Hid _ := HF.out.set 1 rfl (Sp.cells st)
 generalize wk4.setRow gk3 (Sp.cells st) = wk5 at HF ⊢
 refine WL.nil ?_
 try simp only [pS]
 go_upto_region 2 with fail
 refine WL.start <| uK (pV gk1 0) <| uL 4 ⟨gk1, 0, none⟩ (.bool false) (ld1 (HF.out.box 0 _ _ _ rfl) 0 U4 rfl) <| WL.nil <| ?_
 try simp only [pS]
 go_upto_region 4 with fail
 refine WL.start <| uL 41 ⟨gk3, 0, none⟩ (.agg (Sp.cells st)) (run_load_part (cs := Sp.cs st) (sub := Sp.cs st) (HF.out.box 1 _ _ _ rfl) (Part.all _) U41 rfl S41) <| uW (.agg (Sp.cells spZ)) (exec_build 41 _ rfl (Sp.cells spZ) (by kernel_rfl)) <| uB .eql 41 (.agg (Sp.cells st)) (.agg (Sp.cells spZ)) (.bool false) (by rw [eqS_eql, hs0]) <| WL.nil <| ?_
 try simp only [pS]
 go_upto_region 6 with fail
 refine WL.start <| uK (.int .i64 0) <| WL.nil <| ?_
 try simp only [pS]
 go_wp2
 go_loopw [6] (fun v6 wr => ∃ i : Nat, v6 = .int .i64 ((i : Nat) : Int) ∧ i ≤ j ∧ Hid (Rg w wr n0 J b v x mp I H U D L [(gk1, 109, Dv.cells ⟨false, cl, beg, en, da, ⟨er, enZ, slZ, ra, 0, st, 0⟩⟩), (gk3, 41, Sp.cells st)] [(ra, rz)])) (fun i _ => v.ds.l - (intOf i).toNat)
 case atStart => exact ⟨0, by go_num, by omega, HF⟩
 case round =>
  clear HF
  obtain ⟨i, rfl, hi, HF⟩ := hrel
  obtain ⟨pi, hpi⟩ : ∃ pi, x.ds[i]? = some pi := ⟨_, List.getElem?_eq_getElem (by omega)⟩
  obtain ⟨e, hei, hed⟩ := HF.out.wa0.pt.ds.at hpi
  have hwr : e.wr = pi.wr := by rw [hed.e]
  have hcl : e.cl = pi.cl := by rw [hed.e]
  have hbg : e.beg = pi.beg := by rw [hed.e]
  have hen : e.en = pi.en := by rw [hed.e]
  have her : e.r.er = pi.er := by rw [hed.e]
  have hes : e.r.st = pi.st := by rw [hed.e]
  have heb := hed.b
  clear hed
  have HF : Hid (Rg w wr n0 J b v x mp I H U D L [(gk1, 109, Dv.cells ⟨false, cl, beg, en, da, ⟨er, enZ, slZ, ra, 0, st, 0⟩⟩), (gk3, 41, Sp.cells st)] [(ra, rz), (e.da, pi.z)]) := HF.out.setQ (fun y hy => by
   rcases List.mem_cons.1 hy with rfl | hy
   · exact HBz.out
   · rw [List.mem_singleton.1 hy]; exact heb)
  clear heb
  go_upto_region 7 with fail
  refine WL.start <| uK (.int .i64 ((i : Nat) : Int)) <| uK (pV b 0) <| uK (pV b 0) <| uK (pV b 7) <| uL 72 ⟨b, 7, none⟩ (v.ds.v) (ld1 HF.out.wbox 7 U72 rfl) <| uK (.int .i64 ((v.ds.l : Nat) : Int)) <| uB .lss 3 (.int .i64 ((i : Nat) : Int)) (.int .i64 ((v.ds.l : Nat) : Int)) (.bool true) (by rw [b_lss, decide_eq_true (by omega)]) <| WL.nil <| ?_
  try simp only [pS]
  go_upto_region 9 with fail
  refine WL.start <| uK (pV b 0) <| uK (pV b 0) <| uK (pV b 7) <| uL 72 ⟨b, 7, none⟩ (v.ds.v) (ld1 HF.out.wbox 7 U72 rfl) <| uK (.int .i64 ((i : Nat) : Int)) <| uW (pV gd (0 + i * 16)) (exec_ixS 72 16 E72 F72 _ _ rfl hgd (by omega)) <| uL 109 ⟨gd, 0 + i * 16, none⟩ (.agg (Dv.cells e)) ((load_part (n := 0) (own_cell HF.out.wa.ds hgd (dvL_c D) (by decide) hei) (part_of (off := 0) (sub := Dv.cs e) (by kernel_rfl)) U109 rfl S109)) <| ?_
  try simp only [pS]
  refine uR (pV wr.heap.size 0) (wr.alloc (.cells (Dv.cells dvZ) 109)) (exec_alloc 109 rfl (Dv.cells dvZ) Z109) ?_
  try simp only [pS]
  have HF : Hid _ := HF.out.alloc 109 (Dv.cells dvZ)
  generalize wr.alloc (.cells (Dv.cells dvZ) 109) = wk7 at HF ⊢
  generalize wr.heap.size = gk6 at HF ⊢
  refine uT 109 ⟨gk6, 0, none⟩ (.agg (Dv.cells e)) (wk7.setRow gk6 (Dv.cells e)) (rs (Dv.cs dvZ) (Dv.cs e) (Dv.cs e) (HF.out.box 2 _ _ _ rfl) S109 (Dv.oneL _)) ?_
  try simp only [pS]
  have HF : Hid _ := HF.out.set 2 rfl (Dv.cells e)
  generalize wk7.setRow gk6 (Dv.cells e) = wk8 at HF ⊢
  refine WL.nil ?_
  try simp only [pS]
  go_upto_region 10 with fail
  refine WL.start <| uK (pV gk6 0) <| uL 4 ⟨gk6, 0, none⟩ (.bool e.wr) (ld1 (HF.out.box 2 _ _ _ rfl) 0 U4 rfl) <| ?_
  try simp only [pS]
  cases q1 : (e.wr)
  ·skip
   try simp only [q1]
   refine uK (.bool true) <| uK (.bool true) <| uZ <| uZ <| uZ <| uZ <| uZ <| uK (.bool true) <| uK (.bool true) <| uZ <| uZ <| uZ <| uZ <| uZ <| uZ <| uZ <| uK (.bool true) <| uK (.bool true) <| uZ <| uZ <| uZ <| uZ <| uZ <| uK (.bool true) <| WL.nil <| ?_
   try simp only [pS]
   have hij : i + 1 ≤ j := by
    rcases Nat.lt_or_ge i j with h | h
    · exact h
    · exfalso
      have e1 : i = j := by omega
      subst e1
      have e2 : pi = dj := Option.some.inj (hpi.symm.trans hdj)
      subst e2
      rw [hwr, hjw] at q1
      cases q1
   have HF : Hid (Rg w wk8 n0 J b v x mp I H U D L [(gk1, 109, Dv.cells ⟨false, cl, beg, en, da, ⟨er, enZ, slZ, ra, 0, st, 0⟩⟩), (gk3, 41, Sp.cells st)] [(ra, rz)]) := (Rg.front (l := [(gk1, 109, Dv.cells ⟨false, cl, beg, en, da, ⟨er, enZ, slZ, ra, 0, st, 0⟩⟩), (gk3, 41, Sp.cells st)]) HF.out).setQ (fun y hy => by rw [List.mem_singleton.1 hy]; exact HBz.out)
   go_upto_region 8 with fail
   refine WL.start <| uK (.int .i64 ((i : Nat) : Int)) <| uB .add 3 (.int .i64 ((i : Nat) : Int)) (.int .i64 1) (.int .i64 (((i + 1) : Nat) : Int)) (b_addw _ _ _ (by rw [IntKind.wrap_i64]; omega) _) <| uK (.int .i64 (((i + 1) : Nat) : Int)) <| WL.nil <| ?_
   try simp only [pS]
   go_wp2
   go_roundw
   case rel => exact ⟨i + 1, by go_num, hij, HF⟩
   case measure => simp [intOf]; omega
  ·skip
   try simp only [q1]
   refine uK (.bool false) <| uK (.bool false) <| uK (pV gk6 1) <| uL 3 ⟨gk6, 1, none⟩ (.int .i64 e.cl) (ld1 (HF.out.box 2 _ _ _ rfl) 1 U3 rfl) <| uK (pV gk3 1) <| uL 3 ⟨gk3, 1, none⟩ (.int .i64 st.c) (ld1 (HF.out.box 1 _ _ _ rfl) 1 U3 rfl) <| ?_
   try simp only [pS]
   cases q2 : (e.cl == st.c)
   ·skip
    refine uB .neq 3 (.int .i64 e.cl) (.int .i64 st.c) (.bool true) (by rw [b_neq, q2]; try rfl) <| uK (.bool true) <| uK (.bool true) <| uZ <| uZ <| uZ <| uZ <| uZ <| uZ <| uZ <| uK (.bool true) <| uK (.bool true) <| uZ <| uZ <| uZ <| uZ <| uZ <| uK (.bool true) <| WL.nil <| ?_
    try simp only [pS]
    have hij : i + 1 ≤ j := by
     rcases Nat.lt_or_ge i j with h | h
     · exact h
     · exfalso
       have e1 : i = j := by omega
       subst e1
       have e2 : pi = dj := Option.some.inj (hpi.symm.trans hdj)
       subst e2
       rw [hcl, hjc, beq_self_eq_true] at q2
       cases q2
    have HF : Hid (Rg w wk8 n0 J b v x mp I H U D L [(gk1, 109, Dv.cells ⟨false, cl, beg, en, da, ⟨er, enZ, slZ, ra, 0, st, 0⟩⟩), (gk3, 41, Sp.cells st)] [(ra, rz)]) := (Rg.front (l := [(gk1, 109, Dv.cells ⟨false, cl, beg, en, da, ⟨er, enZ, slZ, ra, 0, st, 0⟩⟩), (gk3, 41, Sp.cells st)]) HF.out).setQ (fun y hy => by rw [List.mem_singleton.1 hy]; exact HBz.out)
    go_upto_region 8 with fail
    refine WL.start <| uK (.int .i64 ((i : Nat) : Int)) <| uB .add 3 (.int .i64 ((i : Nat) : Int)) (.int .i64 1) (.int .i64 (((i + 1) : Nat) : Int)) (b_addw _ _ _ (by rw [IntKind.wrap_i64]; omega) _) <| uK (.int .i64 (((i + 1) : Nat) : Int)) <| WL.nil <| ?_
    try simp only [pS]
    go_wp2
    go_roundw
    case rel => exact ⟨i + 1, by go_num, hij, HF⟩
    case measure => simp [intOf]; omega
   ·skip
    refine uB .neq 3 (.int .i64 e.cl) (.int .i64 st.c) (.bool false) (by rw [b_neq, q2]; try rfl) <| uK (.bool false) <| uK (.bool false) <| uK (pV gk6 4) <| uL 25 ⟨gk6, 4, none⟩ (e.da.v) (ld1 (HF.out.box 2 _ _ _ rfl) 4 U25 rfl) <| uK (pV gk1 5) <| uK (pV gk1 11) <| uL 25 ⟨gk1, 11, none⟩ (ra.v) (ld1 (HF.out.box 0 _ _ _ rfl) 11 U25 rfl) <| ?_
    try simp only [pS]
    refine uC 17 #[e.da.v, ra.v] (same_by (HF.out.qs 1 _ rfl) (HF.out.qs 0 _ rfl)) ?_
    rintro e wk9 ⟨rfl, hk⟩
    have HF : Hid _ := HF.out.no hk
    clear hk
    refine ⟨.bool (eqB pi.z rz), rfl, ?_⟩
    try simp only [pS]
    cases q3 : ((eqB pi.z rz))
    ·skip
     try simp only [q3]
     refine uK (.bool true) <| uK (.bool true) <| uK (.bool true) <| uZ <| uZ <| uZ <| uZ <| uZ <| uK (.bool true) <| WL.nil <| ?_
     try simp only [pS]
     have hij : i + 1 ≤ j := by
      rcases Nat.lt_or_ge i j with h | h
      · exact h
      · exfalso
        have e1 : i = j := by omega
        subst e1
        have e2 : pi = dj := Option.some.inj (hpi.symm.trans hdj)
        subst e2
        rw [eqB_eq hjz] at q3
        cases q3
     have HF : Hid (Rg w wk9 n0 J b v x mp I H U D L [(gk1, 109, Dv.cells ⟨false, cl, beg, en, da, ⟨er, enZ, slZ, ra, 0, st, 0⟩⟩), (gk3, 41, Sp.cells st)] [(ra, rz)]) := (Rg.front (l := [(gk1, 109, Dv.cells ⟨false, cl, beg, en, da, ⟨er, enZ, slZ, ra, 0, st, 0⟩⟩), (gk3, 41, Sp.cells st)]) HF.out).setQ (fun y hy => by rw [List.mem_singleton.1 hy]; exact HBz.out)
     go_upto_region 8 with fail
     refine WL.start <| uK (.int .i64 ((i : Nat) : Int)) <| uB .add 3 (.int .i64 ((i : Nat) : Int)) (.int .i64 1) (.int .i64 (((i + 1) : Nat) : Int)) (b_addw _ _ _ (by rw [IntKind.wrap_i64]; omega) _) <| uK (.int .i64 (((i + 1) : Nat) : Int)) <| WL.nil <| ?_
     try simp only [pS]
     go_wp2
     go_roundw
     case rel => exact ⟨i + 1, by go_num, hij, HF⟩
     case measure => simp [intOf]; omega
    ·skip
     try simp only [q3]
     refine uK (.bool false) <| uK (.bool false) <| uK (.bool false) <| uK (pV gk6 2) <| uL 3 ⟨gk6, 2, none⟩ (.int .i64 e.beg) (ld1 (HF.out.box 2 _ _ _ rfl) 2 U3 rfl) <| uK (pV gk1 3) <| uL 3 ⟨gk1, 3, none⟩ (.int .i64 en) (ld1 (HF.out.box 0 _ _ _ rfl) 3 U3 rfl) <| ?_
     try simp only [pS]
     cases q4 : (decide (en < e.beg))
     ·skip
      refine uB .gtr 3 (.int .i64 e.beg) (.int .i64 en) (.bool false) (by rw [b_gtr, q4]; try rfl) <| uK (.bool false) <| WL.nil <| ?_
      try simp only [pS]
      go_upto_region 11 with fail
      refine WL.start <| uK (pV gk6 3) <| uL 3 ⟨gk6, 3, none⟩ (.int .i64 e.en) (ld1 (HF.out.box 2 _ _ _ rfl) 3 U3 rfl) <| ?_
      try simp only [pS]
      cases q5 : (e.en == 0)
      ·skip
       refine uB .eql 3 (.int .i64 e.en) (.int .i64 0) (.bool false) (by rw [b_eql, q5]; try rfl) <| uK (.bool false) <| uK (pV gk6 5) <| uK (pV gk6 5) <| uL 86 ⟨gk6, 5, none⟩ (.int .i64 e.r.er) (ld1 (HF.out.box 2 _ _ _ rfl) 5 U86 rfl) <| ?_
       try simp only [pS]
       cases q6 : (e.r.er == 0)
       ·skip
        refine uB .neq 86 (.int .i64 e.r.er) (.int .i64 0) (.bool true) (by rw [b_neq86, q6]; try rfl) <| uK (.bool true) <| uK (.bool true) <| uZ <| uZ <| uZ <| uZ <| uZ <| uK (.bool true) <| WL.nil <| ?_
        try simp only [pS]
        go_upto_region 12 with fail
        refine WL.start <| uK (.bool true) <| WL.nil <| ?_
        try simp only [pS]
        go_wp2
        rw [HC.out]
        exact ⟨rfl, HF.out.kept⟩
       ·skip
        refine uB .neq 86 (.int .i64 e.r.er) (.int .i64 0) (.bool false) (by rw [b_neq86, q6]; try rfl) <| uK (.bool false) <| uK (.bool false) <| uK (pV gk6 5) <| uK (pV gk6 13) <| uL 41 ⟨gk6, 13, none⟩ (.agg (Sp.cells e.r.st)) (run_load_part (cs := Dv.cs e) (sub := Sp.cs e.r.st) (HF.out.box 2 _ _ _ rfl) (part_of (by kernel_rfl)) U41 rfl S41) <| uL 41 ⟨gk3, 0, none⟩ (.agg (Sp.cells st)) (run_load_part (cs := Sp.cs st) (sub := Sp.cs st) (HF.out.box 1 _ _ _ rfl) (Part.all _) U41 rfl S41) <| ?_
        try simp only [pS]
        cases q7 : (eqS e.r.st st)
        ·skip
         refine uB .eql 41 (.agg (Sp.cells e.r.st)) (.agg (Sp.cells st)) (.bool false) (by rw [eqS_eql, q7]; try rfl) <| uK (.bool false) <| WL.nil <| ?_
         try simp only [pS]
         have hij : i + 1 ≤ j := by
          rcases Nat.lt_or_ge i j with h | h
          · exact h
          · exfalso
            have e1 : i = j := by omega
            subst e1
            have e2 : pi = dj := Option.some.inj (hpi.symm.trans hdj)
            subst e2
            rcases hjo with h4 | h4 | h4
            · rw [hen, h4] at q5
              cases q5
            · exact h4 (by rw [← her]; exact beq_iff_eq.1 q6)
            · rw [hes, h4, eqS_refl] at q7
              cases q7
         have HF : Hid (Rg w wk9 n0 J b v x mp I H U D L [(gk1, 109, Dv.cells ⟨false, cl, beg, en, da, ⟨er, enZ, slZ, ra, 0, st, 0⟩⟩), (gk3, 41, Sp.cells st)] [(ra, rz)]) := (Rg.front (l := [(gk1, 109, Dv.cells ⟨false, cl, beg, en, da, ⟨er, enZ, slZ, ra, 0, st, 0⟩⟩), (gk3, 41, Sp.cells st)]) HF.out).setQ (fun y hy => by rw [List.mem_singleton.1 hy]; exact HBz.out)
         go_upto_region 8 with fail
         refine WL.start <| uK (.int .i64 ((i : Nat) : Int)) <| uB .add 3 (.int .i64 ((i : Nat) : Int)) (.int .i64 1) (.int .i64 (((i + 1) : Nat) : Int)) (b_addw _ _ _ (by rw [IntKind.wrap_i64]; omega) _) <| uK (.int .i64 (((i + 1) : Nat) : Int)) <| WL.nil <| ?_
         try simp only [pS]
         go_wp2
         go_roundw
         case rel => exact ⟨i + 1, by go_num, hij, HF⟩
         case measure => simp [intOf]; omega
        ·skip
         refine uB .eql 41 (.agg (Sp.cells e.r.st)) (.agg (Sp.cells st)) (.bool true) (by rw [eqS_eql, q7]; try rfl) <| uK (.bool true) <| WL.nil <| ?_
         try simp only [pS]
         go_upto_region 12 with fail
         refine WL.start <| uK (.bool true) <| WL.nil <| ?_
         try simp only [pS]
         go_wp2
         rw [HC.out]
         exact ⟨rfl, HF.out.kept⟩
      ·skip
       refine uB .eql 3 (.int .i64 e.en) (.int .i64 0) (.bool true) (by rw [b_eql, q5]; try rfl) <| uK (.bool true) <| uZ <| uZ <| uZ <| uZ <| uK (.bool true) <| uK (.bool true) <| uZ <| uZ <| uZ <| uZ <| uZ <| uK (.bool true) <| WL.nil <| ?_
       try simp only [pS]
       go_upto_region 12 with fail
       refine WL.start <| uK (.bool true) <| WL.nil <| ?_
       try simp only [pS]
       go_wp2
       rw [HC.out]
       exact ⟨rfl, HF.out.kept⟩
     ·skip
      refine uB .gtr 3 (.int .i64 e.beg) (.int .i64 en) (.bool true) (by rw [b_gtr, q4]; try rfl) <| uK (.bool true) <| WL.nil <| ?_
      try simp only [pS]
      have hij : i + 1 ≤ j := by
       rcases Nat.lt_or_ge i j with h | h
       · exact h
       · exfalso
         have e1 : i = j := by omega
         subst e1
         have e2 : pi = dj := Option.some.inj (hpi.symm.trans hdj)
         subst e2
         have h1 := of_decide_eq_true q4
         omega
      have HF : Hid (Rg w wk9 n0 J b v x mp I H U D L [(gk1, 109, Dv.cells ⟨false, cl, beg, en, da, ⟨er, enZ, slZ, ra, 0, st, 0⟩⟩), (gk3, 41, Sp.cells st)] [(ra, rz)]) := (Rg.front (l := [(gk1, 109, Dv.cells ⟨false, cl, beg, en, da, ⟨er, enZ, slZ, ra, 0, st, 0⟩⟩), (gk3, 41, Sp.cells st)]) HF.out).setQ (fun y hy => by rw [List.mem_singleton.1 hy]; exact HBz.out)
      go_upto_region 8 with fail
      refine WL.start <| uK (.int .i64 ((i : Nat) : Int)) <| uB .add 3 (.int .i64 ((i : Nat) : Int)) (.int .i64 1) (.int .i64 (((i + 1) : Nat) : Int)) (b_addw _ _ _ (by rw [IntKind.wrap_i64]; omega) _) <| uK (.int .i64 (((i + 1) : Nat) : Int)) <| WL.nil <| ?_
      try simp only [pS]
      go_wp2
      go_roundw
      case rel => exact ⟨i + 1, by go_num, hij, HF⟩
      case measure => simp [intOf]; omega
end Go.Proofs.Ytgiokkcdgoloaaa.Md
