import Derived.Test.YtgiokkcdgoloaaaWAtomic
namespace Go.Proofs.Ytgiokkcdgoloaaa.Md
open Go.RowKit
set_option linter.unusedVariables false
set_option linter.unusedSimpArgs false
theorem ev_n (w : Wd) (k a : Int) (z : List Int) : (evW w k a z).n = w.n := by
 have h1 : ∀ c : Nat, (if k = 1 then begW w c true z else if k = 2 then begW w c false [] else if k = 6 then tickW w c else if k = 7 then { w with gone := upN w.gone c true } else w).n = w.n := fun c => by
  split
  · exact (beg_fix _ _ _ _).2
  · split
    · exact (beg_fix _ _ _ _).2
    · split
      · unfold tickW
        split
        · rfl
        · split
          · rfl
          · exact (Gro.send _ _).n
      · split <;> rfl
 unfold evW
 dsimp only
 have h2 := h1 (rndW a 4)
 generalize (if k = 1 then begW w (rndW a 4) true z else if k = 2 then begW w (rndW a 4) false [] else if k = 6 then tickW w (rndW a 4) else if k = 7 then { w with gone := upN w.gone (rndW a 4) true } else w) = v at h2
 split
 · exact h2
 · split
   · exact h2
   · split
     · exact (Gro.del _ _).n.trans h2
     · split
       · split <;> exact h2
       · exact h2
theorem plW_nn (n : Nat) (es : List (Int × Int × List Int)) : (plW n es).n = n := by
 refine snoc_ind (P := fun es => (plW n es).n = n) rfl (fun l e h => ?_) es
 rw [plW_snoc, ev_n]
 exact h
theorem Wg.kno {w w1 W : World} {n0 : Nat} {J0 J : Nat → Prop} {b : Nat} {v : Wv} {x : Wd} {mp : Nat → Option Nat} {I : Nat → Nat → Prop} {H : List Bl} {U : List Mg} {D : List Dv} {L : List Lv} {l : List (Nat × TypeId × Array Value)} {T : List Rowx} {Q : List (Sl × List Int)} (G : Wg w1 W n0 J0 J b v x mp I H U D L l T Q) (hk : Kept No w w1) (hJ : ∀ k, J0 k → w.heap.size ≤ k) : Kept No w W :=
 hk.trans G.fr.kept (fun _ e => e) (fun k hk e => by have := hJ k e.1; omega)
def Fst (x : Wd) (B : List Bool) (i : Nat) (al : Bool) (fi : Int) : Prop := (fi = -1 ∧ ∀ j, j < i → B[j]? ≠ some true) ∨ ∃ k : Nat, k < i ∧ fi = (k : Int) ∧ (al = true → ∀ j, j < i → B[j]? = some true → (x.held ((j : Int) + 1)).st = (x.held ((k : Int) + 1)).st)
theorem fst_all {x : Wd} {B : List Bool} {n : Nat} {al : Bool} {fi : Int} (h : Fst x B n al fi) (ha : al = true) (hl : B.length = n) (hn : x.n = n) : ∃ t0, ∀ sv, sv ∈ wdG x → upAt B sv = true → (x.held sv).st = t0 := by
 have key : ∀ sv, sv ∈ wdG x → upAt B sv = true → ∃ j : Nat, j < n ∧ sv = (j : Int) + 1 ∧ B[j]? = some true := fun sv h1 h2 => by
  obtain ⟨j, hj, rfl⟩ := mem_wdG h1
  refine ⟨j, by omega, rfl, ?_⟩
  unfold upAt at h2
  rw [decide_eq_true (by omega), decide_eq_true (by omega), show ((j : Int) + 1 - 1).toNat = j by omega, List.getElem?_eq_getElem (by omega)] at h2
  rw [List.getElem?_eq_getElem (by omega)]
  simpa using h2
 rcases h with ⟨_, h⟩ | ⟨k, _, _, h⟩
 · refine ⟨spZ, fun sv h1 h2 => ?_⟩
   obtain ⟨j, hj, _, e⟩ := key sv h1 h2
   exact absurd e (h j hj)
 · refine ⟨(x.held ((k : Int) + 1)).st, fun sv h1 h2 => ?_⟩
   obtain ⟨j, hj, rfl, e⟩ := key sv h1 h2
   exact h ha j hj e
theorem all_true {B : List Bool} {n : Nat} (hl : B.length = n) (h : ∀ j, j < n → B[j]? = some true) : n ≤ B.countP (fun b => b) + 0 := by
 have : B.countP (fun b => b) = B.length := by
  rw [List.countP_eq_length]
  intro a ha
  obtain ⟨i, hi⟩ := List.mem_iff_getElem?.1 ha
  have := (List.getElem?_eq_some_iff.1 hi).1
  rw [h i (by omega)] at hi
  exact (Option.some.inj hi).symm
 omega
set_option maxRecDepth 100000 in
set_option maxHeartbeats 4000000 in
theorem aliveWalk (f cq : Int) (t sd : Sl) (ss : List (Ev × List Int)) (zs : List Int) (w : World) (hS : Scr w w.heap.size t ss) (ht : t.l ≤ 9000000000000000000) (hd : RdI w sd zs) (hdl : sd.l ≤ 9000000000000000000) : Calls Try.prog 6 #[.int .i64 f, t.v, .int .i64 cq, sd.v] w (DnO w) := by
 refine hideC fun C HC => ?_
 have HS : Hid (Scr w w.heap.size t ss) := hS
 have HD : Hid (RdI w sd zs) := hd
 have hzl := hd.len
 obtain ⟨r, hr⟩ : ∃ r, r = rndW f 4 := ⟨_, rfl⟩
 have hr4 : r < 4 := by rw [hr]; exact (rnd_mod f 4 (by omega)).2
 have HC41 : Hid (∀ w, Calls Try.prog 41 #[.int .i64 f] w (SownO w (2 * r + 1))) := fun w => by rw [hr]; exact sown_any f w
 obtain ⟨c, hcc⟩ : ∃ c, c = rndW cq 4 := ⟨_, rfl⟩
 have hc : c < 4 := by rw [hcc]; exact (rnd_mod cq 4 (by omega)).2
 have hrc : ∀ W : World, Calls Try.prog 20 #[.int .i64 cq, .int .i64 4] W (fun e w' => e = .returned (.int .i64 ((c : Nat) : Int)) ∧ w' = W) := fun W => by rw [hcc]; exact round_any cq 4 W (by decide) (by decide)
 obtain ⟨⟨G0, T0, hI⟩, hQ0⟩ := plW_n (2 * r + 1) (by omega) _ (tri (ss.take 600)) rfl
 have hQ : QB 1200 4200 600 600 (plW (2 * r + 1) (tri (ss.take 600))) := hQ0.mono (by have := atomic_len ss; omega) (by have := atomic_len ss; omega) (atomic_len ss) (atomic_len ss)
 have hxn := plW_nn (2 * r + 1) (tri (ss.take 600))
 clear hr hcc hQ0 hS hd
 go_enter Try.func6, Try.ntmps6
 have HF : Hid (Fq No w w []) := Fq.start _ _
 go_upto_region 0 with fail
 refine WL.start <| uK (.bool false) <| WL.nil <| ?_
 try simp only [pS]
 go_upto_region 1 with fail
 refine WL.start <| uK (.int .i64 f) <| uK (t.v) <| ?_
 try simp only [pS]
 refine uC 18 #[.int .i64 f, t.v] (played_any f (2 * r + 1) t ss w (HC41.out w) (by omega) HS.out ht) ?_
 rintro e w1 ⟨b, J0, rfl, hW, hk⟩
 have HK1 : Hid (Kept No w w1) := HF.out.kept.then hk
 have hJ0 : ∀ k, J0 k → w.heap.size ≤ k := hW.n0J
 obtain ⟨x, hx⟩ : ∃ x, x = plW (2 * r + 1) (tri (ss.take 600)) := ⟨_, rfl⟩
 rw [← hx] at hW hI hQ hxn
 clear hx hk
 obtain ⟨v, mp, I, H, U, D, L, hA⟩ := hW
 have hgp1 : v.gp.l ≤ 2 * r + 1 := by have := hA.gpl; omega
 have hgp2 : 2 * r + 1 ≤ v.gp.l := by have := hA.gpl; omega
 have hxn1 : x.n ≤ 2 * r + 1 := by omega
 have hxn2 : 2 * r + 1 ≤ x.n := by omega
 clear hxn
 have hgl := hA.gl
 obtain ⟨gg, hgg⟩ := own_at hA.gn (by omega)
 have HF : Hid (Wg w1 w1 w.heap.size J0 J0 b v x mp I H U D L [] [] []) := Wg.start hA
 clear hA
 refine ⟨.pointer (some ⟨b, 0, none⟩), rfl, ?_⟩
 try simp only [pS]
 refine uK (pV b 0) <| WL.nil <| ?_
 try simp only [pS]
 go_upto_region 2 with fail
 refine WL.start <| uK (.int .i64 cq) <| ?_
 try simp only [pS]
 refine uC 20 #[.int .i64 cq, .int .i64 4] (hrc _) ?_
 rintro e wq ⟨rfl, hwq⟩
 rw [hwq]
 clear hwq wq
 refine ⟨.int .i64 ((c : Nat) : Int), rfl, ?_⟩
 try simp only [pS]
 refine uK (.int .i64 ((c : Nat) : Int)) <| WL.nil <| ?_
 try simp only [pS]
 go_upto_region 3 with fail
 refine WL.start <| uK (pV b 0) <| uK (pV b 0) <| uK (pV b 6) <| ?_
 try simp only [pS]
 obtain ⟨J2a, hG, hdj⟩ := HF.out.cutU
 refine uT 71 ⟨b, 6, none⟩ (.slice none 0 0) (w1.setRow b (Wv.cells ⟨v.gp, v.hd, v.mm, v.aa, v.rr, v.gn, slZ, v.ds, v.ls, v.now, v.br⟩)) (rs (Wv.cs v) ([.slice none 0 0]) (Wv.cs ⟨v.gp, v.hd, v.mm, v.aa, v.rr, v.gn, slZ, v.ds, v.ls, v.now, v.br⟩) (HF.out.wbox) S71 (by simp [Value.oneCell', Sl.v])) ?_
 try simp only [pS]
 have HF : Hid (Wg w1 (w1.setRow b (Wv.cells ⟨v.gp, v.hd, v.mm, v.aa, v.rr, v.gn, slZ, v.ds, v.ls, v.now, v.br⟩)) w.heap.size J0 J2a b ⟨v.gp, v.hd, v.mm, v.aa, v.rr, v.gn, slZ, v.ds, v.ls, v.now, v.br⟩ ({ x with un := [] }) mp I H ([]) D L [] [(v.un, 52, 30, mgL U)] []) := hG
 try clear hG
 generalize w1.setRow b (Wv.cells ⟨v.gp, v.hd, v.mm, v.aa, v.rr, v.gn, slZ, v.ds, v.ls, v.now, v.br⟩) = wk1 at HF ⊢
 have HF : Hid (Wg w1 wk1 w.heap.size J0 J2a b ⟨v.gp, v.hd, v.mm, v.aa, v.rr, v.gn, slZ, v.ds, v.ls, v.now, v.br⟩ ({ x with un := [] }) mp I H ([]) D L [] [] []) := HF.out.pick (fun y hy => List.mem_append_left _ hy) (fun _ h => h)
 refine WL.nil ?_
 try simp only [pS]
 go_upto_region 4 with fail
 refine WL.start <| uK (pV b 0) <| uK (pV b 0) <| uK (pV b 0) <| uL 24 ⟨b, 0, none⟩ (v.gp.v) (ld1 HF.out.wbox 0 U24 rfl) <| uK (.int .i64 ((v.gp.l : Nat) : Int)) <| ?_
 try simp only [pS]
 refine uR (.slice (some ⟨wk1.heap.size, 0, none⟩) v.gp.l v.gp.l) (wk1.alloc (.cells (bnL (List.replicate v.gp.l false)).toArray 4)) (exec_make 70 _ _ rfl (.int .i64 ((v.gp.l : Nat) : Int)) (.int .i64 ((v.gp.l : Nat) : Int)) (by kernel_rfl) (by kernel_rfl) (make_bl _ v.gp.l (by omega))) ?_
 try simp only [pS]
 obtain ⟨hG, hgs⟩ := HF.out.madeB v.gp.l (by omega)
 have HF : Hid (Wg w1 (wk1.alloc (.cells (bnL (List.replicate v.gp.l false)).toArray 4)) w.heap.size J0 J2a b ⟨v.gp, v.hd, v.mm, v.aa, v.rr, v.gn, slZ, v.ds, v.ls, v.now, v.br⟩ ({ x with un := [] }) mp I H ([]) D L [] [(⟨some ⟨wk1.heap.size, 0, none⟩, v.gp.l, v.gp.l⟩, 4, 1, bnL (List.replicate v.gp.l false))] []) := hG
 clear hG
 generalize (wk1.alloc (.cells (bnL (List.replicate v.gp.l false)).toArray 4)) = wk2 at HF ⊢
 generalize wk1.heap.size = gs at HF hgs ⊢
 have hsb : ∀ k, At (⟨some ⟨gs, 0, none⟩, v.gp.l, v.gp.l⟩ : Sl).a k → w1.heap.size ≤ k := fun k e => by rw [at_blk e]; exact hgs
 refine uK (.slice (some ⟨gs, 0, none⟩) v.gp.l v.gp.l) <| WL.nil <| ?_
 try simp only [pS]
 go_upto_region 5 with fail
 refine WL.start <| uK (.int .i64 0) <| WL.nil <| ?_
 try simp only [pS]
 go_wp2
 go_loopw [11] (fun v11 wr => ∃ (i : Nat) (B : List Bool), v11 = .int .i64 ((i : Nat) : Int) ∧ i ≤ v.gp.l ∧ B.length = v.gp.l ∧ (∀ j, j < i → B[j]? = some true) ∧ Hid (Wg w1 wr w.heap.size J0 J2a b ⟨v.gp, v.hd, v.mm, v.aa, v.rr, v.gn, slZ, v.ds, v.ls, v.now, v.br⟩ ({ x with un := [] }) mp I H ([]) D L [] [(⟨some ⟨gs, 0, none⟩, v.gp.l, v.gp.l⟩, 4, 1, bnL B)] [])) (fun i _ => v.gp.l - (intOf i).toNat)
 case atStart => exact ⟨0, List.replicate v.gp.l false, by go_num, by omega, List.length_replicate .., fun j hj => absurd hj (by omega), HF⟩
 case round =>
  rename World => wo
  clear HF
  obtain ⟨i, B, rfl, hi, hBl, hBt, HF⟩ := hrel
  by_cases hlt : i < v.gp.l
  · skip
    go_upto_region 6 with fail
    refine WL.start <| uK (.int .i64 ((i : Nat) : Int)) <| uK (.slice (some ⟨gs, 0, none⟩) v.gp.l v.gp.l) <| uK (.int .i64 ((v.gp.l : Nat) : Int)) <| uB .lss 3 (.int .i64 ((i : Nat) : Int)) (.int .i64 ((v.gp.l : Nat) : Int)) (.bool true) (by rw [b_lss, decide_eq_true (by omega)]) <| WL.nil <| ?_
    try simp only [pS]
    go_upto_region 8 with fail
    refine WL.start <| uK (.slice (some ⟨gs, 0, none⟩) v.gp.l v.gp.l) <| uK (.int .i64 ((i : Nat) : Int)) <| uW (pV gs (0 + i * 1)) (exec_ixA 70 1 E70 F70 _ _ rfl gs 0 v.gp.l v.gp.l i (Eq.trans (b := .slice (some ⟨gs, 0, none⟩) v.gp.l v.gp.l) (by kernel_rfl) (sl_v (s := ⟨(some ⟨gs, 0, none⟩), v.gp.l, v.gp.l⟩) rfl)) (by kernel_rfl) (by omega)) <| ?_
    try simp only [pS]
    obtain ⟨csb, hst, hG⟩ := HF.out.setB hsb rfl (i := i) (show _ < v.gp.l by omega) true
    refine uT 4 ⟨gs, 0 + i * 1, none⟩ (.bool true) (wo.setRow gs csb) hst ?_
    try simp only [pS]
    have HF : Hid (Wg w1 (wo.setRow gs csb) w.heap.size J0 J2a b ⟨v.gp, v.hd, v.mm, v.aa, v.rr, v.gn, slZ, v.ds, v.ls, v.now, v.br⟩ ({ x with un := [] }) mp I H ([]) D L [] [(⟨some ⟨gs, 0, none⟩, v.gp.l, v.gp.l⟩, 4, 1, bnL (B.set i true))] []) := hG
    clear hG hst
    generalize wo.setRow gs csb = wk3 at HF ⊢
    refine WL.nil ?_
    try simp only [pS]
    go_upto_region 7 with fail
    refine WL.start <| uK (.int .i64 ((i : Nat) : Int)) <| uB .add 3 (.int .i64 ((i : Nat) : Int)) (.int .i64 1) (.int .i64 (((i + 1) : Nat) : Int)) (b_addw _ _ _ (by rw [IntKind.wrap_i64]; omega) _) <| uK (.int .i64 (((i + 1) : Nat) : Int)) <| WL.nil <| ?_
    try simp only [pS]
    go_wp2
    go_roundw
    case rel =>
     refine ⟨i + 1, B.set i true, by go_num, by omega, by rw [List.length_set]; exact hBl, fun j hj => ?_, HF⟩
     rw [List.getElem?_set]
     split
     · rw [if_pos (by omega)]
     · exact hBt j (by omega)
    case measure => simp [intOf]; omega
  · skip
    have hcnt := all_true hBl (fun j hj => hBt j (by omega))
    clear hBt
    go_upto_region 6 with fail
    refine WL.start <| uK (.int .i64 ((i : Nat) : Int)) <| uK (.slice (some ⟨gs, 0, none⟩) v.gp.l v.gp.l) <| uK (.int .i64 ((v.gp.l : Nat) : Int)) <| uB .lss 3 (.int .i64 ((i : Nat) : Int)) (.int .i64 ((v.gp.l : Nat) : Int)) (.bool false) (by rw [b_lss, decide_eq_false (by omega)]) <| WL.nil <| ?_
    try simp only [pS]
    go_upto_region 9 with fail
    refine WL.start <| uK (.int .i64 0) <| WL.nil <| ?_
    try simp only [pS]
    go_wp2
    go_loopw [12] (fun v12 wr => ∃ (i : Nat) (B : List Bool), v12 = .int .i64 ((i : Nat) : Int) ∧ i ≤ sd.l ∧ i ≤ v.gp.l / 2 ∧ B.length = v.gp.l ∧ v.gp.l ≤ B.countP (fun b => b) + i ∧ Hid (Wg w1 wr w.heap.size J0 J2a b ⟨v.gp, v.hd, v.mm, v.aa, v.rr, v.gn, slZ, v.ds, v.ls, v.now, v.br⟩ ({ x with un := [] }) mp I H ([]) D L [] [(⟨some ⟨gs, 0, none⟩, v.gp.l, v.gp.l⟩, 4, 1, bnL B)] [])) (fun i _ => sd.l - (intOf i).toNat)
    case atStart => exact ⟨0, B, by go_num, by omega, by omega, hBl, hcnt, HF⟩
    case round =>
     rename World => wi
     clear HF hBl hcnt
     rename_i i' _ _
     obtain ⟨i, B, rfl, hi, hi2, hBl, hcnt, HF⟩ := hrel
     by_cases hl1 : i < sd.l
     · by_cases hl2 : i < v.gp.l / 2
       · obtain ⟨ab, aoff, haa, hac⟩ := HD.out.row i (by omega)
         obtain ⟨z, hz⟩ : ∃ z, z = zs[i]?.getD 0 := ⟨_, rfl⟩
         rw [← hz] at hac
         have HAc : Hid (w.cell? ⟨ab, aoff + i * 1, none⟩ = some (.int .i64 z)) := by rw [Nat.mul_one]; exact hac
         obtain ⟨rk, hrk⟩ : ∃ rk, rk = rndW z v.gp.l := ⟨_, rfl⟩
         have hrl : rk < v.gp.l := by rw [hrk]; exact (rnd_mod z v.gp.l (by omega)).2
         have hrn : ∀ W : World, Calls Try.prog 20 #[.int .i64 z, .int .i64 ((v.gp.l : Nat) : Int)] W (fun e w' => e = .returned (.int .i64 ((rk : Nat) : Int)) ∧ w' = W) := fun W => by rw [hrk]; exact round_any z v.gp.l W (by omega) (by omega)
         clear hac hz hrk
         go_upto_region 10 with fail
         refine WL.start <| uK (.int .i64 ((i : Nat) : Int)) <| uK (sd.v) <| uK (.int .i64 ((sd.l : Nat) : Int)) <| uB .lss 3 (.int .i64 ((i : Nat) : Int)) (.int .i64 ((sd.l : Nat) : Int)) (.bool true) (by rw [b_lss, decide_eq_true (by omega)]) <| uK (.bool true) <| uK (.int .i64 ((i : Nat) : Int)) <| uK (pV b 0) <| uK (pV b 0) <| uK (pV b 0) <| uL 24 ⟨b, 0, none⟩ (v.gp.v) (ld1 HF.out.wbox 0 U24 rfl) <| uK (.int .i64 ((v.gp.l : Nat) : Int)) <| uB .quo 3 (.int .i64 ((v.gp.l : Nat) : Int)) (.int .i64 2) (.int .i64 (((v.gp.l / 2) : Nat) : Int)) (b_quo2 _ (by omega) _) <| uB .lss 3 (.int .i64 ((i : Nat) : Int)) (.int .i64 (((v.gp.l / 2) : Nat) : Int)) (.bool true) (by rw [b_lss, decide_eq_true (by omega)]) <| uK (.bool true) <| WL.nil <| ?_
         try simp only [pS]
         go_upto_region 12 with fail
         refine WL.start <| uK (.slice (some ⟨gs, 0, none⟩) v.gp.l v.gp.l) <| uK (sd.v) <| uK (.int .i64 ((i : Nat) : Int)) <| uW (pV ab (aoff + i * 1)) (exec_ixS 24 1 E24 F24 _ _ rfl haa (by omega)) <| uL 3 ⟨ab, aoff + i * 1, none⟩ (.int .i64 z) (load_one ((Wg.kno HF.out HK1.out hJ0).cell HAc.out (fun e => e)) U3 rfl) <| uK (.slice (some ⟨gs, 0, none⟩) v.gp.l v.gp.l) <| uK (.int .i64 ((v.gp.l : Nat) : Int)) <| ?_
         try simp only [pS]
         refine uC 20 #[.int .i64 z, .int .i64 ((v.gp.l : Nat) : Int)] (hrn _) ?_
         rintro e wq ⟨rfl, hwq⟩
         rw [hwq]
         clear hwq wq
         refine ⟨.int .i64 ((rk : Nat) : Int), rfl, ?_⟩
         try simp only [pS]
         refine uW (pV gs (0 + rk * 1)) (exec_ixA 70 1 E70 F70 _ _ rfl gs 0 v.gp.l v.gp.l rk (Eq.trans (b := .slice (some ⟨gs, 0, none⟩) v.gp.l v.gp.l) (by kernel_rfl) (sl_v (s := ⟨(some ⟨gs, 0, none⟩), v.gp.l, v.gp.l⟩) rfl)) (by kernel_rfl) (by omega)) ?_
         try simp only [pS]
         obtain ⟨csb, hst, hG⟩ := HF.out.setB hsb rfl (i := rk) (show _ < v.gp.l by omega) false
         refine uT 4 ⟨gs, 0 + rk * 1, none⟩ (.bool false) (wi.setRow gs csb) hst ?_
         try simp only [pS]
         have HF : Hid (Wg w1 (wi.setRow gs csb) w.heap.size J0 J2a b ⟨v.gp, v.hd, v.mm, v.aa, v.rr, v.gn, slZ, v.ds, v.ls, v.now, v.br⟩ ({ x with un := [] }) mp I H ([]) D L [] [(⟨some ⟨gs, 0, none⟩, v.gp.l, v.gp.l⟩, 4, 1, bnL (B.set rk false))] []) := hG
         clear hG hst
         generalize wi.setRow gs csb = wk4 at HF ⊢
         refine WL.nil ?_
         try simp only [pS]
         go_upto_region 11 with fail
         refine WL.start <| uK (.int .i64 ((i : Nat) : Int)) <| uB .add 3 (.int .i64 ((i : Nat) : Int)) (.int .i64 1) (.int .i64 (((i + 1) : Nat) : Int)) (b_addw _ _ _ (by rw [IntKind.wrap_i64]; omega) _) <| uK (.int .i64 (((i + 1) : Nat) : Int)) <| WL.nil <| ?_
         try simp only [pS]
         go_wp2
         go_roundw
         case rel => exact ⟨i + 1, B.set rk false, by go_num, by omega, by omega, by rw [List.length_set]; exact hBl, by have := set_count B rk; omega, HF⟩
         case measure => simp [intOf]; omega
       · skip
         have hcn2 : v.gp.l ≤ B.countP (fun b => b) + v.gp.l / 2 := by omega
         obtain ⟨hIa, hQa, hga, hua⟩ := aliX_ok hI hQ c
         go_upto_region 10 with fail
         refine WL.start <| uK (.int .i64 ((i : Nat) : Int)) <| uK (sd.v) <| uK (.int .i64 ((sd.l : Nat) : Int)) <| uB .lss 3 (.int .i64 ((i : Nat) : Int)) (.int .i64 ((sd.l : Nat) : Int)) (.bool true) (by rw [b_lss, decide_eq_true (by omega)]) <| uK (.bool true) <| uK (.int .i64 ((i : Nat) : Int)) <| uK (pV b 0) <| uK (pV b 0) <| uK (pV b 0) <| uL 24 ⟨b, 0, none⟩ (v.gp.v) (ld1 HF.out.wbox 0 U24 rfl) <| uK (.int .i64 ((v.gp.l : Nat) : Int)) <| uB .quo 3 (.int .i64 ((v.gp.l : Nat) : Int)) (.int .i64 2) (.int .i64 (((v.gp.l / 2) : Nat) : Int)) (b_quo2 _ (by omega) _) <| uB .lss 3 (.int .i64 ((i : Nat) : Int)) (.int .i64 (((v.gp.l / 2) : Nat) : Int)) (.bool false) (by rw [b_lss, decide_eq_false (by omega)]) <| uK (.bool false) <| WL.nil <| ?_
         try simp only [pS]
         go_upto_region 13 with fail
         refine WL.start <| uK (pV b 0) <| uK (pV b 0) <| uK (pV b 5) <| uL 70 ⟨b, 5, none⟩ (v.gn.v) (ld1 HF.out.wbox 5 U70 rfl) <| uK (.int .i64 ((c : Nat) : Int)) <| uW (pV gg (0 + c * 1)) (exec_ixS 70 1 E70 F70 _ _ rfl hgg (by omega)) <| ?_
         try simp only [pS]
         obtain ⟨csg, J2g, hst, hG⟩ := HF.out.setG hgg hc false
         refine uT 4 ⟨gg, 0 + c * 1, none⟩ (.bool false) (wi.setRow gg csg) hst ?_
         try simp only [pS]
         have HF : Hid (Wg w1 (wi.setRow gg csg) w.heap.size J0 J2g b ⟨v.gp, v.hd, v.mm, v.aa, v.rr, v.gn, slZ, v.ds, v.ls, v.now, v.br⟩ (aliX x c) mp I H ([]) D L [] [(⟨some ⟨gs, 0, none⟩, v.gp.l, v.gp.l⟩, 4, 1, bnL B)] []) := hG
         clear hG hst
         generalize wi.setRow gg csg = wk5 at HF ⊢
         refine WL.nil ?_
         try simp only [pS]
         have hml : v.mm.l = 4 := HF.out.wa.ml
         obtain ⟨gm, hgm⟩ := own_at HF.out.wa.mm (show 0 < v.mm.l by omega)
         have hgm : v.mm.a = some ⟨gm, 0, none⟩ := hgm
         cases hm : (aliX x c).m c with
         | some u =>
          obtain ⟨m, hmp, hM⟩ := HF.out.wa.wl.mc c u hm
          clear hM
          go_upto_region 14 with fail
          refine WL.start <| uK (pV b 0) <| uK (pV b 0) <| uK (pV b 2) <| uL 69 ⟨b, 2, none⟩ (v.mm.v) (ld1 HF.out.wbox 2 U69 rfl) <| uK (.int .i64 ((c : Nat) : Int)) <| uW (pV gm (0 + c * 1)) (exec_ixS 69 1 E69 F69 _ _ rfl hgm (by omega)) <| uL 31 ⟨gm, 0 + c * 1, none⟩ (.iface 115 (pV m 0)) (load_one ((HF.out.wa.mmc hgm hc).trans (by rw [hmp]; rfl)) U31 V31) <| uB .eql 31 (.iface 115 (pV m 0)) (.nilIface) (.bool false) (eql31_f _ _) <| WL.nil <| ?_
          try simp only [pS]
          have hIb := hIa
          have hQb : QB 1202 4207 601 601 (aliX x c) := hQa.mono (by omega) (by omega) (by omega) (by omega)
          have hgb := hga
          have hub := hua
          have hnb : (aliX x c).n = v.gp.l := by show x.n = _; omega
          have hhu : (aliX x c).n / 2 + 1 ≤ (wdG (aliX x c)).countP (fun sv => upAt B sv) := half_up (r := r) (n := v.gp.l) (by omega) hcn2 hnb hBl
          obtain ⟨XB, hXB⟩ : ∃ XB, XB = (aliX x c) := ⟨_, rfl⟩
          rw [← hXB] at HF hIb hQb hgb hub hnb hhu
          clear hXB
          have hub0 : XB.un.length = 0 := by rw [hub]; rfl
          go_upto_region 29 with fail
          refine WL.start <| uK (pV b 0) <| uK (.int .i64 ((c : Nat) : Int)) <| uK (.slice (some ⟨gs, 0, none⟩) v.gp.l v.gp.l) <| ?_
          try simp only [pS]
          refine uC 22 #[pV b 0, .int .i64 ((c : Nat) : Int), .slice (some ⟨gs, 0, none⟩) v.gp.l v.gp.l] (exch_any w.heap.size J2g b XB c ⟨some ⟨gs, 0, none⟩, v.gp.l, v.gp.l⟩ B 1202 4207 601 601 _ ⟨_, _, _, _, _, _, _, HF.out.wa⟩ (HF.out.tl 0 _ rfl) (fun k e => HF.out.tj 0 _ k rfl e) hBl (show v.gp.l = _ by omega) hc ⟨_, _, hIb⟩ hgb hQb (by omega) (by omega) (by omega) (by omega) (by omega)) ?_
          rintro e wk6 ⟨rfl, Js, ⟨vs, mps, Is, Hs, Us, Ds, Ls, hAs⟩, hup⟩
          have HF : Hid _ := HF.out.upd hAs hup
          clear hAs hup
          refine ⟨.tuple #[], rfl, ?_⟩
          try simp only [pS]
          refine WL.nil ?_
          try simp only [pS]
          obtain ⟨⟨T3, hI2⟩, hQ2, hg2, hl2, hn2⟩ := exX_ok (up := B) (c := c) w hIb hQb hgb (by omega) (fun _ => trivial)
          go_upto_region 30 with fail
          refine WL.start <| uK (pV b 0) <| uK (.int .i64 ((c : Nat) : Int)) <| uK (.slice (some ⟨gs, 0, none⟩) v.gp.l v.gp.l) <| ?_
          try simp only [pS]
          refine uC 22 #[pV b 0, .int .i64 ((c : Nat) : Int), .slice (some ⟨gs, 0, none⟩) v.gp.l v.gp.l] (exch_any w.heap.size Js b (exW XB c B) c ⟨some ⟨gs, 0, none⟩, v.gp.l, v.gp.l⟩ B 1602 5607 801 801 _ ⟨_, _, _, _, _, _, _, HF.out.wa⟩ (HF.out.tl 0 _ rfl) (fun k e => HF.out.tj 0 _ k rfl e) hBl (show v.gp.l = _ by omega) hc ⟨_, _, hI2⟩ hg2 hQ2 (by omega) (by omega) (by omega) (by omega) (by omega)) ?_
          rintro e wk7 ⟨rfl, Jt, ⟨vt, mpt, It, Ht, Ut, Dt, Lt, hAt⟩, hup⟩
          have HF : Hid _ := HF.out.upd hAt hup
          clear hAt hup
          refine ⟨.tuple #[], rfl, ?_⟩
          try simp only [pS]
          refine WL.nil ?_
          try simp only [pS]
          have hm3 : (exW (exW XB c B) c B).m c = none := two_ex hIb hgb hub hQb.n hhu
          have hRt := exX_right (up := B) (c := c) hIb hQb hgb hub
          have hDs : (exW (exW XB c B) c B).ds.length ≤ 1000000000 := by have := ds_len (up := B) (c := c) w hIb hQb hgb hub; omega
          have hml2 := HF.out.wa.ml
          obtain ⟨gm2, hgm2⟩ := own_at HF.out.wa.mm (by omega)
          have hmp2 := HF.out.wa.wl.mn c hm3
          go_upto_region 31 with fail
          refine WL.start <| uK (pV b 0) <| uK (pV b 0) <| uK (pV b 2) <| uL 69 ⟨b, 2, none⟩ (vt.mm.v) (ld1 HF.out.wbox 2 U69 rfl) <| uK (.int .i64 ((c : Nat) : Int)) <| uW (pV gm2 (0 + c * 1)) (exec_ixS 69 1 E69 F69 _ _ rfl hgm2 (by omega)) <| uL 31 ⟨gm2, 0 + c * 1, none⟩ (.nilIface) (load_one ((HF.out.wa.mmc hgm2 hc).trans (by rw [hmp2]; rfl)) U31 V31) <| uB .eql 31 (.nilIface) (.nilIface) (.bool true) (eql31_t _) <| uK (.bool true) <| uK (pV b 0) <| ?_
          try simp only [pS]
          refine uC 19 #[pV b 0] (right_any _ _ b _ _ _ _ _ _ _ _ _ HF.out.wa hRt hDs) ?_
          rintro e wk8 ⟨rfl, hk⟩
          have HF : Hid _ := HF.out.no hk
          clear hk
          refine ⟨.bool true, rfl, ?_⟩
          try simp only [pS]
          refine uK (.bool true) <| uK (.bool true) <| ?_
          try simp only [pS]
          refine uC 9 #[] (head_any _) ?_
          rintro e wk9 ⟨rfl, hk⟩
          have HF : Hid _ := HF.out.no hk
          clear hk
          refine ⟨.bool true, rfl, ?_⟩
          try simp only [pS]
          refine uK (.bool true) <| uK (.bool true) <| WL.nil <| ?_
          try simp only [pS]
          set_option maxRecDepth 1000000 in
          go_wp2
          rw [HC.out]
          exact ⟨rfl, Wg.kno HF.out HK1.out hJ0⟩
         | none =>
          have hmp := HF.out.wa.wl.mn c hm
          go_upto_region 14 with fail
          refine WL.start <| uK (pV b 0) <| uK (pV b 0) <| uK (pV b 2) <| uL 69 ⟨b, 2, none⟩ (v.mm.v) (ld1 HF.out.wbox 2 U69 rfl) <| uK (.int .i64 ((c : Nat) : Int)) <| uW (pV gm (0 + c * 1)) (exec_ixS 69 1 E69 F69 _ _ rfl hgm (by omega)) <| uL 31 ⟨gm, 0 + c * 1, none⟩ (.nilIface) (load_one ((HF.out.wa.mmc hgm hc).trans (by rw [hmp]; rfl)) U31 V31) <| uB .eql 31 (.nilIface) (.nilIface) (.bool true) (eql31_t _) <| WL.nil <| ?_
          try simp only [pS]
          clear hmp hgm hml
          go_upto_region 15 with fail
          refine WL.start <| uK (pV b 0) <| uK (.int .i64 ((c : Nat) : Int)) <| ?_
          try simp only [pS]
          refine uC 21 #[pV b 0, .int .i64 ((c : Nat) : Int), .bool false, .slice none 0 0] (begin_r w.heap.size J2g b (aliX x c) c _ ⟨_, _, _, _, _, _, _, HF.out.wa⟩ hc ⟨hQa.now.1, by have := hQa.now.2; omega⟩ (by have := hQa.ls; omega) (by have := hQa.ds; omega) (by have := hQa.n; omega) ⟨by have := (hQa.rd c).1; omega, by have := (hQa.rd c).2; omega⟩) ?_
          rintro e wk10 ⟨rfl, Jb, ⟨vb, mpb, Ib, Hb, Ub, Db, Lb, hAb⟩, hup⟩
          have HF : Hid _ := HF.out.upd hAb hup
          clear hAb hup
          refine ⟨.tuple #[], rfl, ?_⟩
          try simp only [pS]
          refine WL.nil ?_
          try simp only [pS]
          go_upto_region 16 with fail
          refine WL.start <| uK (pV b 0) <| uK (pV b 0) <| uK (pV b 6) <| ?_
          try simp only [pS]
          obtain ⟨J2b, hG, hdj⟩ := HF.out.cutU
          refine uT 71 ⟨b, 6, none⟩ (.slice none 0 0) (wk10.setRow b (Wv.cells ⟨vb.gp, vb.hd, vb.mm, vb.aa, vb.rr, vb.gn, slZ, vb.ds, vb.ls, vb.now, vb.br⟩)) (rs (Wv.cs vb) ([.slice none 0 0]) (Wv.cs ⟨vb.gp, vb.hd, vb.mm, vb.aa, vb.rr, vb.gn, slZ, vb.ds, vb.ls, vb.now, vb.br⟩) (HF.out.wbox) S71 (by simp [Value.oneCell', Sl.v])) ?_
          try simp only [pS]
          have HF : Hid (Wg w1 (wk10.setRow b (Wv.cells ⟨vb.gp, vb.hd, vb.mm, vb.aa, vb.rr, vb.gn, slZ, vb.ds, vb.ls, vb.now, vb.br⟩)) w.heap.size J0 J2b b ⟨vb.gp, vb.hd, vb.mm, vb.aa, vb.rr, vb.gn, slZ, vb.ds, vb.ls, vb.now, vb.br⟩ ({ (begW (aliX x c) c false []) with un := [] }) mpb Ib Hb ([]) Db Lb [] [(⟨some ⟨gs, 0, none⟩, v.gp.l, v.gp.l⟩, 4, 1, bnL B), (vb.un, 52, 30, mgL Ub)] []) := hG
          try clear hG
          generalize wk10.setRow b (Wv.cells ⟨vb.gp, vb.hd, vb.mm, vb.aa, vb.rr, vb.gn, slZ, vb.ds, vb.ls, vb.now, vb.br⟩) = wk11 at HF ⊢
          have HF : Hid (Wg w1 wk11 w.heap.size J0 J2b b ⟨vb.gp, vb.hd, vb.mm, vb.aa, vb.rr, vb.gn, slZ, vb.ds, vb.ls, vb.now, vb.br⟩ ({ (begW (aliX x c) c false []) with un := [] }) mpb Ib Hb ([]) Db Lb [] [(⟨some ⟨gs, 0, none⟩, v.gp.l, v.gp.l⟩, 4, 1, bnL B)] []) := HF.out.pick (fun y hy => List.mem_append_left _ hy) (fun _ h => h)
          refine WL.nil ?_
          try simp only [pS]
          have HF : Hid (Wg w1 wk11 w.heap.size J0 J2b b ⟨vb.gp, vb.hd, vb.mm, vb.aa, vb.rr, vb.gn, slZ, vb.ds, vb.ls, vb.now, vb.br⟩ (begX (aliX x c) c) mpb Ib Hb ([]) Db Lb [] [(⟨some ⟨gs, 0, none⟩, v.gp.l, v.gp.l⟩, 4, 1, bnL B)] []) := HF
          obtain ⟨⟨G2, T2, hIb0⟩, hQb0, hgb0, hub0, hnb0, s0, X0, hs1, hs2, hs3, hs4⟩ := begX_ok hIa hQa hc hga hm (by omega)
          have hIb := hIb0
          have hQb : QB 1202 4207 601 601 (begX (aliX x c) c) := hQb0
          have hgb := hgb0
          have hub := hub0
          have hnb : (begX (aliX x c) c).n = v.gp.l := by rw [hnb0]; show x.n = _; omega
          clear hIb0 hQb0 hgb0 hub0 hnb0
          have hhu : (begX (aliX x c) c).n / 2 + 1 ≤ (wdG (begX (aliX x c) c)).countP (fun sv => upAt B sv) := half_up (r := r) (n := v.gp.l) (by omega) hcn2 hnb hBl
          obtain ⟨XB, hXB⟩ : ∃ XB, XB = (begX (aliX x c) c) := ⟨_, rfl⟩
          rw [← hXB] at HF hIb hQb hgb hub hnb hhu hs1
          clear hXB
          have hub0 : XB.un.length = 0 := by rw [hub]; rfl
          go_upto_region 17 with fail
          refine WL.start <| uK (.bool true) <| WL.nil <| ?_
          try simp only [pS]
          go_upto_region 18 with fail
          refine WL.start <| uK (.int .i64 (-1)) <| WL.nil <| ?_
          try simp only [pS]
          go_upto_region 19 with fail
          refine WL.start <| uK (.int .i64 0) <| WL.nil <| ?_
          try simp only [pS]
          have hhl : (hdsW XB).length = v.gp.l := by rw [← hnb]; simp [hdsW]
          have hhn := HF.out.wa.hn
          obtain ⟨gh, hgh⟩ := own_at HF.out.wa.hd (by omega)
          go_wp2
          go_loopw [13, 14, 15] (fun v13 v14 v15 wr => ∃ (i : Nat) (al : Bool) (fi : Int), v13 = .bool al ∧ v14 = .int .i64 fi ∧ v15 = .int .i64 ((i : Nat) : Int) ∧ i ≤ v.gp.l ∧ Fst XB B i al fi ∧ Hid (Wg w1 wr w.heap.size J0 J2b b ⟨vb.gp, vb.hd, vb.mm, vb.aa, vb.rr, vb.gn, slZ, vb.ds, vb.ls, vb.now, vb.br⟩ XB mpb Ib Hb ([]) Db Lb [] [(⟨some ⟨gs, 0, none⟩, v.gp.l, v.gp.l⟩, 4, 1, bnL B)] [])) (fun _ _ i _ => v.gp.l - (intOf i).toNat)
          case atStart => exact ⟨0, true, -1, rfl, rfl, by go_num, by omega, .inl ⟨rfl, fun j hj => absurd hj (by omega)⟩, HF⟩
          case round =>
           rename World => wl
           clear HF
           obtain ⟨i, al, fi, rfl, rfl, rfl, hi3, hF3, HF⟩ := hrel
           by_cases hlt3 : i < v.gp.l
           · skip
             obtain ⟨ub, hub1⟩ : ∃ ub, B[i]? = some ub := ⟨_, List.getElem?_eq_getElem (by omega)⟩
             have hub2 := bnL_get hub1
             obtain ⟨hb1, hhi, hhd1⟩ := HF.out.wa.pt.hd.at (hdsW_at (show i < XB.n by omega))
             have hhs1 := hhd1.s
             clear hhd1
             rcases hF3 with ⟨rfl, hno⟩ | ⟨k, hki, rfl, hal⟩
             · skip
               go_upto_region 20 with fail
               refine WL.start <| uK (.int .i64 ((i : Nat) : Int)) <| uK (.slice (some ⟨gs, 0, none⟩) v.gp.l v.gp.l) <| uK (.int .i64 ((v.gp.l : Nat) : Int)) <| uB .lss 3 (.int .i64 ((i : Nat) : Int)) (.int .i64 ((v.gp.l : Nat) : Int)) (.bool true) (by rw [b_lss, decide_eq_true (by omega)]) <| WL.nil <| ?_
               try simp only [pS]
               go_upto_region 22 with fail
               refine WL.start <| uK (.slice (some ⟨gs, 0, none⟩) v.gp.l v.gp.l) <| uK (.int .i64 ((i : Nat) : Int)) <| uW (pV gs (0 + i * 1)) (exec_ixA 70 1 E70 F70 _ _ rfl gs 0 v.gp.l v.gp.l i (Eq.trans (b := .slice (some ⟨gs, 0, none⟩) v.gp.l v.gp.l) (by kernel_rfl) (sl_v (s := ⟨(some ⟨gs, 0, none⟩), v.gp.l, v.gp.l⟩) rfl)) (by kernel_rfl) (by omega)) <| uL 4 ⟨gs, 0 + i * 1, none⟩ (.bool ub) (load_one (own_c1 (show Own 4 1 _ 0 (⟨some ⟨gs, 0, none⟩, v.gp.l, v.gp.l⟩ : Sl).a _ _ (bnL B) from HF.out.tl 0 _ rfl) rfl hub2) U4 rfl) <| uK (.bool ub) <| ?_
               try simp only [pS]
               cases q1 : (ub)
               ·skip
                try simp only [q1]
                refine uZ <| uZ <| uK (.bool false) <| WL.nil <| ?_
                try simp only [pS]
                go_upto_region 24 with fail
                refine wp_region_held_drew (S := fun w' => Wg w1 w' w.heap.size J0 J2b b ⟨vb.gp, vb.hd, vb.mm, vb.aa, vb.rr, vb.gn, slZ, vb.ds, vb.ls, vb.now, vb.br⟩ XB mpb Ib Hb ([]) Db Lb [] [(⟨some ⟨gs, 0, none⟩, v.gp.l, v.gp.l⟩, 4, 1, bnL B)] []) rfl (HF.out.drew) (fun hH => ?_)
                have HF : Hid _ := HF.out.drew
                generalize wl.drew = wk12 at HF hH ⊢
                refine xV 0 99 (.slice (some ⟨gs, 0, none⟩) v.gp.l v.gp.l) hH <| xV 1 100 (.int .i64 ((i : Nat) : Int)) hH <| xU 2 101 (pV gs (0 + i * 1)) (fun w' hw => exec_ixA 70 1 E70 F70 _ _ rfl gs 0 v.gp.l v.gp.l i (Eq.trans (b := .slice (some ⟨gs, 0, none⟩) v.gp.l v.gp.l) (by kernel_rfl) (sl_v (s := ⟨(some ⟨gs, 0, none⟩), v.gp.l, v.gp.l⟩) rfl)) (by kernel_rfl) (by omega)) hH <| xL 3 102 4 ⟨gs, 0 + i * 1, none⟩ (.bool ub) (fun _ hw => load_one (own_c1 (show Own 4 1 _ 0 (⟨some ⟨gs, 0, none⟩, v.gp.l, v.gp.l⟩ : Sl).a _ _ (bnL B) from hw.tl 0 _ rfl) rfl hub2) U4 rfl) hH <| xV 4 103 (.bool ub) hH <| ?_
                try simp only [pS]
                try simp only [q1]
                refine xZ 5 104 hH <| xZ 6 105 hH <| xZ 7 106 hH <| xZ 8 107 hH <| xZ 9 108 hH <| xZ 10 109 hH <| xZ 11 110 hH <| xZ 12 111 hH <| xZ 13 112 hH <| xZ 14 113 hH <| xZ 15 114 hH <| xZ 16 115 hH <| xZ 17 116 hH <| xZ 18 117 hH <| xZ 19 118 hH <| xZ 20 119 hH <| ?_
                try simp only [pS]
                refine xZ 21 120 hH <| xV 22 121 (.bool false) hH <| ?_
                try simp only [pS]
                refine wpAnyH_done (by kernel_rfl) ?_ _
                try simp only [pS]
                clear hH
                go_upto_region 21 with fail
                refine WL.start <| uK (.int .i64 ((i : Nat) : Int)) <| uB .add 3 (.int .i64 ((i : Nat) : Int)) (.int .i64 1) (.int .i64 (((i + 1) : Nat) : Int)) (b_addw _ _ _ (by rw [IntKind.wrap_i64]; omega) _) <| uK (.int .i64 (((i + 1) : Nat) : Int)) <| WL.nil <| ?_
                try simp only [pS]
                go_wp2
                go_roundw
                case rel => exact ⟨i + 1, al, (-1), rfl, rfl, by go_num, by omega, (.inl ⟨rfl, fun j hj e => by
                 rcases Nat.lt_or_ge j i with h | h
                 · exact hno j h e
                 · rw [show j = i by omega, hub1, q1] at e
                   cases e⟩), HF⟩
                case measure => simp [intOf]; omega
               ·skip
                try simp only [q1]
                refine uK (.int .i64 (-1)) <| uB .lss 3 (.int .i64 (-1)) (.int .i64 0) (.bool true) (by rw [b_lss]; rfl) <| uK (.bool true) <| WL.nil <| ?_
                try simp only [pS]
                go_upto_region 23 with fail
                refine WL.start <| uK (.int .i64 ((i : Nat) : Int)) <| uK (.int .i64 ((i : Nat) : Int)) <| WL.nil <| ?_
                try simp only [pS]
                go_upto_region 24 with fail
                refine wp_region_held_drew (S := fun w' => Wg w1 w' w.heap.size J0 J2b b ⟨vb.gp, vb.hd, vb.mm, vb.aa, vb.rr, vb.gn, slZ, vb.ds, vb.ls, vb.now, vb.br⟩ XB mpb Ib Hb ([]) Db Lb [] [(⟨some ⟨gs, 0, none⟩, v.gp.l, v.gp.l⟩, 4, 1, bnL B)] []) rfl (HF.out.drew) (fun hH => ?_)
                have HF : Hid _ := HF.out.drew
                generalize wl.drew = wk13 at HF hH ⊢
                refine xV 0 99 (.slice (some ⟨gs, 0, none⟩) v.gp.l v.gp.l) hH <| xV 1 100 (.int .i64 ((i : Nat) : Int)) hH <| xU 2 101 (pV gs (0 + i * 1)) (fun w' hw => exec_ixA 70 1 E70 F70 _ _ rfl gs 0 v.gp.l v.gp.l i (Eq.trans (b := .slice (some ⟨gs, 0, none⟩) v.gp.l v.gp.l) (by kernel_rfl) (sl_v (s := ⟨(some ⟨gs, 0, none⟩), v.gp.l, v.gp.l⟩) rfl)) (by kernel_rfl) (by omega)) hH <| xL 3 102 4 ⟨gs, 0 + i * 1, none⟩ (.bool ub) (fun _ hw => load_one (own_c1 (show Own 4 1 _ 0 (⟨some ⟨gs, 0, none⟩, v.gp.l, v.gp.l⟩ : Sl).a _ _ (bnL B) from hw.tl 0 _ rfl) rfl hub2) U4 rfl) hH <| xV 4 103 (.bool ub) hH <| ?_
                try simp only [pS]
                try simp only [q1]
                refine xV 5 104 (pV b 0) hH <| xV 6 105 (pV b 0) hH <| xV 7 106 (pV b 1) hH <| xL 8 107 58 ⟨b, 1, none⟩ vb.hd.v (fun _ hw => ld1 hw.wbox 1 U58 rfl) hH <| xV 9 108 (.int .i64 ((i : Nat) : Int)) hH <| xU 10 109 (pV gh (0 + i * 3)) (fun w' hw => exec_ixS 58 3 E58 F58 _ _ rfl hgh (by omega)) hH <| xV 11 110 (pV gh (0 + i * 3)) hH <| xL 12 111 41 ⟨gh, 0 + i * 3, none⟩ (.agg (Sp.cells hb1.s)) (fun _ hw => (load_part (n := 0) (own_cell hw.wa.hd hgh (bkL_c Hb) (by decide) hhi) (part_of (off := 0) (sub := Sp.cs hb1.s) (by kernel_rfl)) U41 rfl S41)) hH <| xV 13 112 (pV b 0) hH <| xV 14 113 (pV b 0) hH <| xV 15 114 (pV b 1) hH <| xL 16 115 58 ⟨b, 1, none⟩ vb.hd.v (fun _ hw => ld1 hw.wbox 1 U58 rfl) hH <| xV 17 116 (.int .i64 ((i : Nat) : Int)) hH <| xU 18 117 (pV gh (0 + i * 3)) (fun w' hw => exec_ixS 58 3 E58 F58 _ _ rfl hgh (by omega)) hH <| xV 19 118 (pV gh (0 + i * 3)) hH <| xL 20 119 41 ⟨gh, 0 + i * 3, none⟩ (.agg (Sp.cells hb1.s)) (fun _ hw => (load_part (n := 0) (own_cell hw.wa.hd hgh (bkL_c Hb) (by decide) hhi) (part_of (off := 0) (sub := Sp.cs hb1.s) (by kernel_rfl)) U41 rfl S41)) hH <| ?_
                try simp only [pS]
                refine xB 21 120 .neq 41 (.agg (Sp.cells hb1.s)) (.agg (Sp.cells hb1.s)) (.bool false) (fun _ _ => by rw [eqS_neq, eqS_refl]; rfl) hH <| xV 22 121 (.bool false) hH <| ?_
                try simp only [pS]
                refine wpAnyH_done (by kernel_rfl) ?_ _
                try simp only [pS]
                clear hH
                go_upto_region 21 with fail
                refine WL.start <| uK (.int .i64 ((i : Nat) : Int)) <| uB .add 3 (.int .i64 ((i : Nat) : Int)) (.int .i64 1) (.int .i64 (((i + 1) : Nat) : Int)) (b_addw _ _ _ (by rw [IntKind.wrap_i64]; omega) _) <| uK (.int .i64 (((i + 1) : Nat) : Int)) <| WL.nil <| ?_
                try simp only [pS]
                go_wp2
                go_roundw
                case rel => exact ⟨i + 1, al, ((i : Nat) : Int), rfl, by go_num, by go_num, by omega, (.inr ⟨i, by omega, rfl, fun _ j hj e => by
                 rcases Nat.lt_or_ge j i with h | h
                 · exact absurd e (hno j h)
                 · rw [show j = i by omega]⟩), HF⟩
                case measure => simp [intOf]; omega
             · skip
               obtain ⟨hb2, hhk, hhd2⟩ := HF.out.wa.pt.hd.at (hdsW_at (show k < XB.n by omega))
               have hhs2 := hhd2.s
               clear hhd2
               go_upto_region 20 with fail
               refine WL.start <| uK (.int .i64 ((i : Nat) : Int)) <| uK (.slice (some ⟨gs, 0, none⟩) v.gp.l v.gp.l) <| uK (.int .i64 ((v.gp.l : Nat) : Int)) <| uB .lss 3 (.int .i64 ((i : Nat) : Int)) (.int .i64 ((v.gp.l : Nat) : Int)) (.bool true) (by rw [b_lss, decide_eq_true (by omega)]) <| WL.nil <| ?_
               try simp only [pS]
               go_upto_region 22 with fail
               refine WL.start <| uK (.slice (some ⟨gs, 0, none⟩) v.gp.l v.gp.l) <| uK (.int .i64 ((i : Nat) : Int)) <| uW (pV gs (0 + i * 1)) (exec_ixA 70 1 E70 F70 _ _ rfl gs 0 v.gp.l v.gp.l i (Eq.trans (b := .slice (some ⟨gs, 0, none⟩) v.gp.l v.gp.l) (by kernel_rfl) (sl_v (s := ⟨(some ⟨gs, 0, none⟩), v.gp.l, v.gp.l⟩) rfl)) (by kernel_rfl) (by omega)) <| uL 4 ⟨gs, 0 + i * 1, none⟩ (.bool ub) (load_one (own_c1 (show Own 4 1 _ 0 (⟨some ⟨gs, 0, none⟩, v.gp.l, v.gp.l⟩ : Sl).a _ _ (bnL B) from HF.out.tl 0 _ rfl) rfl hub2) U4 rfl) <| uK (.bool ub) <| ?_
               try simp only [pS]
               cases q2 : (ub)
               ·skip
                try simp only [q2]
                refine uZ <| uZ <| uK (.bool false) <| WL.nil <| ?_
                try simp only [pS]
                go_upto_region 24 with fail
                refine wp_region_held_drew (S := fun w' => Wg w1 w' w.heap.size J0 J2b b ⟨vb.gp, vb.hd, vb.mm, vb.aa, vb.rr, vb.gn, slZ, vb.ds, vb.ls, vb.now, vb.br⟩ XB mpb Ib Hb ([]) Db Lb [] [(⟨some ⟨gs, 0, none⟩, v.gp.l, v.gp.l⟩, 4, 1, bnL B)] []) rfl (HF.out.drew) (fun hH => ?_)
                have HF : Hid _ := HF.out.drew
                generalize wl.drew = wk14 at HF hH ⊢
                refine xV 0 99 (.slice (some ⟨gs, 0, none⟩) v.gp.l v.gp.l) hH <| xV 1 100 (.int .i64 ((i : Nat) : Int)) hH <| xU 2 101 (pV gs (0 + i * 1)) (fun w' hw => exec_ixA 70 1 E70 F70 _ _ rfl gs 0 v.gp.l v.gp.l i (Eq.trans (b := .slice (some ⟨gs, 0, none⟩) v.gp.l v.gp.l) (by kernel_rfl) (sl_v (s := ⟨(some ⟨gs, 0, none⟩), v.gp.l, v.gp.l⟩) rfl)) (by kernel_rfl) (by omega)) hH <| xL 3 102 4 ⟨gs, 0 + i * 1, none⟩ (.bool ub) (fun _ hw => load_one (own_c1 (show Own 4 1 _ 0 (⟨some ⟨gs, 0, none⟩, v.gp.l, v.gp.l⟩ : Sl).a _ _ (bnL B) from hw.tl 0 _ rfl) rfl hub2) U4 rfl) hH <| xV 4 103 (.bool ub) hH <| ?_
                try simp only [pS]
                try simp only [q2]
                refine xZ 5 104 hH <| xZ 6 105 hH <| xZ 7 106 hH <| xZ 8 107 hH <| xZ 9 108 hH <| xZ 10 109 hH <| xZ 11 110 hH <| xZ 12 111 hH <| xZ 13 112 hH <| xZ 14 113 hH <| xZ 15 114 hH <| xZ 16 115 hH <| xZ 17 116 hH <| xZ 18 117 hH <| xZ 19 118 hH <| xZ 20 119 hH <| ?_
                try simp only [pS]
                refine xZ 21 120 hH <| xV 22 121 (.bool false) hH <| ?_
                try simp only [pS]
                refine wpAnyH_done (by kernel_rfl) ?_ _
                try simp only [pS]
                clear hH
                go_upto_region 21 with fail
                refine WL.start <| uK (.int .i64 ((i : Nat) : Int)) <| uB .add 3 (.int .i64 ((i : Nat) : Int)) (.int .i64 1) (.int .i64 (((i + 1) : Nat) : Int)) (b_addw _ _ _ (by rw [IntKind.wrap_i64]; omega) _) <| uK (.int .i64 (((i + 1) : Nat) : Int)) <| WL.nil <| ?_
                try simp only [pS]
                go_wp2
                go_roundw
                case rel => exact ⟨i + 1, al, ((k : Nat) : Int), rfl, rfl, by go_num, by omega, (.inr ⟨k, by omega, rfl, fun ha j hj e => by
                 rcases Nat.lt_or_ge j i with h | h
                 · exact hal ha j h e
                 · rw [show j = i by omega, hub1, q2] at e
                   cases e⟩), HF⟩
                case measure => simp [intOf]; omega
               ·skip
                try simp only [q2]
                refine uK (.int .i64 ((k : Nat) : Int)) <| uB .lss 3 (.int .i64 ((k : Nat) : Int)) (.int .i64 0) (.bool false) (by rw [b_lss, decide_eq_false (by omega)]) <| uK (.bool false) <| WL.nil <| ?_
                try simp only [pS]
                go_upto_region 24 with fail
                refine wp_region_held_drew (S := fun w' => Wg w1 w' w.heap.size J0 J2b b ⟨vb.gp, vb.hd, vb.mm, vb.aa, vb.rr, vb.gn, slZ, vb.ds, vb.ls, vb.now, vb.br⟩ XB mpb Ib Hb ([]) Db Lb [] [(⟨some ⟨gs, 0, none⟩, v.gp.l, v.gp.l⟩, 4, 1, bnL B)] []) rfl (HF.out.drew) (fun hH => ?_)
                have HF : Hid _ := HF.out.drew
                generalize wl.drew = wk15 at HF hH ⊢
                refine xV 0 99 (.slice (some ⟨gs, 0, none⟩) v.gp.l v.gp.l) hH <| xV 1 100 (.int .i64 ((i : Nat) : Int)) hH <| xU 2 101 (pV gs (0 + i * 1)) (fun w' hw => exec_ixA 70 1 E70 F70 _ _ rfl gs 0 v.gp.l v.gp.l i (Eq.trans (b := .slice (some ⟨gs, 0, none⟩) v.gp.l v.gp.l) (by kernel_rfl) (sl_v (s := ⟨(some ⟨gs, 0, none⟩), v.gp.l, v.gp.l⟩) rfl)) (by kernel_rfl) (by omega)) hH <| xL 3 102 4 ⟨gs, 0 + i * 1, none⟩ (.bool ub) (fun _ hw => load_one (own_c1 (show Own 4 1 _ 0 (⟨some ⟨gs, 0, none⟩, v.gp.l, v.gp.l⟩ : Sl).a _ _ (bnL B) from hw.tl 0 _ rfl) rfl hub2) U4 rfl) hH <| xV 4 103 (.bool ub) hH <| ?_
                try simp only [pS]
                try simp only [q2]
                refine xV 5 104 (pV b 0) hH <| xV 6 105 (pV b 0) hH <| xV 7 106 (pV b 1) hH <| xL 8 107 58 ⟨b, 1, none⟩ vb.hd.v (fun _ hw => ld1 hw.wbox 1 U58 rfl) hH <| xV 9 108 (.int .i64 ((i : Nat) : Int)) hH <| xU 10 109 (pV gh (0 + i * 3)) (fun w' hw => exec_ixS 58 3 E58 F58 _ _ rfl hgh (by omega)) hH <| xV 11 110 (pV gh (0 + i * 3)) hH <| xL 12 111 41 ⟨gh, 0 + i * 3, none⟩ (.agg (Sp.cells hb1.s)) (fun _ hw => (load_part (n := 0) (own_cell hw.wa.hd hgh (bkL_c Hb) (by decide) hhi) (part_of (off := 0) (sub := Sp.cs hb1.s) (by kernel_rfl)) U41 rfl S41)) hH <| xV 13 112 (pV b 0) hH <| xV 14 113 (pV b 0) hH <| xV 15 114 (pV b 1) hH <| xL 16 115 58 ⟨b, 1, none⟩ vb.hd.v (fun _ hw => ld1 hw.wbox 1 U58 rfl) hH <| xV 17 116 (.int .i64 ((k : Nat) : Int)) hH <| xU 18 117 (pV gh (0 + k * 3)) (fun w' hw => exec_ixS 58 3 E58 F58 _ _ rfl hgh (by omega)) hH <| xV 19 118 (pV gh (0 + k * 3)) hH <| xL 20 119 41 ⟨gh, 0 + k * 3, none⟩ (.agg (Sp.cells hb2.s)) (fun _ hw => (load_part (n := 0) (own_cell hw.wa.hd hgh (bkL_c Hb) (by decide) hhk) (part_of (off := 0) (sub := Sp.cs hb2.s) (by kernel_rfl)) U41 rfl S41)) hH <| ?_
                try simp only [pS]
                cases q3 : (eqS hb1.s hb2.s)
                ·skip
                 refine xB 21 120 .neq 41 (.agg (Sp.cells hb1.s)) (.agg (Sp.cells hb2.s)) (.bool true) (fun _ _ => by rw [eqS_neq, q3]; try rfl) hH <| xV 22 121 (.bool true) hH <| ?_
                 try simp only [pS]
                 refine wpAnyH_done (by kernel_rfl) ?_ _
                 try simp only [pS]
                 clear hH
                 go_upto_region 25 with fail
                 refine WL.start <| uK (.bool false) <| WL.nil <| ?_
                 try simp only [pS]
                 go_upto_region 21 with fail
                 refine WL.start <| uK (.int .i64 ((i : Nat) : Int)) <| uB .add 3 (.int .i64 ((i : Nat) : Int)) (.int .i64 1) (.int .i64 (((i + 1) : Nat) : Int)) (b_addw _ _ _ (by rw [IntKind.wrap_i64]; omega) _) <| uK (.int .i64 (((i + 1) : Nat) : Int)) <| WL.nil <| ?_
                 try simp only [pS]
                 go_wp2
                 go_roundw
                 case rel => exact ⟨i + 1, false, ((k : Nat) : Int), rfl, rfl, by go_num, by omega, (.inr ⟨k, by omega, rfl, fun ha => by cases ha⟩), HF⟩
                 case measure => simp [intOf]; omega
                ·skip
                 refine xB 21 120 .neq 41 (.agg (Sp.cells hb1.s)) (.agg (Sp.cells hb2.s)) (.bool false) (fun _ _ => by rw [eqS_neq, q3]; try rfl) hH <| xV 22 121 (.bool false) hH <| ?_
                 try simp only [pS]
                 refine wpAnyH_done (by kernel_rfl) ?_ _
                 try simp only [pS]
                 clear hH
                 go_upto_region 21 with fail
                 refine WL.start <| uK (.int .i64 ((i : Nat) : Int)) <| uB .add 3 (.int .i64 ((i : Nat) : Int)) (.int .i64 1) (.int .i64 (((i + 1) : Nat) : Int)) (b_addw _ _ _ (by rw [IntKind.wrap_i64]; omega) _) <| uK (.int .i64 (((i + 1) : Nat) : Int)) <| WL.nil <| ?_
                 try simp only [pS]
                 go_wp2
                 go_roundw
                 case rel => exact ⟨i + 1, al, ((k : Nat) : Int), rfl, rfl, by go_num, by omega, (.inr ⟨k, by omega, rfl, fun ha j hj e => by
                  rcases Nat.lt_or_ge j i with h | h
                  · exact hal ha j h e
                  · rw [show j = i by omega, ← hhs1, ← hhs2]; exact eqS_iff.1 q3⟩), HF⟩
                 case measure => simp [intOf]; omega
           · skip
             have hin : i = v.gp.l := by omega
             go_upto_region 20 with fail
             refine WL.start <| uK (.int .i64 ((i : Nat) : Int)) <| uK (.slice (some ⟨gs, 0, none⟩) v.gp.l v.gp.l) <| uK (.int .i64 ((v.gp.l : Nat) : Int)) <| uB .lss 3 (.int .i64 ((i : Nat) : Int)) (.int .i64 ((v.gp.l : Nat) : Int)) (.bool false) (by rw [b_lss, decide_eq_false (by omega)]) <| WL.nil <| ?_
             try simp only [pS]
             go_upto_region 26 with fail
             refine WL.start <| uK (pV b 0) <| uK (.int .i64 ((c : Nat) : Int)) <| uK (.slice (some ⟨gs, 0, none⟩) v.gp.l v.gp.l) <| ?_
             try simp only [pS]
             refine uC 22 #[pV b 0, .int .i64 ((c : Nat) : Int), .slice (some ⟨gs, 0, none⟩) v.gp.l v.gp.l] (exch_any w.heap.size J2b b XB c ⟨some ⟨gs, 0, none⟩, v.gp.l, v.gp.l⟩ B 1202 4207 601 601 _ ⟨_, _, _, _, _, _, _, HF.out.wa⟩ (HF.out.tl 0 _ rfl) (fun k e => HF.out.tj 0 _ k rfl e) hBl (show v.gp.l = _ by omega) hc ⟨_, _, hIb⟩ hgb hQb (by omega) (by omega) (by omega) (by omega) (by omega)) ?_
             rintro e wk16 ⟨rfl, Js, ⟨vs, mps, Is, Hs, Us, Ds, Ls, hAs⟩, hup⟩
             have HF : Hid _ := HF.out.upd hAs hup
             clear hAs hup
             refine ⟨.tuple #[], rfl, ?_⟩
             try simp only [pS]
             refine WL.nil ?_
             try simp only [pS]
             obtain ⟨⟨T3, hI2⟩, hQ2, hg2, hl2, hn2⟩ := exX_ok (up := B) (c := c) w hIb hQb hgb (by omega) (fun _ => trivial)
             go_upto_region 27 with fail
             refine WL.start <| uK (.bool al) <| WL.nil <| ?_
             try simp only [pS]
             cases q4 : (al)
             ·skip
              try simp only [q4]
              go_upto_region 30 with fail
              refine WL.start <| uK (pV b 0) <| uK (.int .i64 ((c : Nat) : Int)) <| uK (.slice (some ⟨gs, 0, none⟩) v.gp.l v.gp.l) <| ?_
              try simp only [pS]
              refine uC 22 #[pV b 0, .int .i64 ((c : Nat) : Int), .slice (some ⟨gs, 0, none⟩) v.gp.l v.gp.l] (exch_any w.heap.size Js b (exW XB c B) c ⟨some ⟨gs, 0, none⟩, v.gp.l, v.gp.l⟩ B 1602 5607 801 801 _ ⟨_, _, _, _, _, _, _, HF.out.wa⟩ (HF.out.tl 0 _ rfl) (fun k e => HF.out.tj 0 _ k rfl e) hBl (show v.gp.l = _ by omega) hc ⟨_, _, hI2⟩ hg2 hQ2 (by omega) (by omega) (by omega) (by omega) (by omega)) ?_
              rintro e wk17 ⟨rfl, Jt, ⟨vt, mpt, It, Ht, Ut, Dt, Lt, hAt⟩, hup⟩
              have HF : Hid _ := HF.out.upd hAt hup
              clear hAt hup
              refine ⟨.tuple #[], rfl, ?_⟩
              try simp only [pS]
              refine WL.nil ?_
              try simp only [pS]
              have hm3 : (exW (exW XB c B) c B).m c = none := two_ex hIb hgb hub hQb.n hhu
              have hRt := exX_right (up := B) (c := c) hIb hQb hgb hub
              have hDs : (exW (exW XB c B) c B).ds.length ≤ 1000000000 := by have := ds_len (up := B) (c := c) w hIb hQb hgb hub; omega
              have hml2 := HF.out.wa.ml
              obtain ⟨gm2, hgm2⟩ := own_at HF.out.wa.mm (by omega)
              have hmp2 := HF.out.wa.wl.mn c hm3
              go_upto_region 31 with fail
              refine WL.start <| uK (pV b 0) <| uK (pV b 0) <| uK (pV b 2) <| uL 69 ⟨b, 2, none⟩ (vt.mm.v) (ld1 HF.out.wbox 2 U69 rfl) <| uK (.int .i64 ((c : Nat) : Int)) <| uW (pV gm2 (0 + c * 1)) (exec_ixS 69 1 E69 F69 _ _ rfl hgm2 (by omega)) <| uL 31 ⟨gm2, 0 + c * 1, none⟩ (.nilIface) (load_one ((HF.out.wa.mmc hgm2 hc).trans (by rw [hmp2]; rfl)) U31 V31) <| uB .eql 31 (.nilIface) (.nilIface) (.bool true) (eql31_t _) <| uK (.bool true) <| uK (pV b 0) <| ?_
              try simp only [pS]
              refine uC 19 #[pV b 0] (right_any _ _ b _ _ _ _ _ _ _ _ _ HF.out.wa hRt hDs) ?_
              rintro e wk18 ⟨rfl, hk⟩
              have HF : Hid _ := HF.out.no hk
              clear hk
              refine ⟨.bool true, rfl, ?_⟩
              try simp only [pS]
              refine uK (.bool true) <| uK (.bool true) <| ?_
              try simp only [pS]
              refine uC 9 #[] (head_any _) ?_
              rintro e wk19 ⟨rfl, hk⟩
              have HF : Hid _ := HF.out.no hk
              clear hk
              refine ⟨.bool true, rfl, ?_⟩
              try simp only [pS]
              refine uK (.bool true) <| uK (.bool true) <| WL.nil <| ?_
              try simp only [pS]
              set_option maxRecDepth 1000000 in
              go_wp2
              rw [HC.out]
              exact ⟨rfl, Wg.kno HF.out HK1.out hJ0⟩
             ·skip
              try simp only [q4]
              have hm2 : (exW XB c B).m c = none := by
               rw [hin] at hF3
               obtain ⟨t0, ht0⟩ := fst_all hF3 q4 hBl hnb
               exact one_ex hIb hs1 hs2 hs3 hs4 hgb hub hQb.n hhu ht0
              have hRt := hI2.right
              have hDs : (exW XB c B).ds.length ≤ 1000000000 := by have := hQ2.ds; omega
              have hml2 := HF.out.wa.ml
              obtain ⟨gm2, hgm2⟩ := own_at HF.out.wa.mm (by omega)
              have hmp2 := HF.out.wa.wl.mn c hm2
              go_upto_region 28 with fail
              refine WL.start <| uK (pV b 0) <| uK (pV b 0) <| uK (pV b 2) <| uL 69 ⟨b, 2, none⟩ (vs.mm.v) (ld1 HF.out.wbox 2 U69 rfl) <| uK (.int .i64 ((c : Nat) : Int)) <| uW (pV gm2 (0 + c * 1)) (exec_ixS 69 1 E69 F69 _ _ rfl hgm2 (by omega)) <| uL 31 ⟨gm2, 0 + c * 1, none⟩ (.nilIface) (load_one ((HF.out.wa.mmc hgm2 hc).trans (by rw [hmp2]; rfl)) U31 V31) <| uB .eql 31 (.nilIface) (.nilIface) (.bool true) (eql31_t _) <| uK (.bool true) <| uK (pV b 0) <| ?_
              try simp only [pS]
              refine uC 19 #[pV b 0] (right_any _ _ b _ _ _ _ _ _ _ _ _ HF.out.wa hRt hDs) ?_
              rintro e wk20 ⟨rfl, hk⟩
              have HF : Hid _ := HF.out.no hk
              clear hk
              refine ⟨.bool true, rfl, ?_⟩
              try simp only [pS]
              refine uK (.bool true) <| uK (.bool true) <| ?_
              try simp only [pS]
              refine uC 9 #[] (head_any _) ?_
              rintro e wk21 ⟨rfl, hk⟩
              have HF : Hid _ := HF.out.no hk
              clear hk
              refine ⟨.bool true, rfl, ?_⟩
              try simp only [pS]
              refine uK (.bool true) <| uK (.bool true) <| WL.nil <| ?_
              try simp only [pS]
              set_option maxRecDepth 1000000 in
              go_wp2
              rw [HC.out]
              exact ⟨rfl, Wg.kno HF.out HK1.out hJ0⟩
     · skip
       have hcn2 : v.gp.l ≤ B.countP (fun b => b) + v.gp.l / 2 := by omega
       obtain ⟨hIa, hQa, hga, hua⟩ := aliX_ok hI hQ c
       go_upto_region 10 with fail
       refine WL.start <| uK (.int .i64 ((i : Nat) : Int)) <| uK (sd.v) <| uK (.int .i64 ((sd.l : Nat) : Int)) <| uB .lss 3 (.int .i64 ((i : Nat) : Int)) (.int .i64 ((sd.l : Nat) : Int)) (.bool false) (by rw [b_lss, decide_eq_false (by omega)]) <| uK (.bool false) <| uZ <| uZ <| uZ <| uZ <| uZ <| uZ <| uZ <| uZ <| uK (.bool false) <| WL.nil <| ?_
       try simp only [pS]
       go_upto_region 13 with fail
       refine WL.start <| uK (pV b 0) <| uK (pV b 0) <| uK (pV b 5) <| uL 70 ⟨b, 5, none⟩ (v.gn.v) (ld1 HF.out.wbox 5 U70 rfl) <| uK (.int .i64 ((c : Nat) : Int)) <| uW (pV gg (0 + c * 1)) (exec_ixS 70 1 E70 F70 _ _ rfl hgg (by omega)) <| ?_
       try simp only [pS]
       obtain ⟨csg, J2g, hst, hG⟩ := HF.out.setG hgg hc false
       refine uT 4 ⟨gg, 0 + c * 1, none⟩ (.bool false) (wi.setRow gg csg) hst ?_
       try simp only [pS]
       have HF : Hid (Wg w1 (wi.setRow gg csg) w.heap.size J0 J2g b ⟨v.gp, v.hd, v.mm, v.aa, v.rr, v.gn, slZ, v.ds, v.ls, v.now, v.br⟩ (aliX x c) mp I H ([]) D L [] [(⟨some ⟨gs, 0, none⟩, v.gp.l, v.gp.l⟩, 4, 1, bnL B)] []) := hG
       clear hG hst
       generalize wi.setRow gg csg = wk22 at HF ⊢
       refine WL.nil ?_
       try simp only [pS]
       have hml : v.mm.l = 4 := HF.out.wa.ml
       obtain ⟨gm, hgm⟩ := own_at HF.out.wa.mm (show 0 < v.mm.l by omega)
       have hgm : v.mm.a = some ⟨gm, 0, none⟩ := hgm
       cases hm : (aliX x c).m c with
       | some u =>
        obtain ⟨m, hmp, hM⟩ := HF.out.wa.wl.mc c u hm
        clear hM
        go_upto_region 14 with fail
        refine WL.start <| uK (pV b 0) <| uK (pV b 0) <| uK (pV b 2) <| uL 69 ⟨b, 2, none⟩ (v.mm.v) (ld1 HF.out.wbox 2 U69 rfl) <| uK (.int .i64 ((c : Nat) : Int)) <| uW (pV gm (0 + c * 1)) (exec_ixS 69 1 E69 F69 _ _ rfl hgm (by omega)) <| uL 31 ⟨gm, 0 + c * 1, none⟩ (.iface 115 (pV m 0)) (load_one ((HF.out.wa.mmc hgm hc).trans (by rw [hmp]; rfl)) U31 V31) <| uB .eql 31 (.iface 115 (pV m 0)) (.nilIface) (.bool false) (eql31_f _ _) <| WL.nil <| ?_
        try simp only [pS]
        have hIb := hIa
        have hQb : QB 1202 4207 601 601 (aliX x c) := hQa.mono (by omega) (by omega) (by omega) (by omega)
        have hgb := hga
        have hub := hua
        have hnb : (aliX x c).n = v.gp.l := by show x.n = _; omega
        have hhu : (aliX x c).n / 2 + 1 ≤ (wdG (aliX x c)).countP (fun sv => upAt B sv) := half_up (r := r) (n := v.gp.l) (by omega) hcn2 hnb hBl
        obtain ⟨XB, hXB⟩ : ∃ XB, XB = (aliX x c) := ⟨_, rfl⟩
        rw [← hXB] at HF hIb hQb hgb hub hnb hhu
        clear hXB
        have hub0 : XB.un.length = 0 := by rw [hub]; rfl
        go_upto_region 29 with fail
        refine WL.start <| uK (pV b 0) <| uK (.int .i64 ((c : Nat) : Int)) <| uK (.slice (some ⟨gs, 0, none⟩) v.gp.l v.gp.l) <| ?_
        try simp only [pS]
        refine uC 22 #[pV b 0, .int .i64 ((c : Nat) : Int), .slice (some ⟨gs, 0, none⟩) v.gp.l v.gp.l] (exch_any w.heap.size J2g b XB c ⟨some ⟨gs, 0, none⟩, v.gp.l, v.gp.l⟩ B 1202 4207 601 601 _ ⟨_, _, _, _, _, _, _, HF.out.wa⟩ (HF.out.tl 0 _ rfl) (fun k e => HF.out.tj 0 _ k rfl e) hBl (show v.gp.l = _ by omega) hc ⟨_, _, hIb⟩ hgb hQb (by omega) (by omega) (by omega) (by omega) (by omega)) ?_
        rintro e wk23 ⟨rfl, Js, ⟨vs, mps, Is, Hs, Us, Ds, Ls, hAs⟩, hup⟩
        have HF : Hid _ := HF.out.upd hAs hup
        clear hAs hup
        refine ⟨.tuple #[], rfl, ?_⟩
        try simp only [pS]
        refine WL.nil ?_
        try simp only [pS]
        obtain ⟨⟨T3, hI2⟩, hQ2, hg2, hl2, hn2⟩ := exX_ok (up := B) (c := c) w hIb hQb hgb (by omega) (fun _ => trivial)
        go_upto_region 30 with fail
        refine WL.start <| uK (pV b 0) <| uK (.int .i64 ((c : Nat) : Int)) <| uK (.slice (some ⟨gs, 0, none⟩) v.gp.l v.gp.l) <| ?_
        try simp only [pS]
        refine uC 22 #[pV b 0, .int .i64 ((c : Nat) : Int), .slice (some ⟨gs, 0, none⟩) v.gp.l v.gp.l] (exch_any w.heap.size Js b (exW XB c B) c ⟨some ⟨gs, 0, none⟩, v.gp.l, v.gp.l⟩ B 1602 5607 801 801 _ ⟨_, _, _, _, _, _, _, HF.out.wa⟩ (HF.out.tl 0 _ rfl) (fun k e => HF.out.tj 0 _ k rfl e) hBl (show v.gp.l = _ by omega) hc ⟨_, _, hI2⟩ hg2 hQ2 (by omega) (by omega) (by omega) (by omega) (by omega)) ?_
        rintro e wk24 ⟨rfl, Jt, ⟨vt, mpt, It, Ht, Ut, Dt, Lt, hAt⟩, hup⟩
        have HF : Hid _ := HF.out.upd hAt hup
        clear hAt hup
        refine ⟨.tuple #[], rfl, ?_⟩
        try simp only [pS]
        refine WL.nil ?_
        try simp only [pS]
        have hm3 : (exW (exW XB c B) c B).m c = none := two_ex hIb hgb hub hQb.n hhu
        have hRt := exX_right (up := B) (c := c) hIb hQb hgb hub
        have hDs : (exW (exW XB c B) c B).ds.length ≤ 1000000000 := by have := ds_len (up := B) (c := c) w hIb hQb hgb hub; omega
        have hml2 := HF.out.wa.ml
        obtain ⟨gm2, hgm2⟩ := own_at HF.out.wa.mm (by omega)
        have hmp2 := HF.out.wa.wl.mn c hm3
        go_upto_region 31 with fail
        refine WL.start <| uK (pV b 0) <| uK (pV b 0) <| uK (pV b 2) <| uL 69 ⟨b, 2, none⟩ (vt.mm.v) (ld1 HF.out.wbox 2 U69 rfl) <| uK (.int .i64 ((c : Nat) : Int)) <| uW (pV gm2 (0 + c * 1)) (exec_ixS 69 1 E69 F69 _ _ rfl hgm2 (by omega)) <| uL 31 ⟨gm2, 0 + c * 1, none⟩ (.nilIface) (load_one ((HF.out.wa.mmc hgm2 hc).trans (by rw [hmp2]; rfl)) U31 V31) <| uB .eql 31 (.nilIface) (.nilIface) (.bool true) (eql31_t _) <| uK (.bool true) <| uK (pV b 0) <| ?_
        try simp only [pS]
        refine uC 19 #[pV b 0] (right_any _ _ b _ _ _ _ _ _ _ _ _ HF.out.wa hRt hDs) ?_
        rintro e wk25 ⟨rfl, hk⟩
        have HF : Hid _ := HF.out.no hk
        clear hk
        refine ⟨.bool true, rfl, ?_⟩
        try simp only [pS]
        refine uK (.bool true) <| uK (.bool true) <| ?_
        try simp only [pS]
        refine uC 9 #[] (head_any _) ?_
        rintro e wk26 ⟨rfl, hk⟩
        have HF : Hid _ := HF.out.no hk
        clear hk
        refine ⟨.bool true, rfl, ?_⟩
        try simp only [pS]
        refine uK (.bool true) <| uK (.bool true) <| WL.nil <| ?_
        try simp only [pS]
        set_option maxRecDepth 1000000 in
        go_wp2
        rw [HC.out]
        exact ⟨rfl, Wg.kno HF.out HK1.out hJ0⟩
       | none =>
        have hmp := HF.out.wa.wl.mn c hm
        go_upto_region 14 with fail
        refine WL.start <| uK (pV b 0) <| uK (pV b 0) <| uK (pV b 2) <| uL 69 ⟨b, 2, none⟩ (v.mm.v) (ld1 HF.out.wbox 2 U69 rfl) <| uK (.int .i64 ((c : Nat) : Int)) <| uW (pV gm (0 + c * 1)) (exec_ixS 69 1 E69 F69 _ _ rfl hgm (by omega)) <| uL 31 ⟨gm, 0 + c * 1, none⟩ (.nilIface) (load_one ((HF.out.wa.mmc hgm hc).trans (by rw [hmp]; rfl)) U31 V31) <| uB .eql 31 (.nilIface) (.nilIface) (.bool true) (eql31_t _) <| WL.nil <| ?_
        try simp only [pS]
        clear hmp hgm hml
        go_upto_region 15 with fail
        refine WL.start <| uK (pV b 0) <| uK (.int .i64 ((c : Nat) : Int)) <| ?_
        try simp only [pS]
        refine uC 21 #[pV b 0, .int .i64 ((c : Nat) : Int), .bool false, .slice none 0 0] (begin_r w.heap.size J2g b (aliX x c) c _ ⟨_, _, _, _, _, _, _, HF.out.wa⟩ hc ⟨hQa.now.1, by have := hQa.now.2; omega⟩ (by have := hQa.ls; omega) (by have := hQa.ds; omega) (by have := hQa.n; omega) ⟨by have := (hQa.rd c).1; omega, by have := (hQa.rd c).2; omega⟩) ?_
        rintro e wk27 ⟨rfl, Jb, ⟨vb, mpb, Ib, Hb, Ub, Db, Lb, hAb⟩, hup⟩
        have HF : Hid _ := HF.out.upd hAb hup
        clear hAb hup
        refine ⟨.tuple #[], rfl, ?_⟩
        try simp only [pS]
        refine WL.nil ?_
        try simp only [pS]
        go_upto_region 16 with fail
        refine WL.start <| uK (pV b 0) <| uK (pV b 0) <| uK (pV b 6) <| ?_
        try simp only [pS]
        obtain ⟨J2b, hG, hdj⟩ := HF.out.cutU
        refine uT 71 ⟨b, 6, none⟩ (.slice none 0 0) (wk27.setRow b (Wv.cells ⟨vb.gp, vb.hd, vb.mm, vb.aa, vb.rr, vb.gn, slZ, vb.ds, vb.ls, vb.now, vb.br⟩)) (rs (Wv.cs vb) ([.slice none 0 0]) (Wv.cs ⟨vb.gp, vb.hd, vb.mm, vb.aa, vb.rr, vb.gn, slZ, vb.ds, vb.ls, vb.now, vb.br⟩) (HF.out.wbox) S71 (by simp [Value.oneCell', Sl.v])) ?_
        try simp only [pS]
        have HF : Hid (Wg w1 (wk27.setRow b (Wv.cells ⟨vb.gp, vb.hd, vb.mm, vb.aa, vb.rr, vb.gn, slZ, vb.ds, vb.ls, vb.now, vb.br⟩)) w.heap.size J0 J2b b ⟨vb.gp, vb.hd, vb.mm, vb.aa, vb.rr, vb.gn, slZ, vb.ds, vb.ls, vb.now, vb.br⟩ ({ (begW (aliX x c) c false []) with un := [] }) mpb Ib Hb ([]) Db Lb [] [(⟨some ⟨gs, 0, none⟩, v.gp.l, v.gp.l⟩, 4, 1, bnL B), (vb.un, 52, 30, mgL Ub)] []) := hG
        try clear hG
        generalize wk27.setRow b (Wv.cells ⟨vb.gp, vb.hd, vb.mm, vb.aa, vb.rr, vb.gn, slZ, vb.ds, vb.ls, vb.now, vb.br⟩) = wk28 at HF ⊢
        have HF : Hid (Wg w1 wk28 w.heap.size J0 J2b b ⟨vb.gp, vb.hd, vb.mm, vb.aa, vb.rr, vb.gn, slZ, vb.ds, vb.ls, vb.now, vb.br⟩ ({ (begW (aliX x c) c false []) with un := [] }) mpb Ib Hb ([]) Db Lb [] [(⟨some ⟨gs, 0, none⟩, v.gp.l, v.gp.l⟩, 4, 1, bnL B)] []) := HF.out.pick (fun y hy => List.mem_append_left _ hy) (fun _ h => h)
        refine WL.nil ?_
        try simp only [pS]
        have HF : Hid (Wg w1 wk28 w.heap.size J0 J2b b ⟨vb.gp, vb.hd, vb.mm, vb.aa, vb.rr, vb.gn, slZ, vb.ds, vb.ls, vb.now, vb.br⟩ (begX (aliX x c) c) mpb Ib Hb ([]) Db Lb [] [(⟨some ⟨gs, 0, none⟩, v.gp.l, v.gp.l⟩, 4, 1, bnL B)] []) := HF
        obtain ⟨⟨G2, T2, hIb0⟩, hQb0, hgb0, hub0, hnb0, s0, X0, hs1, hs2, hs3, hs4⟩ := begX_ok hIa hQa hc hga hm (by omega)
        have hIb := hIb0
        have hQb : QB 1202 4207 601 601 (begX (aliX x c) c) := hQb0
        have hgb := hgb0
        have hub := hub0
        have hnb : (begX (aliX x c) c).n = v.gp.l := by rw [hnb0]; show x.n = _; omega
        clear hIb0 hQb0 hgb0 hub0 hnb0
        have hhu : (begX (aliX x c) c).n / 2 + 1 ≤ (wdG (begX (aliX x c) c)).countP (fun sv => upAt B sv) := half_up (r := r) (n := v.gp.l) (by omega) hcn2 hnb hBl
        obtain ⟨XB, hXB⟩ : ∃ XB, XB = (begX (aliX x c) c) := ⟨_, rfl⟩
        rw [← hXB] at HF hIb hQb hgb hub hnb hhu hs1
        clear hXB
        have hub0 : XB.un.length = 0 := by rw [hub]; rfl
        go_upto_region 17 with fail
        refine WL.start <| uK (.bool true) <| WL.nil <| ?_
        try simp only [pS]
        go_upto_region 18 with fail
        refine WL.start <| uK (.int .i64 (-1)) <| WL.nil <| ?_
        try simp only [pS]
        go_upto_region 19 with fail
        refine WL.start <| uK (.int .i64 0) <| WL.nil <| ?_
        try simp only [pS]
        have hhl : (hdsW XB).length = v.gp.l := by rw [← hnb]; simp [hdsW]
        have hhn := HF.out.wa.hn
        obtain ⟨gh, hgh⟩ := own_at HF.out.wa.hd (by omega)
        go_wp2
        go_loopw [13, 14, 15] (fun v13 v14 v15 wr => ∃ (i : Nat) (al : Bool) (fi : Int), v13 = .bool al ∧ v14 = .int .i64 fi ∧ v15 = .int .i64 ((i : Nat) : Int) ∧ i ≤ v.gp.l ∧ Fst XB B i al fi ∧ Hid (Wg w1 wr w.heap.size J0 J2b b ⟨vb.gp, vb.hd, vb.mm, vb.aa, vb.rr, vb.gn, slZ, vb.ds, vb.ls, vb.now, vb.br⟩ XB mpb Ib Hb ([]) Db Lb [] [(⟨some ⟨gs, 0, none⟩, v.gp.l, v.gp.l⟩, 4, 1, bnL B)] [])) (fun _ _ i _ => v.gp.l - (intOf i).toNat)
        case atStart => exact ⟨0, true, -1, rfl, rfl, by go_num, by omega, .inl ⟨rfl, fun j hj => absurd hj (by omega)⟩, HF⟩
        case round =>
         rename World => wl
         clear HF
         obtain ⟨i, al, fi, rfl, rfl, rfl, hi3, hF3, HF⟩ := hrel
         by_cases hlt3 : i < v.gp.l
         · skip
           obtain ⟨ub, hub1⟩ : ∃ ub, B[i]? = some ub := ⟨_, List.getElem?_eq_getElem (by omega)⟩
           have hub2 := bnL_get hub1
           obtain ⟨hb1, hhi, hhd1⟩ := HF.out.wa.pt.hd.at (hdsW_at (show i < XB.n by omega))
           have hhs1 := hhd1.s
           clear hhd1
           rcases hF3 with ⟨rfl, hno⟩ | ⟨k, hki, rfl, hal⟩
           · skip
             go_upto_region 20 with fail
             refine WL.start <| uK (.int .i64 ((i : Nat) : Int)) <| uK (.slice (some ⟨gs, 0, none⟩) v.gp.l v.gp.l) <| uK (.int .i64 ((v.gp.l : Nat) : Int)) <| uB .lss 3 (.int .i64 ((i : Nat) : Int)) (.int .i64 ((v.gp.l : Nat) : Int)) (.bool true) (by rw [b_lss, decide_eq_true (by omega)]) <| WL.nil <| ?_
             try simp only [pS]
             go_upto_region 22 with fail
             refine WL.start <| uK (.slice (some ⟨gs, 0, none⟩) v.gp.l v.gp.l) <| uK (.int .i64 ((i : Nat) : Int)) <| uW (pV gs (0 + i * 1)) (exec_ixA 70 1 E70 F70 _ _ rfl gs 0 v.gp.l v.gp.l i (Eq.trans (b := .slice (some ⟨gs, 0, none⟩) v.gp.l v.gp.l) (by kernel_rfl) (sl_v (s := ⟨(some ⟨gs, 0, none⟩), v.gp.l, v.gp.l⟩) rfl)) (by kernel_rfl) (by omega)) <| uL 4 ⟨gs, 0 + i * 1, none⟩ (.bool ub) (load_one (own_c1 (show Own 4 1 _ 0 (⟨some ⟨gs, 0, none⟩, v.gp.l, v.gp.l⟩ : Sl).a _ _ (bnL B) from HF.out.tl 0 _ rfl) rfl hub2) U4 rfl) <| uK (.bool ub) <| ?_
             try simp only [pS]
             cases q5 : (ub)
             ·skip
              try simp only [q5]
              refine uZ <| uZ <| uK (.bool false) <| WL.nil <| ?_
              try simp only [pS]
              go_upto_region 24 with fail
              refine wp_region_held_drew (S := fun w' => Wg w1 w' w.heap.size J0 J2b b ⟨vb.gp, vb.hd, vb.mm, vb.aa, vb.rr, vb.gn, slZ, vb.ds, vb.ls, vb.now, vb.br⟩ XB mpb Ib Hb ([]) Db Lb [] [(⟨some ⟨gs, 0, none⟩, v.gp.l, v.gp.l⟩, 4, 1, bnL B)] []) rfl (HF.out.drew) (fun hH => ?_)
              have HF : Hid _ := HF.out.drew
              generalize wl.drew = wk29 at HF hH ⊢
              refine xV 0 99 (.slice (some ⟨gs, 0, none⟩) v.gp.l v.gp.l) hH <| xV 1 100 (.int .i64 ((i : Nat) : Int)) hH <| xU 2 101 (pV gs (0 + i * 1)) (fun w' hw => exec_ixA 70 1 E70 F70 _ _ rfl gs 0 v.gp.l v.gp.l i (Eq.trans (b := .slice (some ⟨gs, 0, none⟩) v.gp.l v.gp.l) (by kernel_rfl) (sl_v (s := ⟨(some ⟨gs, 0, none⟩), v.gp.l, v.gp.l⟩) rfl)) (by kernel_rfl) (by omega)) hH <| xL 3 102 4 ⟨gs, 0 + i * 1, none⟩ (.bool ub) (fun _ hw => load_one (own_c1 (show Own 4 1 _ 0 (⟨some ⟨gs, 0, none⟩, v.gp.l, v.gp.l⟩ : Sl).a _ _ (bnL B) from hw.tl 0 _ rfl) rfl hub2) U4 rfl) hH <| xV 4 103 (.bool ub) hH <| ?_
              try simp only [pS]
              try simp only [q5]
              refine xZ 5 104 hH <| xZ 6 105 hH <| xZ 7 106 hH <| xZ 8 107 hH <| xZ 9 108 hH <| xZ 10 109 hH <| xZ 11 110 hH <| xZ 12 111 hH <| xZ 13 112 hH <| xZ 14 113 hH <| xZ 15 114 hH <| xZ 16 115 hH <| xZ 17 116 hH <| xZ 18 117 hH <| xZ 19 118 hH <| xZ 20 119 hH <| ?_
              try simp only [pS]
              refine xZ 21 120 hH <| xV 22 121 (.bool false) hH <| ?_
              try simp only [pS]
              refine wpAnyH_done (by kernel_rfl) ?_ _
              try simp only [pS]
              clear hH
              go_upto_region 21 with fail
              refine WL.start <| uK (.int .i64 ((i : Nat) : Int)) <| uB .add 3 (.int .i64 ((i : Nat) : Int)) (.int .i64 1) (.int .i64 (((i + 1) : Nat) : Int)) (b_addw _ _ _ (by rw [IntKind.wrap_i64]; omega) _) <| uK (.int .i64 (((i + 1) : Nat) : Int)) <| WL.nil <| ?_
              try simp only [pS]
              go_wp2
              go_roundw
              case rel => exact ⟨i + 1, al, (-1), rfl, rfl, by go_num, by omega, (.inl ⟨rfl, fun j hj e => by
               rcases Nat.lt_or_ge j i with h | h
               · exact hno j h e
               · rw [show j = i by omega, hub1, q5] at e
                 cases e⟩), HF⟩
              case measure => simp [intOf]; omega
             ·skip
              try simp only [q5]
              refine uK (.int .i64 (-1)) <| uB .lss 3 (.int .i64 (-1)) (.int .i64 0) (.bool true) (by rw [b_lss]; rfl) <| uK (.bool true) <| WL.nil <| ?_
              try simp only [pS]
              go_upto_region 23 with fail
              refine WL.start <| uK (.int .i64 ((i : Nat) : Int)) <| uK (.int .i64 ((i : Nat) : Int)) <| WL.nil <| ?_
              try simp only [pS]
              go_upto_region 24 with fail
              refine wp_region_held_drew (S := fun w' => Wg w1 w' w.heap.size J0 J2b b ⟨vb.gp, vb.hd, vb.mm, vb.aa, vb.rr, vb.gn, slZ, vb.ds, vb.ls, vb.now, vb.br⟩ XB mpb Ib Hb ([]) Db Lb [] [(⟨some ⟨gs, 0, none⟩, v.gp.l, v.gp.l⟩, 4, 1, bnL B)] []) rfl (HF.out.drew) (fun hH => ?_)
              have HF : Hid _ := HF.out.drew
              generalize wl.drew = wk30 at HF hH ⊢
              refine xV 0 99 (.slice (some ⟨gs, 0, none⟩) v.gp.l v.gp.l) hH <| xV 1 100 (.int .i64 ((i : Nat) : Int)) hH <| xU 2 101 (pV gs (0 + i * 1)) (fun w' hw => exec_ixA 70 1 E70 F70 _ _ rfl gs 0 v.gp.l v.gp.l i (Eq.trans (b := .slice (some ⟨gs, 0, none⟩) v.gp.l v.gp.l) (by kernel_rfl) (sl_v (s := ⟨(some ⟨gs, 0, none⟩), v.gp.l, v.gp.l⟩) rfl)) (by kernel_rfl) (by omega)) hH <| xL 3 102 4 ⟨gs, 0 + i * 1, none⟩ (.bool ub) (fun _ hw => load_one (own_c1 (show Own 4 1 _ 0 (⟨some ⟨gs, 0, none⟩, v.gp.l, v.gp.l⟩ : Sl).a _ _ (bnL B) from hw.tl 0 _ rfl) rfl hub2) U4 rfl) hH <| xV 4 103 (.bool ub) hH <| ?_
              try simp only [pS]
              try simp only [q5]
              refine xV 5 104 (pV b 0) hH <| xV 6 105 (pV b 0) hH <| xV 7 106 (pV b 1) hH <| xL 8 107 58 ⟨b, 1, none⟩ vb.hd.v (fun _ hw => ld1 hw.wbox 1 U58 rfl) hH <| xV 9 108 (.int .i64 ((i : Nat) : Int)) hH <| xU 10 109 (pV gh (0 + i * 3)) (fun w' hw => exec_ixS 58 3 E58 F58 _ _ rfl hgh (by omega)) hH <| xV 11 110 (pV gh (0 + i * 3)) hH <| xL 12 111 41 ⟨gh, 0 + i * 3, none⟩ (.agg (Sp.cells hb1.s)) (fun _ hw => (load_part (n := 0) (own_cell hw.wa.hd hgh (bkL_c Hb) (by decide) hhi) (part_of (off := 0) (sub := Sp.cs hb1.s) (by kernel_rfl)) U41 rfl S41)) hH <| xV 13 112 (pV b 0) hH <| xV 14 113 (pV b 0) hH <| xV 15 114 (pV b 1) hH <| xL 16 115 58 ⟨b, 1, none⟩ vb.hd.v (fun _ hw => ld1 hw.wbox 1 U58 rfl) hH <| xV 17 116 (.int .i64 ((i : Nat) : Int)) hH <| xU 18 117 (pV gh (0 + i * 3)) (fun w' hw => exec_ixS 58 3 E58 F58 _ _ rfl hgh (by omega)) hH <| xV 19 118 (pV gh (0 + i * 3)) hH <| xL 20 119 41 ⟨gh, 0 + i * 3, none⟩ (.agg (Sp.cells hb1.s)) (fun _ hw => (load_part (n := 0) (own_cell hw.wa.hd hgh (bkL_c Hb) (by decide) hhi) (part_of (off := 0) (sub := Sp.cs hb1.s) (by kernel_rfl)) U41 rfl S41)) hH <| ?_
              try simp only [pS]
              refine xB 21 120 .neq 41 (.agg (Sp.cells hb1.s)) (.agg (Sp.cells hb1.s)) (.bool false) (fun _ _ => by rw [eqS_neq, eqS_refl]; rfl) hH <| xV 22 121 (.bool false) hH <| ?_
              try simp only [pS]
              refine wpAnyH_done (by kernel_rfl) ?_ _
              try simp only [pS]
              clear hH
              go_upto_region 21 with fail
              refine WL.start <| uK (.int .i64 ((i : Nat) : Int)) <| uB .add 3 (.int .i64 ((i : Nat) : Int)) (.int .i64 1) (.int .i64 (((i + 1) : Nat) : Int)) (b_addw _ _ _ (by rw [IntKind.wrap_i64]; omega) _) <| uK (.int .i64 (((i + 1) : Nat) : Int)) <| WL.nil <| ?_
              try simp only [pS]
              go_wp2
              go_roundw
              case rel => exact ⟨i + 1, al, ((i : Nat) : Int), rfl, by go_num, by go_num, by omega, (.inr ⟨i, by omega, rfl, fun _ j hj e => by
               rcases Nat.lt_or_ge j i with h | h
               · exact absurd e (hno j h)
               · rw [show j = i by omega]⟩), HF⟩
              case measure => simp [intOf]; omega
           · skip
             obtain ⟨hb2, hhk, hhd2⟩ := HF.out.wa.pt.hd.at (hdsW_at (show k < XB.n by omega))
             have hhs2 := hhd2.s
             clear hhd2
             go_upto_region 20 with fail
             refine WL.start <| uK (.int .i64 ((i : Nat) : Int)) <| uK (.slice (some ⟨gs, 0, none⟩) v.gp.l v.gp.l) <| uK (.int .i64 ((v.gp.l : Nat) : Int)) <| uB .lss 3 (.int .i64 ((i : Nat) : Int)) (.int .i64 ((v.gp.l : Nat) : Int)) (.bool true) (by rw [b_lss, decide_eq_true (by omega)]) <| WL.nil <| ?_
             try simp only [pS]
             go_upto_region 22 with fail
             refine WL.start <| uK (.slice (some ⟨gs, 0, none⟩) v.gp.l v.gp.l) <| uK (.int .i64 ((i : Nat) : Int)) <| uW (pV gs (0 + i * 1)) (exec_ixA 70 1 E70 F70 _ _ rfl gs 0 v.gp.l v.gp.l i (Eq.trans (b := .slice (some ⟨gs, 0, none⟩) v.gp.l v.gp.l) (by kernel_rfl) (sl_v (s := ⟨(some ⟨gs, 0, none⟩), v.gp.l, v.gp.l⟩) rfl)) (by kernel_rfl) (by omega)) <| uL 4 ⟨gs, 0 + i * 1, none⟩ (.bool ub) (load_one (own_c1 (show Own 4 1 _ 0 (⟨some ⟨gs, 0, none⟩, v.gp.l, v.gp.l⟩ : Sl).a _ _ (bnL B) from HF.out.tl 0 _ rfl) rfl hub2) U4 rfl) <| uK (.bool ub) <| ?_
             try simp only [pS]
             cases q6 : (ub)
             ·skip
              try simp only [q6]
              refine uZ <| uZ <| uK (.bool false) <| WL.nil <| ?_
              try simp only [pS]
              go_upto_region 24 with fail
              refine wp_region_held_drew (S := fun w' => Wg w1 w' w.heap.size J0 J2b b ⟨vb.gp, vb.hd, vb.mm, vb.aa, vb.rr, vb.gn, slZ, vb.ds, vb.ls, vb.now, vb.br⟩ XB mpb Ib Hb ([]) Db Lb [] [(⟨some ⟨gs, 0, none⟩, v.gp.l, v.gp.l⟩, 4, 1, bnL B)] []) rfl (HF.out.drew) (fun hH => ?_)
              have HF : Hid _ := HF.out.drew
              generalize wl.drew = wk31 at HF hH ⊢
              refine xV 0 99 (.slice (some ⟨gs, 0, none⟩) v.gp.l v.gp.l) hH <| xV 1 100 (.int .i64 ((i : Nat) : Int)) hH <| xU 2 101 (pV gs (0 + i * 1)) (fun w' hw => exec_ixA 70 1 E70 F70 _ _ rfl gs 0 v.gp.l v.gp.l i (Eq.trans (b := .slice (some ⟨gs, 0, none⟩) v.gp.l v.gp.l) (by kernel_rfl) (sl_v (s := ⟨(some ⟨gs, 0, none⟩), v.gp.l, v.gp.l⟩) rfl)) (by kernel_rfl) (by omega)) hH <| xL 3 102 4 ⟨gs, 0 + i * 1, none⟩ (.bool ub) (fun _ hw => load_one (own_c1 (show Own 4 1 _ 0 (⟨some ⟨gs, 0, none⟩, v.gp.l, v.gp.l⟩ : Sl).a _ _ (bnL B) from hw.tl 0 _ rfl) rfl hub2) U4 rfl) hH <| xV 4 103 (.bool ub) hH <| ?_
              try simp only [pS]
              try simp only [q6]
              refine xZ 5 104 hH <| xZ 6 105 hH <| xZ 7 106 hH <| xZ 8 107 hH <| xZ 9 108 hH <| xZ 10 109 hH <| xZ 11 110 hH <| xZ 12 111 hH <| xZ 13 112 hH <| xZ 14 113 hH <| xZ 15 114 hH <| xZ 16 115 hH <| xZ 17 116 hH <| xZ 18 117 hH <| xZ 19 118 hH <| xZ 20 119 hH <| ?_
              try simp only [pS]
              refine xZ 21 120 hH <| xV 22 121 (.bool false) hH <| ?_
              try simp only [pS]
              refine wpAnyH_done (by kernel_rfl) ?_ _
              try simp only [pS]
              clear hH
              go_upto_region 21 with fail
              refine WL.start <| uK (.int .i64 ((i : Nat) : Int)) <| uB .add 3 (.int .i64 ((i : Nat) : Int)) (.int .i64 1) (.int .i64 (((i + 1) : Nat) : Int)) (b_addw _ _ _ (by rw [IntKind.wrap_i64]; omega) _) <| uK (.int .i64 (((i + 1) : Nat) : Int)) <| WL.nil <| ?_
              try simp only [pS]
              go_wp2
              go_roundw
              case rel => exact ⟨i + 1, al, ((k : Nat) : Int), rfl, rfl, by go_num, by omega, (.inr ⟨k, by omega, rfl, fun ha j hj e => by
               rcases Nat.lt_or_ge j i with h | h
               · exact hal ha j h e
               · rw [show j = i by omega, hub1, q6] at e
                 cases e⟩), HF⟩
              case measure => simp [intOf]; omega
             ·skip
              try simp only [q6]
              refine uK (.int .i64 ((k : Nat) : Int)) <| uB .lss 3 (.int .i64 ((k : Nat) : Int)) (.int .i64 0) (.bool false) (by rw [b_lss, decide_eq_false (by omega)]) <| uK (.bool false) <| WL.nil <| ?_
              try simp only [pS]
              go_upto_region 24 with fail
              refine wp_region_held_drew (S := fun w' => Wg w1 w' w.heap.size J0 J2b b ⟨vb.gp, vb.hd, vb.mm, vb.aa, vb.rr, vb.gn, slZ, vb.ds, vb.ls, vb.now, vb.br⟩ XB mpb Ib Hb ([]) Db Lb [] [(⟨some ⟨gs, 0, none⟩, v.gp.l, v.gp.l⟩, 4, 1, bnL B)] []) rfl (HF.out.drew) (fun hH => ?_)
              have HF : Hid _ := HF.out.drew
              generalize wl.drew = wk32 at HF hH ⊢
              refine xV 0 99 (.slice (some ⟨gs, 0, none⟩) v.gp.l v.gp.l) hH <| xV 1 100 (.int .i64 ((i : Nat) : Int)) hH <| xU 2 101 (pV gs (0 + i * 1)) (fun w' hw => exec_ixA 70 1 E70 F70 _ _ rfl gs 0 v.gp.l v.gp.l i (Eq.trans (b := .slice (some ⟨gs, 0, none⟩) v.gp.l v.gp.l) (by kernel_rfl) (sl_v (s := ⟨(some ⟨gs, 0, none⟩), v.gp.l, v.gp.l⟩) rfl)) (by kernel_rfl) (by omega)) hH <| xL 3 102 4 ⟨gs, 0 + i * 1, none⟩ (.bool ub) (fun _ hw => load_one (own_c1 (show Own 4 1 _ 0 (⟨some ⟨gs, 0, none⟩, v.gp.l, v.gp.l⟩ : Sl).a _ _ (bnL B) from hw.tl 0 _ rfl) rfl hub2) U4 rfl) hH <| xV 4 103 (.bool ub) hH <| ?_
              try simp only [pS]
              try simp only [q6]
              refine xV 5 104 (pV b 0) hH <| xV 6 105 (pV b 0) hH <| xV 7 106 (pV b 1) hH <| xL 8 107 58 ⟨b, 1, none⟩ vb.hd.v (fun _ hw => ld1 hw.wbox 1 U58 rfl) hH <| xV 9 108 (.int .i64 ((i : Nat) : Int)) hH <| xU 10 109 (pV gh (0 + i * 3)) (fun w' hw => exec_ixS 58 3 E58 F58 _ _ rfl hgh (by omega)) hH <| xV 11 110 (pV gh (0 + i * 3)) hH <| xL 12 111 41 ⟨gh, 0 + i * 3, none⟩ (.agg (Sp.cells hb1.s)) (fun _ hw => (load_part (n := 0) (own_cell hw.wa.hd hgh (bkL_c Hb) (by decide) hhi) (part_of (off := 0) (sub := Sp.cs hb1.s) (by kernel_rfl)) U41 rfl S41)) hH <| xV 13 112 (pV b 0) hH <| xV 14 113 (pV b 0) hH <| xV 15 114 (pV b 1) hH <| xL 16 115 58 ⟨b, 1, none⟩ vb.hd.v (fun _ hw => ld1 hw.wbox 1 U58 rfl) hH <| xV 17 116 (.int .i64 ((k : Nat) : Int)) hH <| xU 18 117 (pV gh (0 + k * 3)) (fun w' hw => exec_ixS 58 3 E58 F58 _ _ rfl hgh (by omega)) hH <| xV 19 118 (pV gh (0 + k * 3)) hH <| xL 20 119 41 ⟨gh, 0 + k * 3, none⟩ (.agg (Sp.cells hb2.s)) (fun _ hw => (load_part (n := 0) (own_cell hw.wa.hd hgh (bkL_c Hb) (by decide) hhk) (part_of (off := 0) (sub := Sp.cs hb2.s) (by kernel_rfl)) U41 rfl S41)) hH <| ?_
              try simp only [pS]
              cases q7 : (eqS hb1.s hb2.s)
              ·skip
               refine xB 21 120 .neq 41 (.agg (Sp.cells hb1.s)) (.agg (Sp.cells hb2.s)) (.bool true) (fun _ _ => by rw [eqS_neq, q7]; try rfl) hH <| xV 22 121 (.bool true) hH <| ?_
               try simp only [pS]
               refine wpAnyH_done (by kernel_rfl) ?_ _
               try simp only [pS]
               clear hH
               go_upto_region 25 with fail
               refine WL.start <| uK (.bool false) <| WL.nil <| ?_
               try simp only [pS]
               go_upto_region 21 with fail
               refine WL.start <| uK (.int .i64 ((i : Nat) : Int)) <| uB .add 3 (.int .i64 ((i : Nat) : Int)) (.int .i64 1) (.int .i64 (((i + 1) : Nat) : Int)) (b_addw _ _ _ (by rw [IntKind.wrap_i64]; omega) _) <| uK (.int .i64 (((i + 1) : Nat) : Int)) <| WL.nil <| ?_
               try simp only [pS]
               go_wp2
               go_roundw
               case rel => exact ⟨i + 1, false, ((k : Nat) : Int), rfl, rfl, by go_num, by omega, (.inr ⟨k, by omega, rfl, fun ha => by cases ha⟩), HF⟩
               case measure => simp [intOf]; omega
              ·skip
               refine xB 21 120 .neq 41 (.agg (Sp.cells hb1.s)) (.agg (Sp.cells hb2.s)) (.bool false) (fun _ _ => by rw [eqS_neq, q7]; try rfl) hH <| xV 22 121 (.bool false) hH <| ?_
               try simp only [pS]
               refine wpAnyH_done (by kernel_rfl) ?_ _
               try simp only [pS]
               clear hH
               go_upto_region 21 with fail
               refine WL.start <| uK (.int .i64 ((i : Nat) : Int)) <| uB .add 3 (.int .i64 ((i : Nat) : Int)) (.int .i64 1) (.int .i64 (((i + 1) : Nat) : Int)) (b_addw _ _ _ (by rw [IntKind.wrap_i64]; omega) _) <| uK (.int .i64 (((i + 1) : Nat) : Int)) <| WL.nil <| ?_
               try simp only [pS]
               go_wp2
               go_roundw
               case rel => exact ⟨i + 1, al, ((k : Nat) : Int), rfl, rfl, by go_num, by omega, (.inr ⟨k, by omega, rfl, fun ha j hj e => by
                rcases Nat.lt_or_ge j i with h | h
                · exact hal ha j h e
                · rw [show j = i by omega, ← hhs1, ← hhs2]; exact eqS_iff.1 q7⟩), HF⟩
               case measure => simp [intOf]; omega
         · skip
           have hin : i = v.gp.l := by omega
           go_upto_region 20 with fail
           refine WL.start <| uK (.int .i64 ((i : Nat) : Int)) <| uK (.slice (some ⟨gs, 0, none⟩) v.gp.l v.gp.l) <| uK (.int .i64 ((v.gp.l : Nat) : Int)) <| uB .lss 3 (.int .i64 ((i : Nat) : Int)) (.int .i64 ((v.gp.l : Nat) : Int)) (.bool false) (by rw [b_lss, decide_eq_false (by omega)]) <| WL.nil <| ?_
           try simp only [pS]
           go_upto_region 26 with fail
           refine WL.start <| uK (pV b 0) <| uK (.int .i64 ((c : Nat) : Int)) <| uK (.slice (some ⟨gs, 0, none⟩) v.gp.l v.gp.l) <| ?_
           try simp only [pS]
           refine uC 22 #[pV b 0, .int .i64 ((c : Nat) : Int), .slice (some ⟨gs, 0, none⟩) v.gp.l v.gp.l] (exch_any w.heap.size J2b b XB c ⟨some ⟨gs, 0, none⟩, v.gp.l, v.gp.l⟩ B 1202 4207 601 601 _ ⟨_, _, _, _, _, _, _, HF.out.wa⟩ (HF.out.tl 0 _ rfl) (fun k e => HF.out.tj 0 _ k rfl e) hBl (show v.gp.l = _ by omega) hc ⟨_, _, hIb⟩ hgb hQb (by omega) (by omega) (by omega) (by omega) (by omega)) ?_
           rintro e wk33 ⟨rfl, Js, ⟨vs, mps, Is, Hs, Us, Ds, Ls, hAs⟩, hup⟩
           have HF : Hid _ := HF.out.upd hAs hup
           clear hAs hup
           refine ⟨.tuple #[], rfl, ?_⟩
           try simp only [pS]
           refine WL.nil ?_
           try simp only [pS]
           obtain ⟨⟨T3, hI2⟩, hQ2, hg2, hl2, hn2⟩ := exX_ok (up := B) (c := c) w hIb hQb hgb (by omega) (fun _ => trivial)
           go_upto_region 27 with fail
           refine WL.start <| uK (.bool al) <| WL.nil <| ?_
           try simp only [pS]
           cases q8 : (al)
           ·skip
            try simp only [q8]
            go_upto_region 30 with fail
            refine WL.start <| uK (pV b 0) <| uK (.int .i64 ((c : Nat) : Int)) <| uK (.slice (some ⟨gs, 0, none⟩) v.gp.l v.gp.l) <| ?_
            try simp only [pS]
            refine uC 22 #[pV b 0, .int .i64 ((c : Nat) : Int), .slice (some ⟨gs, 0, none⟩) v.gp.l v.gp.l] (exch_any w.heap.size Js b (exW XB c B) c ⟨some ⟨gs, 0, none⟩, v.gp.l, v.gp.l⟩ B 1602 5607 801 801 _ ⟨_, _, _, _, _, _, _, HF.out.wa⟩ (HF.out.tl 0 _ rfl) (fun k e => HF.out.tj 0 _ k rfl e) hBl (show v.gp.l = _ by omega) hc ⟨_, _, hI2⟩ hg2 hQ2 (by omega) (by omega) (by omega) (by omega) (by omega)) ?_
            rintro e wk34 ⟨rfl, Jt, ⟨vt, mpt, It, Ht, Ut, Dt, Lt, hAt⟩, hup⟩
            have HF : Hid _ := HF.out.upd hAt hup
            clear hAt hup
            refine ⟨.tuple #[], rfl, ?_⟩
            try simp only [pS]
            refine WL.nil ?_
            try simp only [pS]
            have hm3 : (exW (exW XB c B) c B).m c = none := two_ex hIb hgb hub hQb.n hhu
            have hRt := exX_right (up := B) (c := c) hIb hQb hgb hub
            have hDs : (exW (exW XB c B) c B).ds.length ≤ 1000000000 := by have := ds_len (up := B) (c := c) w hIb hQb hgb hub; omega
            have hml2 := HF.out.wa.ml
            obtain ⟨gm2, hgm2⟩ := own_at HF.out.wa.mm (by omega)
            have hmp2 := HF.out.wa.wl.mn c hm3
            go_upto_region 31 with fail
            refine WL.start <| uK (pV b 0) <| uK (pV b 0) <| uK (pV b 2) <| uL 69 ⟨b, 2, none⟩ (vt.mm.v) (ld1 HF.out.wbox 2 U69 rfl) <| uK (.int .i64 ((c : Nat) : Int)) <| uW (pV gm2 (0 + c * 1)) (exec_ixS 69 1 E69 F69 _ _ rfl hgm2 (by omega)) <| uL 31 ⟨gm2, 0 + c * 1, none⟩ (.nilIface) (load_one ((HF.out.wa.mmc hgm2 hc).trans (by rw [hmp2]; rfl)) U31 V31) <| uB .eql 31 (.nilIface) (.nilIface) (.bool true) (eql31_t _) <| uK (.bool true) <| uK (pV b 0) <| ?_
            try simp only [pS]
            refine uC 19 #[pV b 0] (right_any _ _ b _ _ _ _ _ _ _ _ _ HF.out.wa hRt hDs) ?_
            rintro e wk35 ⟨rfl, hk⟩
            have HF : Hid _ := HF.out.no hk
            clear hk
            refine ⟨.bool true, rfl, ?_⟩
            try simp only [pS]
            refine uK (.bool true) <| uK (.bool true) <| ?_
            try simp only [pS]
            refine uC 9 #[] (head_any _) ?_
            rintro e wk36 ⟨rfl, hk⟩
            have HF : Hid _ := HF.out.no hk
            clear hk
            refine ⟨.bool true, rfl, ?_⟩
            try simp only [pS]
            refine uK (.bool true) <| uK (.bool true) <| WL.nil <| ?_
            try simp only [pS]
            set_option maxRecDepth 1000000 in
            go_wp2
            rw [HC.out]
            exact ⟨rfl, Wg.kno HF.out HK1.out hJ0⟩
           ·skip
            try simp only [q8]
            have hm2 : (exW XB c B).m c = none := by
             rw [hin] at hF3
             obtain ⟨t0, ht0⟩ := fst_all hF3 q8 hBl hnb
             exact one_ex hIb hs1 hs2 hs3 hs4 hgb hub hQb.n hhu ht0
            have hRt := hI2.right
            have hDs : (exW XB c B).ds.length ≤ 1000000000 := by have := hQ2.ds; omega
            have hml2 := HF.out.wa.ml
            obtain ⟨gm2, hgm2⟩ := own_at HF.out.wa.mm (by omega)
            have hmp2 := HF.out.wa.wl.mn c hm2
            go_upto_region 28 with fail
            refine WL.start <| uK (pV b 0) <| uK (pV b 0) <| uK (pV b 2) <| uL 69 ⟨b, 2, none⟩ (vs.mm.v) (ld1 HF.out.wbox 2 U69 rfl) <| uK (.int .i64 ((c : Nat) : Int)) <| uW (pV gm2 (0 + c * 1)) (exec_ixS 69 1 E69 F69 _ _ rfl hgm2 (by omega)) <| uL 31 ⟨gm2, 0 + c * 1, none⟩ (.nilIface) (load_one ((HF.out.wa.mmc hgm2 hc).trans (by rw [hmp2]; rfl)) U31 V31) <| uB .eql 31 (.nilIface) (.nilIface) (.bool true) (eql31_t _) <| uK (.bool true) <| uK (pV b 0) <| ?_
            try simp only [pS]
            refine uC 19 #[pV b 0] (right_any _ _ b _ _ _ _ _ _ _ _ _ HF.out.wa hRt hDs) ?_
            rintro e wk37 ⟨rfl, hk⟩
            have HF : Hid _ := HF.out.no hk
            clear hk
            refine ⟨.bool true, rfl, ?_⟩
            try simp only [pS]
            refine uK (.bool true) <| uK (.bool true) <| ?_
            try simp only [pS]
            refine uC 9 #[] (head_any _) ?_
            rintro e wk38 ⟨rfl, hk⟩
            have HF : Hid _ := HF.out.no hk
            clear hk
            refine ⟨.bool true, rfl, ?_⟩
            try simp only [pS]
            refine uK (.bool true) <| uK (.bool true) <| WL.nil <| ?_
            try simp only [pS]
            set_option maxRecDepth 1000000 in
            go_wp2
            rw [HC.out]
            exact ⟨rfl, Wg.kno HF.out HK1.out hJ0⟩
end Go.Proofs.Ytgiokkcdgoloaaa.Md
