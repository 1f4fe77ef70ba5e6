import Derived.Test.YtgiokkcdgoloaaaXf
namespace Go.Proofs.Ytgiokkcdgoloaaa.Md
open Go.RowKit
set_option linter.unusedVariables false
set_option linter.unusedSimpArgs false
theorem sendW_succ {x : Wd} {ps : List Pm} {i : Nat} {p : Pm} (h : ps[i]? = some p) : sendW x (ps.take (i + 1)) = send1 (sendW x (ps.take i)) p := by
 unfold sendW
 rw [List.take_add_one, h, List.foldl_append]
 rfl
theorem send1_put {x : Wd} {p : Pm} (h : p.k = 2) : send1 x p = if (laidW x p.st p.z).un.length < 300 then { laidW x p.st p.z with un := (laidW x p.st p.z).un ++ [p] } else laidW x p.st p.z := by simp only [send1, h, ↓reduceIte]
theorem send1_no {x : Wd} {p : Pm} (h : ¬ p.k = 2) : send1 x p = if x.un.length < 300 then { x with un := x.un ++ [p] } else x := by simp only [send1, h, ↓reduceIte]
theorem laidW_ls (x : Wd) (t : Sp) (z : List Int) : (laidW x t z).ls.length ≤ x.ls.length + 1 := by
 unfold laidW
 split
 · show x.ls.length ≤ _; omega
 · show (x.ls ++ [(t, z)]).length ≤ _; rw [List.length_append]; exact Nat.le_refl _
theorem send1_ls (x : Wd) (p : Pm) : (send1 x p).ls.length ≤ x.ls.length + 1 := by
 unfold send1
 have h := laidW_ls x p.st p.z
 dsimp only
 split <;> split <;> first | exact h | (show x.ls.length ≤ _; omega)
theorem sendW_ls (x : Wd) (ps : List Pm) (i : Nat) : (sendW x (ps.take i)).ls.length ≤ x.ls.length + i := by
 induction i with
 | zero => simp [sendW]
 | succ i ih =>
  cases h : ps[i]? with
  | none =>
   have hl := List.getElem?_eq_none_iff.1 h
   rw [List.take_of_length_le (by omega)] at ih ⊢
   omega
  | some p =>
   rw [sendW_succ h]
   have := send1_ls (sendW x (ps.take i)) p
   omega
def bqs (ps : List Pm) (ms : List Mg) : List (Sl × List Int) := List.zipWith (fun m p => (m.bl, p.z)) ms ps
theorem bqs_at {ps : List Pm} {ms : List Mg} {i : Nat} {p : Pm} {m : Mg} (hp : ps[i]? = some p) (hm : ms[i]? = some m) : (bqs ps ms)[i]? = some (m.bl, p.z) := by
 unfold bqs
 rw [List.getElem?_zipWith, hm, hp]
theorem bqs_by {W : World} {n0 : Nat} {ps : List Pm} {ms : List Mg} (h : Two2 (UnM W n0) ps ms) : ∀ y ∈ bqs ps ms, By W n0 y.1 y.2 := by
 intro y hy
 obtain ⟨i, hi⟩ := List.mem_iff_getElem?.1 hy
 unfold bqs at hi
 rw [List.getElem?_zipWith] at hi
 cases hm : ms[i]? with
 | none => rw [hm] at hi; simp at hi
 | some m =>
  cases hp : ps[i]? with
  | none => rw [hm, hp] at hi; simp at hi
  | some p =>
   rw [hm, hp] at hi
   cases hi
   exact (h.2 i p m hp hm).b
theorem Wg.unl {w W : World} {n0 : Nat} {J0 J : Nat → Prop} {b : Nat} {v : Wv} {x : Wd} {mp : Nat → Option Nat} {I : Nat → Nat → Prop} {H : List Bl} {U : List Mg} {D : List Dv} {L : List Lv} {l : List (Nat × TypeId × Array Value)} {T : List Rowx} {Q : List (Sl × List Int)} (G : Wg w W n0 J0 J b v x mp I H U D L l T Q) : x.un.length = v.un.l := by rw [G.wa.pt.un.1, G.wa.ul]
set_option maxRecDepth 100000 in
set_option maxHeartbeats 4000000 in
theorem send_any (n0 : Nat) (J : Nat → Prop) (b : Nat) (x : Wd) (t : Sl) (ps : List Pm) (ms : List Mg) (w : World) (hW : WAt w n0 J b x) (ht : Own 52 30 w 0 t.a t.k t.l (mgL ms)) (hj : ∀ k, At t.a k → ¬ J k) (hu : Two2 (UnM w n0) ps ms) (hl : x.ls.length + ps.length ≤ 1000000) : Calls Try.prog 45 #[.pointer (some ⟨b, 0, none⟩), t.v] w (WOut w n0 J b (sendW x ps)) := by
 refine hideC fun C HC => ?_
 obtain ⟨v, mp, I, H, U, D, L, hA⟩ := hW
 have htl : ps.length = t.l := by
  have := ht.1
  unfold mgL at this
  rw [flat_len 30 _ (mgL_c ms), List.length_map] at this
  have := hu.1
  omega
 have hml : ms.length = t.l := by have := hu.1; omega
 have hue : ∀ (i : Nat) p m, ps[i]? = some p → ms[i]? = some m → m = { mgP p with bl := m.bl } := fun i p m h1 h2 => (hu.2 i p m h1 h2).e
 have HF : Hid (Wg w w n0 J J b v (sendW x (ps.take 0)) mp I H U D L [] [(t, 52, 30, mgL ms)] (bqs ps ms)) := ((Wg.start hA).add (T := []) (y := (t, 52, 30, mgL ms)) (c := 0) ht hj (by simp)).byt (Q := []) (bqs_by hu)
 clear hA ht hj hu
 go_enter Try.func45, Try.ntmps45
 go_upto_region 0 with fail
 refine WL.start <| uK (.int .i64 0) <| WL.nil <| ?_
 try simp only [pS]
 go_wp2
 go_loopw [4] (fun v4 wr => ∃ (i : Nat) (J1 : Nat → Prop) (v1 : Wv) (mp1 : Nat → Option Nat) (I1 : Nat → Nat → Prop) (H1 : List Bl) (U1 : List Mg) (D1 : List Dv) (L1 : List Lv), v4 = .int .i64 ((i : Nat) : Int) ∧ i ≤ t.l ∧ Hid (Wg w wr n0 J J1 b v1 (sendW x (ps.take i)) mp1 I1 H1 U1 D1 L1 [] [(t, 52, 30, mgL ms)] (bqs ps ms))) (fun i _ => t.l - (intOf i).toNat)
 case atStart => exact ⟨0, J, v, mp, I, H, U, D, L, by go_num, by omega, HF⟩
 case round =>
  clear HF
  obtain ⟨i, J1, v1, mp1, I1, H1, U1, D1, L1, rfl, hi, HF⟩ := hrel
  have hlb := sendW_ls x ps i
  by_cases hlt : i < t.l
  · skip
    obtain ⟨p, hpi⟩ : ∃ p, ps[i]? = some p := ⟨_, List.getElem?_eq_getElem (by omega)⟩
    obtain ⟨m, hmi⟩ : ∃ m, ms[i]? = some m := ⟨_, List.getElem?_eq_getElem (by omega)⟩
    have hme := hue i p m hpi hmi
    have hmk : m.k = p.k := by rw [hme]; rfl
    have hmt : m.st = p.st := by rw [hme]; rfl
    have hqi := bqs_at hpi hmi
    have hst := sendW_succ (x := x) hpi
    obtain ⟨X, hX⟩ : ∃ X, X = sendW x (ps.take i) := ⟨_, rfl⟩
    rw [← hX] at HF hlb hst
    obtain ⟨gt, hgt⟩ := own_at (HF.out.tl 0 _ rfl) (Nat.lt_of_le_of_lt (Nat.zero_le _) hlt)
    by_cases hk2 : m.k = 2
    · skip
      have hs1 : send1 X p = if (laidW X m.st p.z).un.length < 300 then { laidW X m.st p.z with un := (laidW X m.st p.z).un ++ [p] } else laidW X m.st p.z := by
       rw [hmt]
       exact send1_put (by omega)
      go_upto_region 1 with fail
      refine WL.start <| uK (.int .i64 ((i : Nat) : Int)) <| uK (t.v) <| uK (.int .i64 ((t.l : Nat) : Int)) <| uB .lss 3 (.int .i64 ((i : Nat) : Int)) (.int .i64 ((t.l : Nat) : Int)) (.bool true) (by rw [b_lss, decide_eq_true (by omega)]) <| WL.nil <| ?_
      try simp only [pS]
      go_upto_region 3 with fail
      refine WL.start <| uK (t.v) <| uK (.int .i64 ((i : Nat) : Int)) <| uW (pV gt (0 + i * 30)) (exec_ixS 71 30 E71 F71 _ _ rfl hgt (by omega)) <| uK (pV gt (0 + i * 30)) <| uL 3 ⟨gt, 0 + i * 30, none⟩ (.int .i64 m.k) (load_one ((own_cell (show Own 52 30 wr 0 t.a t.k t.l (mgL ms) from HF.out.tl 0 _ rfl) hgt (mgL_c ms) (by decide) hmi) 0 _ (by kernel_rfl)) U3 rfl) <| uB .eql 3 (.int .i64 m.k) (.int .i64 2) (.bool true) (by rw [b_eql, beq_iff_eq.2 (by omega)]) <| WL.nil <| ?_
      try simp only [pS]
      go_upto_region 4 with fail
      refine wp_region_held_drew (S := fun w' => Own 52 30 w' 0 t.a t.k t.l (mgL ms)) rfl (HF.out.drew.tl 0 _ rfl) (fun hH => ?_)
      have HF : Hid _ := HF.out.drew
      generalize wr.drew = wk1 at HF hH ⊢
      refine xV 0 17 (pV b 0) hH <| xV 1 18 t.v hH <| xV 2 19 (.int .i64 ((i : Nat) : Int)) hH <| xU 3 20 (pV gt (0 + i * 30)) (fun w' hw => exec_ixS 71 30 E71 F71 _ _ rfl hgt (by omega)) hH <| xV 4 21 (pV gt (0 + i * 30 + 11)) hH <| xL 5 22 41 ⟨gt, 0 + i * 30 + 11, none⟩ (.agg (Sp.cells m.st)) (fun _ hw => load_part (n := 11) (own_cell (hw) hgt (mgL_c ms) (by decide) hmi) (part_of (off := 11) (sub := Sp.cs m.st) (by kernel_rfl)) U41 rfl S41) hH <| xV 6 23 t.v hH <| xV 7 24 (.int .i64 ((i : Nat) : Int)) hH <| xU 8 25 (pV gt (0 + i * 30)) (fun w' hw => exec_ixS 71 30 E71 F71 _ _ rfl hgt (by omega)) hH <| xV 9 26 (pV gt (0 + i * 30 + 15)) hH <| xL 10 27 25 ⟨gt, 0 + i * 30 + 15, none⟩ m.bl.v (fun _ hw => load_one ((own_cell (hw) hgt (mgL_c ms) (by decide) hmi) 15 _ (by kernel_rfl)) U25 rfl) hH <| ?_
      try simp only [pS]
      refine xC 11 28 60 #[pV b 0, .agg (Sp.cells m.st), m.bl.v] (laid_any n0 J1 b X m.st m.bl p.z _ ⟨v1, mp1, I1, H1, U1, D1, L1, HF.out.wa⟩ (HF.out.qs i (m.bl, p.z) hqi) (by omega)) ?_
      rintro e wk2 ⟨rfl, J2, ⟨v2, mp2, I2, H2, U2, D2, L2, hA2⟩, hup⟩
      have hkJ := Kept.five hup.kept
      have hH2 : Own 52 30 wk2 0 t.a t.k t.l (mgL ms) := (HF.out.tlJ hkJ 0 rfl)
      have HF : Hid _ := HF.out.upd hA2 hup
      clear hA2 hup hkJ
      refine ⟨.tuple #[], rfl, hH2, fun hH => ?_⟩
      clear hH2
      try simp only [pS]
      refine wpAnyH_done (by kernel_rfl) ?_ _
      try simp only [pS]
      clear hH
      obtain ⟨Y, hY⟩ : ∃ Y, Y = laidW X m.st p.z := ⟨_, rfl⟩
      rw [← hY] at HF hs1
      have hun := HF.out.unl
      by_cases hfew : v2.un.l < 300
      · skip
        have hst2 : sendW x (ps.take (i + 1)) = { Y with un := Y.un ++ [p] } := by rw [hst, hs1, if_pos (by omega)]
        go_upto_region 5 with fail
        refine WL.start <| uK (pV b 0) <| uK (pV b 0) <| uK (pV b 6) <| uL 71 ⟨b, 6, none⟩ (v2.un.v) (ld1 HF.out.wbox 6 U71 rfl) <| uK (.int .i64 ((v2.un.l : Nat) : Int)) <| uB .lss 3 (.int .i64 ((v2.un.l : Nat) : Int)) (.int .i64 300) (.bool true) (by rw [b_lss, decide_eq_true (by omega)]) <| WL.nil <| ?_
        try simp only [pS]
        go_upto_region 6 with fail
        refine wp_region_held_drew (S := fun w' => Own 52 30 w' 0 t.a t.k t.l (mgL ms)) rfl (HF.out.drew.tl 0 _ rfl) (fun hH => ?_)
        have HF : Hid _ := HF.out.drew
        generalize wk2.drew = wk3 at HF hH ⊢
        refine xV 0 35 (pV b 0) hH <| xV 1 36 (pV b 0) hH <| xV 2 37 (pV b 0) hH <| xV 3 38 (pV b 6) hH <| xV 5 40 t.v hH <| xV 6 41 (.int .i64 ((i : Nat) : Int)) hH <| xU 7 42 (pV gt (0 + i * 30)) (fun w' hw => exec_ixS 71 30 E71 F71 _ _ rfl hgt (by omega)) hH <| xL 8 43 52 ⟨gt, 0 + i * 30, none⟩ (.agg (Mg.cells m)) (fun _ hw => (load_part (n := 0) (own_cell (hw) hgt (mgL_c ms) (by decide) hmi) (part_of (off := 0) (sub := Mg.cs m) (by kernel_rfl)) U52 rfl S52)) hH <| ?_
        try simp only [pS]
        refine any_pick (rs := [4, 9]) (by kernel_rfl) (by simp) ?_
        intro i hi
        rcases pick2 hi with rfl | rfl
        ·skip
         clear hi
         refine step_run (i := 4) (o := { dst := some 39, op := Op.load 71 (Operand.tmp 38), type := 71, pos := "world.go:92", after := #[{ on := 3, ground := Ground.data }], guard := none }) (v := v2.un.v) (w' := wk3) rfl (by kernel_rfl) (exec_load 71 _ rfl ⟨b, 6, none⟩ (by kernel_rfl) (v2.un.v) (ld1 HF.out.wbox 6 U71 rfl)) hH (fun hH => ?_)
         try simp only [pS]
         refine any_step (i := 9) (o := { dst := some 44, op := Op.buildSlice 71 1 #[(0, Operand.tmp 43)], type := 71, pos := "world.go:92", after := #[{ on := 8, ground := Ground.data }], guard := none }) rfl (by kernel_rfl) (by kernel_rfl) (exec_slice2 71 52 _ rfl (Mg.cells m) (.agg (Mg.cells m)) (by kernel_rfl) (by kernel_rfl)) ((Own.no (hH) ((Kept.refl No _).alloc _))) (fun hH => ?_)
         try simp only [pS]
         have HF : Hid _ := HF.out.alloc 52 (Mg.cells m)
         generalize wk3.alloc (.cells (Mg.cells m) 52) = wk5 at HF hH ⊢
         generalize wk3.heap.size = gk4 at HF ⊢
         obtain ⟨a1, k1, W2, hap, hkJ, hbY, J3, hG⟩ := HF.out.pushU (e := p) (y := m) (g := gk4) (cc := 1) (by omega) ⟨hme, HF.out.qs i (m.bl, p.z) hqi⟩ (fun j u hj => by rw [addr_add, Nat.zero_add, (HF.out.box 0 _ _ _ rfl).cell]; simpa [Mg.cells] using hj)
         refine xP 10 45 (.slice a1 (v2.un.l + 1) k1) (w' := W2) (exec_appN _ _ 71 71 rfl _ _ (by kernel_rfl) (by kernel_rfl) hap) ((HF.out.tlJ hkJ 0 rfl)) (fun hH => ?_)
         try simp only [pS]
         refine xV 11 46 (pV b 0) hH <| xV 12 47 (pV b 6) hH <| ?_
         try simp only [pS]
         refine xS 13 71 ⟨b, 6, none⟩ (.slice a1 (v2.un.l + 1) k1) (w' := W2.setRow b (Wv.cells ⟨v2.gp, v2.hd, v2.mm, v2.aa, v2.rr, v2.gn, ⟨a1, v2.un.l + 1, k1⟩, v2.ds, v2.ls, v2.now, v2.br⟩)) (rs (Wv.cs v2) ([.slice a1 (v2.un.l + 1) k1]) (Wv.cs ⟨v2.gp, v2.hd, v2.mm, v2.aa, v2.rr, v2.gn, ⟨a1, v2.un.l + 1, k1⟩, v2.ds, v2.ls, v2.now, v2.br⟩) (hbY) S71 (by simp [Value.oneCell', Sl.v])) ((hG.tl 0 _ rfl)) (fun hH => ?_)
         try simp only [pS]
         have HF : Hid (Wg w (W2.setRow b (Wv.cells ⟨v2.gp, v2.hd, v2.mm, v2.aa, v2.rr, v2.gn, ⟨a1, v2.un.l + 1, k1⟩, v2.ds, v2.ls, v2.now, v2.br⟩)) n0 J J3 b ⟨v2.gp, v2.hd, v2.mm, v2.aa, v2.rr, v2.gn, ⟨a1, v2.un.l + 1, k1⟩, v2.ds, v2.ls, v2.now, v2.br⟩ ({ Y with un := Y.un ++ [p] }) mp2 I2 H2 (U2 ++ [m]) D2 L2 [(gk4, 52, Mg.cells m)] [(t, 52, 30, mgL ms)] (bqs ps ms)) := hG
         try clear hG
         generalize W2.setRow b (Wv.cells ⟨v2.gp, v2.hd, v2.mm, v2.aa, v2.rr, v2.gn, ⟨a1, v2.un.l + 1, k1⟩, v2.ds, v2.ls, v2.now, v2.br⟩) = wk6 at HF hH ⊢
         refine wpAnyH_done (by kernel_rfl) ?_ _
         try simp only [pS]
         clear hH
         have HF : Hid (Wg w wk6 n0 J J3 b ⟨v2.gp, v2.hd, v2.mm, v2.aa, v2.rr, v2.gn, ⟨a1, v2.un.l + 1, k1⟩, v2.ds, v2.ls, v2.now, v2.br⟩ ({ Y with un := Y.un ++ [p] }) mp2 I2 H2 (U2 ++ [m]) D2 L2 [] [(t, 52, 30, mgL ms)] (bqs ps ms)) := Wg.front (l := []) HF.out
         go_upto_region 2 with fail
         refine WL.start <| uK (.int .i64 ((i : Nat) : Int)) <| uB .add 3 (.int .i64 ((i : Nat) : Int)) (.int .i64 1) (.int .i64 (((i + 1) : Nat) : Int)) (b_addw _ _ _ (by rw [IntKind.wrap_i64]; omega) _) <| uK (.int .i64 (((i + 1) : Nat) : Int)) <| WL.nil <| ?_
         try simp only [pS]
         rw [← hst2] at HF
         go_wp2
         go_roundw
         case rel => exact ⟨i + 1, J3, ⟨v2.gp, v2.hd, v2.mm, v2.aa, v2.rr, v2.gn, ⟨a1, v2.un.l + 1, k1⟩, v2.ds, v2.ls, v2.now, v2.br⟩, mp2, I2, H2, U2 ++ [m], D2, L2, by go_num, by omega, HF⟩
         case measure => simp [intOf]; omega
        ·skip
         clear hi
         refine step_run (i := 9) (o := { dst := some 44, op := Op.buildSlice 71 1 #[(0, Operand.tmp 43)], type := 71, pos := "world.go:92", after := #[{ on := 8, ground := Ground.data }], guard := none }) rfl (by kernel_rfl) (exec_slice2 71 52 _ rfl (Mg.cells m) (.agg (Mg.cells m)) (by kernel_rfl) (by kernel_rfl)) ((Own.no (hH) ((Kept.refl No _).alloc _))) (fun hH => ?_)
         try simp only [pS]
         have HF : Hid _ := HF.out.alloc 52 (Mg.cells m)
         generalize wk3.alloc (.cells (Mg.cells m) 52) = wk8 at HF hH ⊢
         generalize wk3.heap.size = gk7 at HF ⊢
         refine xP 4 39 v2.un.v (w' := wk8) (exec_load 71 _ rfl ⟨b, 6, none⟩ (by kernel_rfl) (v2.un.v) (ld1 HF.out.wbox 6 U71 rfl)) hH (fun hH => ?_)
         try simp only [pS]
         obtain ⟨a1, k1, W2, hap, hkJ, hbY, J3, hG⟩ := HF.out.pushU (e := p) (y := m) (g := gk7) (cc := 1) (by omega) ⟨hme, HF.out.qs i (m.bl, p.z) hqi⟩ (fun j u hj => by rw [addr_add, Nat.zero_add, (HF.out.box 0 _ _ _ rfl).cell]; simpa [Mg.cells] using hj)
         refine xP 10 45 (.slice a1 (v2.un.l + 1) k1) (w' := W2) (exec_appN _ _ 71 71 rfl _ _ (by kernel_rfl) (by kernel_rfl) hap) ((HF.out.tlJ hkJ 0 rfl)) (fun hH => ?_)
         try simp only [pS]
         refine xV 11 46 (pV b 0) hH <| xV 12 47 (pV b 6) hH <| ?_
         try simp only [pS]
         refine xS 13 71 ⟨b, 6, none⟩ (.slice a1 (v2.un.l + 1) k1) (w' := W2.setRow b (Wv.cells ⟨v2.gp, v2.hd, v2.mm, v2.aa, v2.rr, v2.gn, ⟨a1, v2.un.l + 1, k1⟩, v2.ds, v2.ls, v2.now, v2.br⟩)) (rs (Wv.cs v2) ([.slice a1 (v2.un.l + 1) k1]) (Wv.cs ⟨v2.gp, v2.hd, v2.mm, v2.aa, v2.rr, v2.gn, ⟨a1, v2.un.l + 1, k1⟩, v2.ds, v2.ls, v2.now, v2.br⟩) (hbY) S71 (by simp [Value.oneCell', Sl.v])) ((hG.tl 0 _ rfl)) (fun hH => ?_)
         try simp only [pS]
         have HF : Hid (Wg w (W2.setRow b (Wv.cells ⟨v2.gp, v2.hd, v2.mm, v2.aa, v2.rr, v2.gn, ⟨a1, v2.un.l + 1, k1⟩, v2.ds, v2.ls, v2.now, v2.br⟩)) n0 J J3 b ⟨v2.gp, v2.hd, v2.mm, v2.aa, v2.rr, v2.gn, ⟨a1, v2.un.l + 1, k1⟩, v2.ds, v2.ls, v2.now, v2.br⟩ ({ Y with un := Y.un ++ [p] }) mp2 I2 H2 (U2 ++ [m]) D2 L2 [(gk7, 52, Mg.cells m)] [(t, 52, 30, mgL ms)] (bqs ps ms)) := hG
         try clear hG
         generalize W2.setRow b (Wv.cells ⟨v2.gp, v2.hd, v2.mm, v2.aa, v2.rr, v2.gn, ⟨a1, v2.un.l + 1, k1⟩, v2.ds, v2.ls, v2.now, v2.br⟩) = wk9 at HF hH ⊢
         refine wpAnyH_done (by kernel_rfl) ?_ _
         try simp only [pS]
         clear hH
         have HF : Hid (Wg w wk9 n0 J J3 b ⟨v2.gp, v2.hd, v2.mm, v2.aa, v2.rr, v2.gn, ⟨a1, v2.un.l + 1, k1⟩, v2.ds, v2.ls, v2.now, v2.br⟩ ({ Y with un := Y.un ++ [p] }) mp2 I2 H2 (U2 ++ [m]) D2 L2 [] [(t, 52, 30, mgL ms)] (bqs ps ms)) := Wg.front (l := []) HF.out
         go_upto_region 2 with fail
         refine WL.start <| uK (.int .i64 ((i : Nat) : Int)) <| uB .add 3 (.int .i64 ((i : Nat) : Int)) (.int .i64 1) (.int .i64 (((i + 1) : Nat) : Int)) (b_addw _ _ _ (by rw [IntKind.wrap_i64]; omega) _) <| uK (.int .i64 (((i + 1) : Nat) : Int)) <| WL.nil <| ?_
         try simp only [pS]
         rw [← hst2] at HF
         go_wp2
         go_roundw
         case rel => exact ⟨i + 1, J3, ⟨v2.gp, v2.hd, v2.mm, v2.aa, v2.rr, v2.gn, ⟨a1, v2.un.l + 1, k1⟩, v2.ds, v2.ls, v2.now, v2.br⟩, mp2, I2, H2, U2 ++ [m], D2, L2, by go_num, by omega, HF⟩
         case measure => simp [intOf]; omega
      · skip
        have hst2 : sendW x (ps.take (i + 1)) = Y := by rw [hst, hs1, if_neg (by omega)]
        go_upto_region 5 with fail
        refine WL.start <| uK (pV b 0) <| uK (pV b 0) <| uK (pV b 6) <| uL 71 ⟨b, 6, none⟩ (v2.un.v) (ld1 HF.out.wbox 6 U71 rfl) <| uK (.int .i64 ((v2.un.l : Nat) : Int)) <| uB .lss 3 (.int .i64 ((v2.un.l : Nat) : Int)) (.int .i64 300) (.bool false) (by rw [b_lss, decide_eq_false (by omega)]) <| WL.nil <| ?_
        try simp only [pS]
        go_upto_region 2 with fail
        refine WL.start <| uK (.int .i64 ((i : Nat) : Int)) <| uB .add 3 (.int .i64 ((i : Nat) : Int)) (.int .i64 1) (.int .i64 (((i + 1) : Nat) : Int)) (b_addw _ _ _ (by rw [IntKind.wrap_i64]; omega) _) <| uK (.int .i64 (((i + 1) : Nat) : Int)) <| WL.nil <| ?_
        try simp only [pS]
        rw [← hst2] at HF
        go_wp2
        go_roundw
        case rel => exact ⟨i + 1, J2, v2, mp2, I2, H2, U2, D2, L2, by go_num, by omega, HF⟩
        case measure => simp [intOf]; omega
    · skip
      have hs1 : send1 X p = if X.un.length < 300 then { X with un := X.un ++ [p] } else X := send1_no (by omega)
      go_upto_region 1 with fail
      refine WL.start <| uK (.int .i64 ((i : Nat) : Int)) <| uK (t.v) <| uK (.int .i64 ((t.l : Nat) : Int)) <| uB .lss 3 (.int .i64 ((i : Nat) : Int)) (.int .i64 ((t.l : Nat) : Int)) (.bool true) (by rw [b_lss, decide_eq_true (by omega)]) <| WL.nil <| ?_
      try simp only [pS]
      go_upto_region 3 with fail
      refine WL.start <| uK (t.v) <| uK (.int .i64 ((i : Nat) : Int)) <| uW (pV gt (0 + i * 30)) (exec_ixS 71 30 E71 F71 _ _ rfl hgt (by omega)) <| uK (pV gt (0 + i * 30)) <| uL 3 ⟨gt, 0 + i * 30, none⟩ (.int .i64 m.k) (load_one ((own_cell (show Own 52 30 wr 0 t.a t.k t.l (mgL ms) from HF.out.tl 0 _ rfl) hgt (mgL_c ms) (by decide) hmi) 0 _ (by kernel_rfl)) U3 rfl) <| uB .eql 3 (.int .i64 m.k) (.int .i64 2) (.bool false) (by rw [b_eql, beq_eq_false_iff_ne.2 (by omega)]) <| WL.nil <| ?_
      try simp only [pS]
      have hun := HF.out.unl
      by_cases hfew : v1.un.l < 300
      · skip
        have hst2 : sendW x (ps.take (i + 1)) = { X with un := X.un ++ [p] } := by rw [hst, hs1, if_pos (by omega)]
        go_upto_region 5 with fail
        refine WL.start <| uK (pV b 0) <| uK (pV b 0) <| uK (pV b 6) <| uL 71 ⟨b, 6, none⟩ (v1.un.v) (ld1 HF.out.wbox 6 U71 rfl) <| uK (.int .i64 ((v1.un.l : Nat) : Int)) <| uB .lss 3 (.int .i64 ((v1.un.l : Nat) : Int)) (.int .i64 300) (.bool true) (by rw [b_lss, decide_eq_true (by omega)]) <| WL.nil <| ?_
        try simp only [pS]
        go_upto_region 6 with fail
        refine wp_region_held_drew (S := fun w' => Own 52 30 w' 0 t.a t.k t.l (mgL ms)) rfl (HF.out.drew.tl 0 _ rfl) (fun hH => ?_)
        have HF : Hid _ := HF.out.drew
        generalize wr.drew = wk10 at HF hH ⊢
        refine xV 0 35 (pV b 0) hH <| xV 1 36 (pV b 0) hH <| xV 2 37 (pV b 0) hH <| xV 3 38 (pV b 6) hH <| xV 5 40 t.v hH <| xV 6 41 (.int .i64 ((i : Nat) : Int)) hH <| xU 7 42 (pV gt (0 + i * 30)) (fun w' hw => exec_ixS 71 30 E71 F71 _ _ rfl hgt (by omega)) hH <| xL 8 43 52 ⟨gt, 0 + i * 30, none⟩ (.agg (Mg.cells m)) (fun _ hw => (load_part (n := 0) (own_cell (hw) hgt (mgL_c ms) (by decide) hmi) (part_of (off := 0) (sub := Mg.cs m) (by kernel_rfl)) U52 rfl S52)) hH <| ?_
        try simp only [pS]
        refine any_pick (rs := [4, 9]) (by kernel_rfl) (by simp) ?_
        intro i hi
        rcases pick2 hi with rfl | rfl
        ·skip
         clear hi
         refine step_run (i := 4) (o := { dst := some 39, op := Op.load 71 (Operand.tmp 38), type := 71, pos := "world.go:92", after := #[{ on := 3, ground := Ground.data }], guard := none }) (v := v1.un.v) (w' := wk10) rfl (by kernel_rfl) (exec_load 71 _ rfl ⟨b, 6, none⟩ (by kernel_rfl) (v1.un.v) (ld1 HF.out.wbox 6 U71 rfl)) hH (fun hH => ?_)
         try simp only [pS]
         refine any_step (i := 9) (o := { dst := some 44, op := Op.buildSlice 71 1 #[(0, Operand.tmp 43)], type := 71, pos := "world.go:92", after := #[{ on := 8, ground := Ground.data }], guard := none }) rfl (by kernel_rfl) (by kernel_rfl) (exec_slice2 71 52 _ rfl (Mg.cells m) (.agg (Mg.cells m)) (by kernel_rfl) (by kernel_rfl)) ((Own.no (hH) ((Kept.refl No _).alloc _))) (fun hH => ?_)
         try simp only [pS]
         have HF : Hid _ := HF.out.alloc 52 (Mg.cells m)
         generalize wk10.alloc (.cells (Mg.cells m) 52) = wk12 at HF hH ⊢
         generalize wk10.heap.size = gk11 at HF ⊢
         obtain ⟨a1, k1, W2, hap, hkJ, hbY, J3, hG⟩ := HF.out.pushU (e := p) (y := m) (g := gk11) (cc := 1) (by omega) ⟨hme, HF.out.qs i (m.bl, p.z) hqi⟩ (fun j u hj => by rw [addr_add, Nat.zero_add, (HF.out.box 0 _ _ _ rfl).cell]; simpa [Mg.cells] using hj)
         refine xP 10 45 (.slice a1 (v1.un.l + 1) k1) (w' := W2) (exec_appN _ _ 71 71 rfl _ _ (by kernel_rfl) (by kernel_rfl) hap) ((HF.out.tlJ hkJ 0 rfl)) (fun hH => ?_)
         try simp only [pS]
         refine xV 11 46 (pV b 0) hH <| xV 12 47 (pV b 6) hH <| ?_
         try simp only [pS]
         refine xS 13 71 ⟨b, 6, none⟩ (.slice a1 (v1.un.l + 1) k1) (w' := W2.setRow b (Wv.cells ⟨v1.gp, v1.hd, v1.mm, v1.aa, v1.rr, v1.gn, ⟨a1, v1.un.l + 1, k1⟩, v1.ds, v1.ls, v1.now, v1.br⟩)) (rs (Wv.cs v1) ([.slice a1 (v1.un.l + 1) k1]) (Wv.cs ⟨v1.gp, v1.hd, v1.mm, v1.aa, v1.rr, v1.gn, ⟨a1, v1.un.l + 1, k1⟩, v1.ds, v1.ls, v1.now, v1.br⟩) (hbY) S71 (by simp [Value.oneCell', Sl.v])) ((hG.tl 0 _ rfl)) (fun hH => ?_)
         try simp only [pS]
         have HF : Hid (Wg w (W2.setRow b (Wv.cells ⟨v1.gp, v1.hd, v1.mm, v1.aa, v1.rr, v1.gn, ⟨a1, v1.un.l + 1, k1⟩, v1.ds, v1.ls, v1.now, v1.br⟩)) n0 J J3 b ⟨v1.gp, v1.hd, v1.mm, v1.aa, v1.rr, v1.gn, ⟨a1, v1.un.l + 1, k1⟩, v1.ds, v1.ls, v1.now, v1.br⟩ ({ X with un := X.un ++ [p] }) mp1 I1 H1 (U1 ++ [m]) D1 L1 [(gk11, 52, Mg.cells m)] [(t, 52, 30, mgL ms)] (bqs ps ms)) := hG
         try clear hG
         generalize W2.setRow b (Wv.cells ⟨v1.gp, v1.hd, v1.mm, v1.aa, v1.rr, v1.gn, ⟨a1, v1.un.l + 1, k1⟩, v1.ds, v1.ls, v1.now, v1.br⟩) = wk13 at HF hH ⊢
         refine wpAnyH_done (by kernel_rfl) ?_ _
         try simp only [pS]
         clear hH
         have HF : Hid (Wg w wk13 n0 J J3 b ⟨v1.gp, v1.hd, v1.mm, v1.aa, v1.rr, v1.gn, ⟨a1, v1.un.l + 1, k1⟩, v1.ds, v1.ls, v1.now, v1.br⟩ ({ X with un := X.un ++ [p] }) mp1 I1 H1 (U1 ++ [m]) D1 L1 [] [(t, 52, 30, mgL ms)] (bqs ps ms)) := Wg.front (l := []) HF.out
         go_upto_region 2 with fail
         refine WL.start <| uK (.int .i64 ((i : Nat) : Int)) <| uB .add 3 (.int .i64 ((i : Nat) : Int)) (.int .i64 1) (.int .i64 (((i + 1) : Nat) : Int)) (b_addw _ _ _ (by rw [IntKind.wrap_i64]; omega) _) <| uK (.int .i64 (((i + 1) : Nat) : Int)) <| WL.nil <| ?_
         try simp only [pS]
         rw [← hst2] at HF
         go_wp2
         go_roundw
         case rel => exact ⟨i + 1, J3, ⟨v1.gp, v1.hd, v1.mm, v1.aa, v1.rr, v1.gn, ⟨a1, v1.un.l + 1, k1⟩, v1.ds, v1.ls, v1.now, v1.br⟩, mp1, I1, H1, U1 ++ [m], D1, L1, by go_num, by omega, HF⟩
         case measure => simp [intOf]; omega
        ·skip
         clear hi
         refine step_run (i := 9) (o := { dst := some 44, op := Op.buildSlice 71 1 #[(0, Operand.tmp 43)], type := 71, pos := "world.go:92", after := #[{ on := 8, ground := Ground.data }], guard := none }) rfl (by kernel_rfl) (exec_slice2 71 52 _ rfl (Mg.cells m) (.agg (Mg.cells m)) (by kernel_rfl) (by kernel_rfl)) ((Own.no (hH) ((Kept.refl No _).alloc _))) (fun hH => ?_)
         try simp only [pS]
         have HF : Hid _ := HF.out.alloc 52 (Mg.cells m)
         generalize wk10.alloc (.cells (Mg.cells m) 52) = wk15 at HF hH ⊢
         generalize wk10.heap.size = gk14 at HF ⊢
         refine xP 4 39 v1.un.v (w' := wk15) (exec_load 71 _ rfl ⟨b, 6, none⟩ (by kernel_rfl) (v1.un.v) (ld1 HF.out.wbox 6 U71 rfl)) hH (fun hH => ?_)
         try simp only [pS]
         obtain ⟨a1, k1, W2, hap, hkJ, hbY, J3, hG⟩ := HF.out.pushU (e := p) (y := m) (g := gk14) (cc := 1) (by omega) ⟨hme, HF.out.qs i (m.bl, p.z) hqi⟩ (fun j u hj => by rw [addr_add, Nat.zero_add, (HF.out.box 0 _ _ _ rfl).cell]; simpa [Mg.cells] using hj)
         refine xP 10 45 (.slice a1 (v1.un.l + 1) k1) (w' := W2) (exec_appN _ _ 71 71 rfl _ _ (by kernel_rfl) (by kernel_rfl) hap) ((HF.out.tlJ hkJ 0 rfl)) (fun hH => ?_)
         try simp only [pS]
         refine xV 11 46 (pV b 0) hH <| xV 12 47 (pV b 6) hH <| ?_
         try simp only [pS]
         refine xS 13 71 ⟨b, 6, none⟩ (.slice a1 (v1.un.l + 1) k1) (w' := W2.setRow b (Wv.cells ⟨v1.gp, v1.hd, v1.mm, v1.aa, v1.rr, v1.gn, ⟨a1, v1.un.l + 1, k1⟩, v1.ds, v1.ls, v1.now, v1.br⟩)) (rs (Wv.cs v1) ([.slice a1 (v1.un.l + 1) k1]) (Wv.cs ⟨v1.gp, v1.hd, v1.mm, v1.aa, v1.rr, v1.gn, ⟨a1, v1.un.l + 1, k1⟩, v1.ds, v1.ls, v1.now, v1.br⟩) (hbY) S71 (by simp [Value.oneCell', Sl.v])) ((hG.tl 0 _ rfl)) (fun hH => ?_)
         try simp only [pS]
         have HF : Hid (Wg w (W2.setRow b (Wv.cells ⟨v1.gp, v1.hd, v1.mm, v1.aa, v1.rr, v1.gn, ⟨a1, v1.un.l + 1, k1⟩, v1.ds, v1.ls, v1.now, v1.br⟩)) n0 J J3 b ⟨v1.gp, v1.hd, v1.mm, v1.aa, v1.rr, v1.gn, ⟨a1, v1.un.l + 1, k1⟩, v1.ds, v1.ls, v1.now, v1.br⟩ ({ X with un := X.un ++ [p] }) mp1 I1 H1 (U1 ++ [m]) D1 L1 [(gk14, 52, Mg.cells m)] [(t, 52, 30, mgL ms)] (bqs ps ms)) := hG
         try clear hG
         generalize W2.setRow b (Wv.cells ⟨v1.gp, v1.hd, v1.mm, v1.aa, v1.rr, v1.gn, ⟨a1, v1.un.l + 1, k1⟩, v1.ds, v1.ls, v1.now, v1.br⟩) = wk16 at HF hH ⊢
         refine wpAnyH_done (by kernel_rfl) ?_ _
         try simp only [pS]
         clear hH
         have HF : Hid (Wg w wk16 n0 J J3 b ⟨v1.gp, v1.hd, v1.mm, v1.aa, v1.rr, v1.gn, ⟨a1, v1.un.l + 1, k1⟩, v1.ds, v1.ls, v1.now, v1.br⟩ ({ X with un := X.un ++ [p] }) mp1 I1 H1 (U1 ++ [m]) D1 L1 [] [(t, 52, 30, mgL ms)] (bqs ps ms)) := Wg.front (l := []) HF.out
         go_upto_region 2 with fail
         refine WL.start <| uK (.int .i64 ((i : Nat) : Int)) <| uB .add 3 (.int .i64 ((i : Nat) : Int)) (.int .i64 1) (.int .i64 (((i + 1) : Nat) : Int)) (b_addw _ _ _ (by rw [IntKind.wrap_i64]; omega) _) <| uK (.int .i64 (((i + 1) : Nat) : Int)) <| WL.nil <| ?_
         try simp only [pS]
         rw [← hst2] at HF
         go_wp2
         go_roundw
         case rel => exact ⟨i + 1, J3, ⟨v1.gp, v1.hd, v1.mm, v1.aa, v1.rr, v1.gn, ⟨a1, v1.un.l + 1, k1⟩, v1.ds, v1.ls, v1.now, v1.br⟩, mp1, I1, H1, U1 ++ [m], D1, L1, by go_num, by omega, HF⟩
         case measure => simp [intOf]; omega
      · skip
        have hst2 : sendW x (ps.take (i + 1)) = X := by rw [hst, hs1, if_neg (by omega)]
        go_upto_region 5 with fail
        refine WL.start <| uK (pV b 0) <| uK (pV b 0) <| uK (pV b 6) <| uL 71 ⟨b, 6, none⟩ (v1.un.v) (ld1 HF.out.wbox 6 U71 rfl) <| uK (.int .i64 ((v1.un.l : Nat) : Int)) <| uB .lss 3 (.int .i64 ((v1.un.l : Nat) : Int)) (.int .i64 300) (.bool false) (by rw [b_lss, decide_eq_false (by omega)]) <| WL.nil <| ?_
        try simp only [pS]
        go_upto_region 2 with fail
        refine WL.start <| uK (.int .i64 ((i : Nat) : Int)) <| uB .add 3 (.int .i64 ((i : Nat) : Int)) (.int .i64 1) (.int .i64 (((i + 1) : Nat) : Int)) (b_addw _ _ _ (by rw [IntKind.wrap_i64]; omega) _) <| uK (.int .i64 (((i + 1) : Nat) : Int)) <| WL.nil <| ?_
        try simp only [pS]
        rw [← hst2] at HF
        go_wp2
        go_roundw
        case rel => exact ⟨i + 1, J1, v1, mp1, I1, H1, U1, D1, L1, by go_num, by omega, HF⟩
        case measure => simp [intOf]; omega
  · skip
    go_upto_region 1 with fail
    refine WL.start <| uK (.int .i64 ((i : Nat) : Int)) <| uK (t.v) <| uK (.int .i64 ((t.l : Nat) : Int)) <| uB .lss 3 (.int .i64 ((i : Nat) : Int)) (.int .i64 ((t.l : Nat) : Int)) (.bool false) (by rw [b_lss, decide_eq_false (by omega)]) <| WL.nil <| ?_
    try simp only [pS]
    go_wp2
    rw [HC.out]
    have e : sendW x ps = sendW x (ps.take i) := by rw [List.take_of_length_le (by omega)]
    rw [e]
    refine bodyPost_end (v := .tuple #[]) (by kernel_rfl) rfl ⟨rfl, HF.out.out⟩
end Go.Proofs.Ytgiokkcdgoloaaa.Md
