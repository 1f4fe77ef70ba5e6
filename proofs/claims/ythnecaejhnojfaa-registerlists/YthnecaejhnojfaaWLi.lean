import Derived.Test.YthnecaejhnojfaaLe
namespace Go.Proofs.Ythnecaejhnojfaa.Md
open Go.RowKit
set_option linter.unusedVariables false
set_option linter.unusedSimpArgs false

set_option maxRecDepth 100000 in
set_option maxHeartbeats 4000000 in
theorem listsWalk (sa : Option Addr) (n sk : Nat) (wr : Bool) (da : Option Addr) (dl dk : Nat) (gs zs : List Int) (w : World) (hg : RdI w ⟨sa, n, sk⟩ gs) (hg0 : sa = none → sk = 0) (hb : RdB w ⟨da, dl, dk⟩ zs) (hl : dl ≤ 140737488351232) : Calls Try.prog 4 #[.slice sa n sk, .bool wr, .slice da dl dk] w (fun e w' => e = .returned (.bool true) ∧ Kept No w w') := by
  obtain ⟨C, hC⟩ : ∃ C : Ending → World → Prop, C = (fun e w' => e = .returned (.bool true) ∧ Kept No w w') := ⟨_, rfl⟩
  have HC : Hid (C = (fun e w' => e = .returned (.bool true) ∧ Kept No w w')) := hC
  rw [← hC]
  clear hC
  have HG : Hid (RdI w ⟨sa, n, sk⟩ gs) := hg
  have HD : Hid (RdB w ⟨da, dl, dk⟩ zs) := hb
  have hoff := rdB_lt hb
  clear hg hb
  have HF : Hid (Fq No w w []) := Fq.start _ _
  go_enter Try.func4, Try.ntmps4
  go_upto_region 0 with fail
  refine WL.start <| uK (.bool false) <| WL.nil <| ?_
  try simp only [pS]
  go_upto_region 1 with fail
  refine WL.start <| uK (.slice sa n sk) <| uK (.int .i64 ((n : Nat) : Int)) <| ?_
  try simp only [pS]
  cases q1 : (decide (100 < ((n : Nat) : Int)))
  ·skip
   refine uB .gtr 3 (.int .i64 ((n : Nat) : Int)) (.int .i64 100) (.bool false) (by rw [b_gtr, q1]; try rfl) <| WL.nil <| ?_
   try simp only [pS]
   go_upto_region 3 with fail
   refine WL.start <| uK (.bool wr) <| uW (.agg (Ky.cells ⟨1, 3, 1, 0⟩)) (exec_build 23 _ rfl (Ky.cells ⟨1, 3, 1, 0⟩) (by kernel_rfl)) <| uK (.slice sa n sk) <| uK (.slice da dl dk) <| uK (.int .i64 ((dl : Nat) : Int)) <| uK (.slice da dl dk) <| uW (.agg (Aq.cells ⟨wr, 3, 1, ⟨1, 3, 1, 0⟩, ⟨sa, n, sk⟩, 7, ((dl : Nat) : Int), ⟨da, dl, dk⟩⟩)) (exec_build 27 _ rfl (Aq.cells ⟨wr, 3, 1, ⟨1, 3, 1, 0⟩, ⟨sa, n, sk⟩, 7, ((dl : Nat) : Int), ⟨da, dl, dk⟩⟩) (by kernel_rfl)) <| ?_
   try simp only [pS]
   refine uR (.pointer (some ⟨w.heap.size, 0, none⟩)) (w.alloc (.cells (Aq.cells aqZ) 27)) (exec_alloc 27 rfl (Aq.cells aqZ) Z27) ?_
   try simp only [pS]
   have HF : Hid (Fq No w (w.alloc (.cells (Aq.cells aqZ) 27)) [(w.heap.size, 27, Aq.cells aqZ)]) := HF.out.alloc _ _
   generalize w.alloc (.cells (Aq.cells aqZ) 27) = wk2 at HF ⊢
   generalize hzgk1 : w.heap.size = gk1 at HF ⊢
   refine uT 27 ⟨gk1, 0, none⟩ (.agg (Aq.cells ⟨wr, 3, 1, ⟨1, 3, 1, 0⟩, ⟨sa, n, sk⟩, 7, ((dl : Nat) : Int), ⟨da, dl, dk⟩⟩)) (wk2.setRow gk1 (Aq.cells ⟨wr, 3, 1, ⟨1, 3, 1, 0⟩, ⟨sa, n, sk⟩, 7, ((dl : Nat) : Int), ⟨da, dl, dk⟩⟩)) (rs (Aq.cs aqZ) (Aq.cs ⟨wr, 3, 1, ⟨1, 3, 1, 0⟩, ⟨sa, n, sk⟩, 7, ((dl : Nat) : Int), ⟨da, dl, dk⟩⟩) (Aq.cs ⟨wr, 3, 1, ⟨1, 3, 1, 0⟩, ⟨sa, n, sk⟩, 7, ((dl : Nat) : Int), ⟨da, dl, dk⟩⟩) (HF.out.box 0 _ _ _ rfl) S27 (Aq.oneL _)) ?_
   try simp only [pS]
   have HF : Hid (Fq No w (wk2.setRow gk1 (Aq.cells ⟨wr, 3, 1, ⟨1, 3, 1, 0⟩, ⟨sa, n, sk⟩, 7, ((dl : Nat) : Int), ⟨da, dl, dk⟩⟩)) [(gk1, 27, Aq.cells ⟨wr, 3, 1, ⟨1, 3, 1, 0⟩, ⟨sa, n, sk⟩, 7, ((dl : Nat) : Int), ⟨da, dl, dk⟩⟩)]) := HF.out.set 0 rfl _
   generalize wk2.setRow gk1 (Aq.cells ⟨wr, 3, 1, ⟨1, 3, 1, 0⟩, ⟨sa, n, sk⟩, 7, ((dl : Nat) : Int), ⟨da, dl, dk⟩⟩) = wk3 at HF ⊢
   refine WL.nil ?_
   try simp only [pS]
   go_upto_region 4 with fail
   refine WL.start <| uL 27 ⟨gk1, 0, none⟩ (.agg (Aq.cells ⟨wr, 3, 1, ⟨1, 3, 1, 0⟩, ⟨sa, n, sk⟩, 7, ((dl : Nat) : Int), ⟨da, dl, dk⟩⟩)) (run_load_part (cs := Aq.cs ⟨wr, 3, 1, ⟨1, 3, 1, 0⟩, ⟨sa, n, sk⟩, 7, ((dl : Nat) : Int), ⟨da, dl, dk⟩⟩) (sub := Aq.cs ⟨wr, 3, 1, ⟨1, 3, 1, 0⟩, ⟨sa, n, sk⟩, 7, ((dl : Nat) : Int), ⟨da, dl, dk⟩⟩) (HF.out.box 0 _ _ _ rfl) (Part.all _) U27 rfl S27) <| ?_
   try simp only [pS]
   refine uC 6 #[.agg (Aq.cells ⟨wr, 3, 1, ⟨1, 3, 1, 0⟩, ⟨sa, n, sk⟩, 7, ((dl : Nat) : Int), ⟨da, dl, dk⟩⟩)] (made_any (H := fun k => k < w.heap.size) wr 3 1 ⟨1, 3, 1, 0⟩ sa n sk 7 ((dl : Nat) : Int) da dl dk gs zs wk3 ⟨Nums.kept HG.out.row HF.out.kept (fun _ _ _ e => e), HG.out.len⟩ hg0 (by have := of_decide_eq_false q1; omega) (HD.out.no HF.out.kept) hl (fun hne k e => ⟨by have := hoff hne k e; have := HF.out.kept.size; omega, hoff hne k e⟩)) ?_
   rintro e wk4 ⟨m, r, g, I, rfl, hW, hR⟩
   obtain ⟨w1, hw1⟩ : ∃ w1, w1 = wk3 := ⟨_, rfl⟩
   rw [← hw1] at hW
   have hk : Kept No wk3 wk4 := by rw [← hw1]; exact hW.kp.mono (fun k l e => by have : w1.heap.size ≤ k := e; omega)
   have hs1 : w.heap.size ≤ w1.heap.size := by rw [hw1]; exact HF.out.kept.size
   have hg1 : gk1 < w1.heap.size := by rw [hw1]; exact (HF.out.box 0 _ _ _ rfl).lt
   obtain ⟨s, hs⟩ : ∃ s, s = (newS wr 3 1 ⟨1, 3, 1, 0⟩ gs 7 ((dl : Nat) : Int) zs) := ⟨_, rfl⟩
   obtain ⟨x, hx⟩ : ∃ x, x = (newR wr 3 1 ⟨1, 3, 1, 0⟩ gs 7 ((dl : Nat) : Int) ⟨da, dl, dk⟩) := ⟨_, rfl⟩
   have hnd : s.zs.Nodup := by rw [hs]; exact uq_nodup gs
   have hfr : s.ph = .fresh := by rw [hs]; rfl
   rw [← hs, ← hx] at hW hR
   clear hs hx
   have HF : Hid (Lr w w1 wk4 m r g I none s s x ([]) 0 slZ [(gk1, 27, Aq.cells ⟨wr, 3, 1, ⟨1, 3, 1, 0⟩, ⟨sa, n, sk⟩, 7, ((dl : Nat) : Int), ⟨da, dl, dk⟩⟩)]) := Lr.start hW hR (HF.out.no hk) hs1 (fun i gg ty cs hi => by
     have h1 := List.mem_of_getElem? hi
     simp at h1
     obtain ⟨rfl, _, _⟩ := h1
     exact ⟨fun e => by have := (hW.ia _ e).1; omega, fun e => by have := hW.jb _ e; omega⟩)
   clear hW hR hk hw1
   refine ⟨.tuple #[.agg #[.iface 84 (.pointer (some ⟨m, 0, none⟩)), .pointer (some ⟨r, 0, none⟩)], .bool true], rfl, ?_⟩
   try simp only [pS]
   refine uK (.tuple #[.agg #[.iface 84 (.pointer (some ⟨m, 0, none⟩)), .pointer (some ⟨r, 0, none⟩)], .bool true]) <| uK (.agg #[.iface 84 (.pointer (some ⟨m, 0, none⟩)), .pointer (some ⟨r, 0, none⟩)]) <| uK (.bool true) <| ?_
   try simp only [pS]
   have hq5 := HF.out.lg.wq.kp.size
   refine uR (.pointer (some ⟨wk4.heap.size, 0, none⟩)) (wk4.alloc (.cells (#[.nilIface, .pointer none]) 34)) (exec_alloc 34 rfl (#[.nilIface, .pointer none]) Z34) ?_
   try simp only [pS]
   have HF : Hid (Lr w w1 (wk4.alloc (.cells (#[.nilIface, .pointer none]) 34)) m r g I none s s x ([]) 0 slZ [(gk1, 27, Aq.cells ⟨wr, 3, 1, ⟨1, 3, 1, 0⟩, ⟨sa, n, sk⟩, 7, ((dl : Nat) : Int), ⟨da, dl, dk⟩⟩), (wk4.heap.size, 34, #[.nilIface, .pointer none])]) := HF.out.alloc _ _
   generalize wk4.alloc (.cells (#[.nilIface, .pointer none]) 34) = wk7 at HF ⊢
   generalize hzgk6 : wk4.heap.size = gk6 at HF ⊢
   refine uT 34 ⟨gk6, 0, none⟩ (.agg #[.iface 84 (.pointer (some ⟨m, 0, none⟩)), .pointer (some ⟨r, 0, none⟩)]) (wk7.setRow gk6 (#[.iface 84 (.pointer (some ⟨m, 0, none⟩)), .pointer (some ⟨r, 0, none⟩)])) (rs ([.nilIface, .pointer none]) ([.iface 84 (.pointer (some ⟨m, 0, none⟩)), .pointer (some ⟨r, 0, none⟩)]) ([.iface 84 (.pointer (some ⟨m, 0, none⟩)), .pointer (some ⟨r, 0, none⟩)]) (HF.out.box 1 _ _ _ rfl) S34 (by simp [Value.oneCell'])) ?_
   try simp only [pS]
   have HF : Hid (Lr w w1 (wk7.setRow gk6 (#[.iface 84 (.pointer (some ⟨m, 0, none⟩)), .pointer (some ⟨r, 0, none⟩)])) m r g I none s s x ([]) 0 slZ [(gk1, 27, Aq.cells ⟨wr, 3, 1, ⟨1, 3, 1, 0⟩, ⟨sa, n, sk⟩, 7, ((dl : Nat) : Int), ⟨da, dl, dk⟩⟩), (gk6, 34, #[.iface 84 (.pointer (some ⟨m, 0, none⟩)), .pointer (some ⟨r, 0, none⟩)])]) := HF.out.set 1 rfl _ (by omega)
   generalize wk7.setRow gk6 (#[.iface 84 (.pointer (some ⟨m, 0, none⟩)), .pointer (some ⟨r, 0, none⟩)]) = wk8 at HF ⊢
   refine uK (.bool true) <| WL.nil <| ?_
   try simp only [pS]
   go_upto_region 5 with fail
   refine WL.start <| uK (.bool true) <| uK (.bool false) <| WL.nil <| ?_
   try simp only [pS]
   go_upto_region 7 with fail
   refine WL.start <| uK (.slice none 0 0) <| WL.nil <| ?_
   try simp only [pS]
   go_upto_region 8 with fail
   refine WL.start <| uK (.int .i64 0) <| WL.nil <| ?_
   try simp only [pS]
   go_wp2
   go_loopw [10, 11] (fun v10 v11 wr' => ∃ (i : Nat) (I : Nat → Prop) (LV : Option (Nat × Nat)) (s : RM) (x : Rx) (X : List It) (al : Sl), v10 = al.v ∧ v11 = .int .i64 ((i : Nat) : Int) ∧ i ≤ 4 ∧ al.l ≤ i ∧ (i = 0 → s.ph = .fresh ∧ s.zs.Nodup) ∧ Hid (Lr w w1 wr' m r g I LV s s x X X.length al [(gk1, 27, Aq.cells ⟨wr, 3, 1, ⟨1, 3, 1, 0⟩, ⟨sa, n, sk⟩, 7, ((dl : Nat) : Int), ⟨da, dl, dk⟩⟩), (gk6, 34, #[.iface 84 (.pointer (some ⟨m, 0, none⟩)), .pointer (some ⟨r, 0, none⟩)])])) (fun _ i _ => 4 - (intOf i).toNat)
   case atStart => exact ⟨0, I, none, s, x, ([]), slZ, by go_num, by go_num, by omega, (Nat.le_refl _), fun _ => ⟨hfr, hnd⟩, HF⟩
   case round =>
     rename World => wo1
     clear HF
     clear hfr hnd
     obtain ⟨i, I, LV, s, x, X, al, rfl, rfl, hi, hal, hib, HF⟩ := hrel
     by_cases hlt : i < 4
     · cases hi0 : (((i : Nat) : Int) == 0)
       · skip
         go_upto_region 9 with fail
         refine WL.start <| uK (.int .i64 ((i : Nat) : Int)) <| uB .lss 3 (.int .i64 ((i : Nat) : Int)) (.int .i64 4) (.bool true) (by rw [b_lss, decide_eq_true (by omega)]) <| WL.nil <| ?_
         try simp only [pS]
         go_upto_region 11 with fail
         refine WL.start <| uK (.pointer (some ⟨gk6, 0, none⟩)) <| uL 31 ⟨gk6, 0, none⟩ (.iface 84 (.pointer (some ⟨m, 0, none⟩))) (load_one ((HF.out.box 1 _ _ _ rfl).cell 0 |>.trans (by kernel_rfl)) U31 V31) <| ?_
         try simp only [pS]
         refine uC 62 #[.pointer (some ⟨m, 0, none⟩)] (tick_M HF.out.lg.wq.mch) ?_
         rintro e wk9 ho
         obtain ⟨y10, I10, rfl, hT, hL⟩ := HF.out.told rfl (Nat.le_refl _) (Nat.le_trans (ss_tik HF.out.lg.wq.mch) HF.out.lg.wq.mch.len) ho
         have HT : Hid (Tel wk9 r g LV X y10 ((s, tikP s))) := hT
         have HF : Hid (Lr w w1 wk9 m r g I10 LV s s x (X ++ [y10]) X.length al [(gk1, 27, Aq.cells ⟨wr, 3, 1, ⟨1, 3, 1, 0⟩, ⟨sa, n, sk⟩, 7, ((dl : Nat) : Int), ⟨da, dl, dk⟩⟩), (gk6, 34, #[.iface 84 (.pointer (some ⟨m, 0, none⟩)), .pointer (some ⟨r, 0, none⟩)])]) := hL
         clear ho hT hL
         refine ⟨y10.v, rfl, ?_⟩
         try simp only [pS]
         refine uK (y10.v) <| WL.nil <| ?_
         try simp only [pS]
         go_upto_region 12 with fail
         refine WL.start <| uK (.int .i64 ((i : Nat) : Int)) <| uB .eql 3 (.int .i64 ((i : Nat) : Int)) (.int .i64 0) (.bool false) (by rw [b_eql, hi0]) <| WL.nil <| ?_
         try simp only [pS]
         go_upto_region 15 with fail
         refine WL.start <| uK (y10.v) <| uK (.pointer (some ⟨gk6, 1, none⟩)) <| uL 32 ⟨gk6, 1, none⟩ (.pointer (some ⟨r, 0, none⟩)) (load_one ((HF.out.box 1 _ _ _ rfl).cell 1 |>.trans (by kernel_rfl)) U32 V32) <| ?_
         try simp only [pS]
         refine uC 11 #[.pointer (some ⟨r, 0, none⟩)] (refTick HF.out.lg.wq (show Rel (Bw (Hx (X ++ [y10]) al [(gk1, 27, Aq.cells ⟨wr, 3, 1, ⟨1, 3, 1, 0⟩, ⟨sa, n, sk⟩, 7, ((dl : Nat) : Int), ⟨da, dl, dk⟩⟩), (gk6, 34, #[.iface 84 (.pointer (some ⟨m, 0, none⟩)), .pointer (some ⟨r, 0, none⟩)])]) wk9 I10 (Jx r g LV)) s x from HF.out.rel)) ?_
         rintro e wk11 ho
         obtain ⟨t12, ls12, LV12, x12, rfl, hRd, hl1, hLk, hk, hJ, hL⟩ := HF.out.ref ho
         have HT : Hid (Tel wk11 r g LV12 X y10 ((s, tikP s))) := HT.out.ref hk hJ
         have HRd : Hid (RdM wk11 t12 ls12) := hRd
         have hl1 : Hid (ls12.length ≤ 1000) := hl1
         have HLk : Hid (LikeT (Bw (Hx (X ++ [y10]) al [(gk1, 27, Aq.cells ⟨wr, 3, 1, ⟨1, 3, 1, 0⟩, ⟨sa, n, sk⟩, 7, ((dl : Nat) : Int), ⟨da, dl, dk⟩⟩), (gk6, 34, #[.iface 84 (.pointer (some ⟨m, 0, none⟩)), .pointer (some ⟨r, 0, none⟩)])]) wk11 I10 (Jx r g LV12)) x12 ((s, tikP s)) ls12) := hLk
         have HF : Hid (Lr w w1 wk11 m r g I10 LV12 s s x12 (X ++ [y10]) X.length al [(gk1, 27, Aq.cells ⟨wr, 3, 1, ⟨1, 3, 1, 0⟩, ⟨sa, n, sk⟩, 7, ((dl : Nat) : Int), ⟨da, dl, dk⟩⟩), (gk6, 34, #[.iface 84 (.pointer (some ⟨m, 0, none⟩)), .pointer (some ⟨r, 0, none⟩)])]) := hL
         clear ho hRd hLk hk hJ hL
         refine ⟨t12.v, rfl, ?_⟩
         try simp only [pS]
         refine uC 10 #[y10.v, t12.v] (HT.out.same HRd.out HLk.out hl1.out) ?_
         rintro e wk13 ⟨rfl, hk⟩
         have HF : Hid (Lr w w1 wk13 m r g I10 LV12 s s x12 (X ++ [y10]) X.length al [(gk1, 27, Aq.cells ⟨wr, 3, 1, ⟨1, 3, 1, 0⟩, ⟨sa, n, sk⟩, 7, ((dl : Nat) : Int), ⟨da, dl, dk⟩⟩), (gk6, 34, #[.iface 84 (.pointer (some ⟨m, 0, none⟩)), .pointer (some ⟨r, 0, none⟩)])]) := HF.out.no hk
         clear hk
         refine ⟨.bool true, rfl, ?_⟩
         try simp only [pS]
         clear HT HRd HLk hl1
         refine uK (.bool false) <| WL.nil <| ?_
         try simp only [pS]
         go_upto_region 17 with fail
         refine WL.start <| uK (al.v) <| uK (y10.v) <| ?_
         try simp only [pS]
         have hq14 := HF.out.lg.wq.kp.size
         refine uR (.slice (some ⟨wk13.heap.size, 0, none⟩) 1 1) (wk13.alloc (.cells (#[y10.v]) 57)) (exec_slice2 56 57 _ rfl (#[y10.v]) (y10.v) (by kernel_rfl) (by kernel_rfl)) ?_
         try simp only [pS]
         have HF : Hid (Lr w w1 (wk13.alloc (.cells (#[y10.v]) 57)) m r g I10 LV12 s s x12 (X ++ [y10]) X.length al [(gk1, 27, Aq.cells ⟨wr, 3, 1, ⟨1, 3, 1, 0⟩, ⟨sa, n, sk⟩, 7, ((dl : Nat) : Int), ⟨da, dl, dk⟩⟩), (gk6, 34, #[.iface 84 (.pointer (some ⟨m, 0, none⟩)), .pointer (some ⟨r, 0, none⟩)]), (wk13.heap.size, 57, #[y10.v])]) := HF.out.alloc _ _
         generalize wk13.alloc (.cells (#[y10.v]) 57) = wk16 at HF ⊢
         generalize hzgk15 : wk13.heap.size = gk15 at HF ⊢
         obtain ⟨a17, k17, wk18, hap, hL⟩ := HF.out.keep (cc := 1) (by omega) (HF.out.box 2 _ _ _ rfl)
         refine uR (.slice a17 (al.l + 1) k17) (wk18) (exec_appN _ _ 56 56 rfl _ _ (by kernel_rfl) (by kernel_rfl) hap) ?_
         try simp only [pS]
         have HF : Hid (Lr w w1 wk18 m r g I10 LV12 s s x12 (X ++ [y10]) ((X ++ [y10]).length) ⟨a17, al.l + 1, k17⟩ [(gk1, 27, Aq.cells ⟨wr, 3, 1, ⟨1, 3, 1, 0⟩, ⟨sa, n, sk⟩, 7, ((dl : Nat) : Int), ⟨da, dl, dk⟩⟩), (gk6, 34, #[.iface 84 (.pointer (some ⟨m, 0, none⟩)), .pointer (some ⟨r, 0, none⟩)]), (gk15, 57, #[y10.v])]) := hL
         clear hap hL
         refine uK (.slice a17 (al.l + 1) k17) <| WL.nil <| ?_
         try simp only [pS]
         go_upto_region 10 with fail
         refine WL.start <| uK (.int .i64 ((i : Nat) : Int)) <| uB .add 3 (.int .i64 ((i : Nat) : Int)) (.int .i64 1) (.int .i64 (((i + 1) : Nat) : Int)) (b_addw _ _ _ (by rw [IntKind.wrap_i64]; omega) _) <| uK (.int .i64 (((i + 1) : Nat) : Int)) <| WL.nil <| ?_
         try simp only [pS]
         go_wp2
         go_roundw
         case rel => exact ⟨i + 1, I10, LV12, s, x12, (X ++ [y10]), ⟨a17, al.l + 1, k17⟩, by go_num, by go_num, by omega, by show al.l + 1 ≤ _; omega, fun h => by omega, (HF.out.front (l := [(gk1, 27, Aq.cells ⟨wr, 3, 1, ⟨1, 3, 1, 0⟩, ⟨sa, n, sk⟩, 7, ((dl : Nat) : Int), ⟨da, dl, dk⟩⟩), (gk6, 34, #[.iface 84 (.pointer (some ⟨m, 0, none⟩)), .pointer (some ⟨r, 0, none⟩)])]) (l2 := [(gk15, 57, #[y10.v])]))⟩
         case measure => simp [intOf]; omega
       · obtain ⟨hbf, hbn⟩ := hib (by have := beq_iff_eq.1 hi0; omega)
         go_upto_region 9 with fail
         refine WL.start <| uK (.int .i64 ((i : Nat) : Int)) <| uB .lss 3 (.int .i64 ((i : Nat) : Int)) (.int .i64 4) (.bool true) (by rw [b_lss, decide_eq_true (by omega)]) <| WL.nil <| ?_
         try simp only [pS]
         go_upto_region 11 with fail
         refine WL.start <| uK (.pointer (some ⟨gk6, 0, none⟩)) <| uL 31 ⟨gk6, 0, none⟩ (.iface 84 (.pointer (some ⟨m, 0, none⟩))) (load_one ((HF.out.box 1 _ _ _ rfl).cell 0 |>.trans (by kernel_rfl)) U31 V31) <| ?_
         try simp only [pS]
         refine uC 62 #[.pointer (some ⟨m, 0, none⟩)] (tick_M HF.out.lg.wq.mch) ?_
         rintro e wk19 ho
         obtain ⟨y20, I20, rfl, hT, hL⟩ := HF.out.told rfl (Nat.le_refl _) (Nat.le_trans (ss_tik HF.out.lg.wq.mch) HF.out.lg.wq.mch.len) ho
         have HT : Hid (Tel wk19 r g LV X y20 ((s, tikP s))) := hT
         have HF : Hid (Lr w w1 wk19 m r g I20 LV s s x (X ++ [y20]) X.length al [(gk1, 27, Aq.cells ⟨wr, 3, 1, ⟨1, 3, 1, 0⟩, ⟨sa, n, sk⟩, 7, ((dl : Nat) : Int), ⟨da, dl, dk⟩⟩), (gk6, 34, #[.iface 84 (.pointer (some ⟨m, 0, none⟩)), .pointer (some ⟨r, 0, none⟩)])]) := hL
         clear ho hT hL
         refine ⟨y20.v, rfl, ?_⟩
         try simp only [pS]
         refine uK (y20.v) <| WL.nil <| ?_
         try simp only [pS]
         go_upto_region 12 with fail
         refine WL.start <| uK (.int .i64 ((i : Nat) : Int)) <| uB .eql 3 (.int .i64 ((i : Nat) : Int)) (.int .i64 0) (.bool true) (by rw [b_eql, hi0]) <| WL.nil <| ?_
         try simp only [pS]
         go_upto_region 13 with fail
         refine WL.start <| uK (.pointer (some ⟨gk6, 0, none⟩)) <| uL 31 ⟨gk6, 0, none⟩ (.iface 84 (.pointer (some ⟨m, 0, none⟩))) (load_one ((HF.out.box 1 _ _ _ rfl).cell 0 |>.trans (by kernel_rfl)) U31 V31) <| ?_
         try simp only [pS]
         have HF : Hid (Lr w w1 wk19 m r g I20 LV s s x X X.length al [(gk1, 27, Aq.cells ⟨wr, 3, 1, ⟨1, 3, 1, 0⟩, ⟨sa, n, sk⟩, 7, ((dl : Nat) : Int), ⟨da, dl, dk⟩⟩), (gk6, 34, #[.iface 84 (.pointer (some ⟨m, 0, none⟩)), .pointer (some ⟨r, 0, none⟩)])]) := HF.out.drop (Nat.le_refl _)
         clear HT
         refine uC 58 #[.pointer (some ⟨m, 0, none⟩)] (begin_M HF.out.lg.wq.mch) ?_
         rintro e wk21 ho
         obtain ⟨y22, I22, rfl, hT, hL⟩ := HF.out.told rfl (Nat.le_refl _) (Nat.le_trans (ss_beg _) HF.out.lg.wq.mch.len) ho
         have HT : Hid (Tel wk21 r g LV X y22 (begP s)) := hT
         have HF : Hid (Lr w w1 wk21 m r g I22 LV ((begP s).1) s x (X ++ [y22]) X.length al [(gk1, 27, Aq.cells ⟨wr, 3, 1, ⟨1, 3, 1, 0⟩, ⟨sa, n, sk⟩, 7, ((dl : Nat) : Int), ⟨da, dl, dk⟩⟩), (gk6, 34, #[.iface 84 (.pointer (some ⟨m, 0, none⟩)), .pointer (some ⟨r, 0, none⟩)])]) := hL
         clear ho hT hL
         refine ⟨y22.v, rfl, ?_⟩
         try simp only [pS]
         refine uK (y22.v) <| WL.nil <| ?_
         try simp only [pS]
         go_upto_region 14 with fail
         refine WL.start <| uK (.pointer (some ⟨gk6, 1, none⟩)) <| uL 32 ⟨gk6, 1, none⟩ (.pointer (some ⟨r, 0, none⟩)) (load_one ((HF.out.box 1 _ _ _ rfl).cell 1 |>.trans (by kernel_rfl)) U32 V32) <| ?_
         try simp only [pS]
         refine uC 9 #[.pointer (some ⟨r, 0, none⟩)] (refBegin HF.out.lg.wq (show Rel (Bw (Hx (X ++ [y22]) al [(gk1, 27, Aq.cells ⟨wr, 3, 1, ⟨1, 3, 1, 0⟩, ⟨sa, n, sk⟩, 7, ((dl : Nat) : Int), ⟨da, dl, dk⟩⟩), (gk6, 34, #[.iface 84 (.pointer (some ⟨m, 0, none⟩)), .pointer (some ⟨r, 0, none⟩)])]) wk21 I22 (Jx r g LV)) s x from HF.out.rel)) ?_
         rintro e wk23 ho
         obtain ⟨t24, ls24, LV24, x24, rfl, hRd, hl1, hLk, hk, hJ, hL⟩ := HF.out.ref ho
         have HT : Hid (Tel wk23 r g LV24 X y22 (begP s)) := HT.out.ref hk hJ
         have HRd : Hid (RdM wk23 t24 ls24) := hRd
         have hl1 : Hid (ls24.length ≤ 1000) := hl1
         have HLk : Hid (LikeT (Bw (Hx (X ++ [y22]) al [(gk1, 27, Aq.cells ⟨wr, 3, 1, ⟨1, 3, 1, 0⟩, ⟨sa, n, sk⟩, 7, ((dl : Nat) : Int), ⟨da, dl, dk⟩⟩), (gk6, 34, #[.iface 84 (.pointer (some ⟨m, 0, none⟩)), .pointer (some ⟨r, 0, none⟩)])]) wk23 I22 (Jx r g LV24)) x24 (begP s) ls24) := hLk
         have HF : Hid (Lr w w1 wk23 m r g I22 LV24 ((begP s).1) ((begP s).1) x24 (X ++ [y22]) X.length al [(gk1, 27, Aq.cells ⟨wr, 3, 1, ⟨1, 3, 1, 0⟩, ⟨sa, n, sk⟩, 7, ((dl : Nat) : Int), ⟨da, dl, dk⟩⟩), (gk6, 34, #[.iface 84 (.pointer (some ⟨m, 0, none⟩)), .pointer (some ⟨r, 0, none⟩)])]) := hL
         clear ho hRd hLk hk hJ hL
         refine ⟨t24.v, rfl, ?_⟩
         try simp only [pS]
         refine WL.nil ?_
         try simp only [pS]
         go_upto_region 15 with fail
         refine WL.start <| uK (y22.v) <| uK (.pointer (some ⟨gk6, 1, none⟩)) <| uL 32 ⟨gk6, 1, none⟩ (.pointer (some ⟨r, 0, none⟩)) (load_one ((HF.out.box 1 _ _ _ rfl).cell 1 |>.trans (by kernel_rfl)) U32 V32) <| ?_
         try simp only [pS]
         refine uC 11 #[.pointer (some ⟨r, 0, none⟩)] (refTick HF.out.lg.wq (show Rel (Bw (Hx (X ++ [y22]) al [(gk1, 27, Aq.cells ⟨wr, 3, 1, ⟨1, 3, 1, 0⟩, ⟨sa, n, sk⟩, 7, ((dl : Nat) : Int), ⟨da, dl, dk⟩⟩), (gk6, 34, #[.iface 84 (.pointer (some ⟨m, 0, none⟩)), .pointer (some ⟨r, 0, none⟩)])]) wk23 I22 (Jx r g LV24)) ((begP s).1) x24 from HF.out.rel)) ?_
         rintro e wk25 ho
         obtain ⟨t26, ls26, LV26, x26, rfl, hRd, hl1, hLk, hk, hJ, hL⟩ := HF.out.ref ho
         have HT : Hid (Tel wk25 r g LV26 X y22 (begP s)) := HT.out.ref hk hJ
         have HRd : Hid (RdM wk25 t26 ls26) := hRd
         have hl1 : Hid (ls26.length ≤ 1000) := hl1
         have HLk : Hid (LikeT (Bw (Hx (X ++ [y22]) al [(gk1, 27, Aq.cells ⟨wr, 3, 1, ⟨1, 3, 1, 0⟩, ⟨sa, n, sk⟩, 7, ((dl : Nat) : Int), ⟨da, dl, dk⟩⟩), (gk6, 34, #[.iface 84 (.pointer (some ⟨m, 0, none⟩)), .pointer (some ⟨r, 0, none⟩)])]) wk25 I22 (Jx r g LV26)) x26 (((begP s).1, tikP (begP s).1)) ls26) := hLk
         have HF : Hid (Lr w w1 wk25 m r g I22 LV26 ((begP s).1) ((begP s).1) x26 (X ++ [y22]) X.length al [(gk1, 27, Aq.cells ⟨wr, 3, 1, ⟨1, 3, 1, 0⟩, ⟨sa, n, sk⟩, 7, ((dl : Nat) : Int), ⟨da, dl, dk⟩⟩), (gk6, 34, #[.iface 84 (.pointer (some ⟨m, 0, none⟩)), .pointer (some ⟨r, 0, none⟩)])]) := hL
         clear ho hRd hLk hk hJ hL
         refine ⟨t26.v, rfl, ?_⟩
         try simp only [pS]
         have HT : Hid (Tel wk25 r g LV26 X y22 ((begP s).1, tikP (begP s).1)) := by
           have h := HT.out
           rw [beg_tik hbf hbn] at h
           exact h
         refine uC 10 #[y22.v, t26.v] (HT.out.same HRd.out HLk.out hl1.out) ?_
         rintro e wk27 ⟨rfl, hk⟩
         have HF : Hid (Lr w w1 wk27 m r g I22 LV26 ((begP s).1) ((begP s).1) x26 (X ++ [y22]) X.length al [(gk1, 27, Aq.cells ⟨wr, 3, 1, ⟨1, 3, 1, 0⟩, ⟨sa, n, sk⟩, 7, ((dl : Nat) : Int), ⟨da, dl, dk⟩⟩), (gk6, 34, #[.iface 84 (.pointer (some ⟨m, 0, none⟩)), .pointer (some ⟨r, 0, none⟩)])]) := HF.out.no hk
         clear hk
         refine ⟨.bool true, rfl, ?_⟩
         try simp only [pS]
         clear HT HRd HLk hl1
         refine uK (.bool false) <| WL.nil <| ?_
         try simp only [pS]
         go_upto_region 17 with fail
         refine WL.start <| uK (al.v) <| uK (y22.v) <| ?_
         try simp only [pS]
         have hq28 := HF.out.lg.wq.kp.size
         refine uR (.slice (some ⟨wk27.heap.size, 0, none⟩) 1 1) (wk27.alloc (.cells (#[y22.v]) 57)) (exec_slice2 56 57 _ rfl (#[y22.v]) (y22.v) (by kernel_rfl) (by kernel_rfl)) ?_
         try simp only [pS]
         have HF : Hid (Lr w w1 (wk27.alloc (.cells (#[y22.v]) 57)) m r g I22 LV26 ((begP s).1) ((begP s).1) x26 (X ++ [y22]) X.length al [(gk1, 27, Aq.cells ⟨wr, 3, 1, ⟨1, 3, 1, 0⟩, ⟨sa, n, sk⟩, 7, ((dl : Nat) : Int), ⟨da, dl, dk⟩⟩), (gk6, 34, #[.iface 84 (.pointer (some ⟨m, 0, none⟩)), .pointer (some ⟨r, 0, none⟩)]), (wk27.heap.size, 57, #[y22.v])]) := HF.out.alloc _ _
         generalize wk27.alloc (.cells (#[y22.v]) 57) = wk30 at HF ⊢
         generalize hzgk29 : wk27.heap.size = gk29 at HF ⊢
         obtain ⟨a31, k31, wk32, hap, hL⟩ := HF.out.keep (cc := 1) (by omega) (HF.out.box 2 _ _ _ rfl)
         refine uR (.slice a31 (al.l + 1) k31) (wk32) (exec_appN _ _ 56 56 rfl _ _ (by kernel_rfl) (by kernel_rfl) hap) ?_
         try simp only [pS]
         have HF : Hid (Lr w w1 wk32 m r g I22 LV26 ((begP s).1) ((begP s).1) x26 (X ++ [y22]) ((X ++ [y22]).length) ⟨a31, al.l + 1, k31⟩ [(gk1, 27, Aq.cells ⟨wr, 3, 1, ⟨1, 3, 1, 0⟩, ⟨sa, n, sk⟩, 7, ((dl : Nat) : Int), ⟨da, dl, dk⟩⟩), (gk6, 34, #[.iface 84 (.pointer (some ⟨m, 0, none⟩)), .pointer (some ⟨r, 0, none⟩)]), (gk29, 57, #[y22.v])]) := hL
         clear hap hL
         refine uK (.slice a31 (al.l + 1) k31) <| WL.nil <| ?_
         try simp only [pS]
         go_upto_region 10 with fail
         refine WL.start <| uK (.int .i64 ((i : Nat) : Int)) <| uB .add 3 (.int .i64 ((i : Nat) : Int)) (.int .i64 1) (.int .i64 (((i + 1) : Nat) : Int)) (b_addw _ _ _ (by rw [IntKind.wrap_i64]; omega) _) <| uK (.int .i64 (((i + 1) : Nat) : Int)) <| WL.nil <| ?_
         try simp only [pS]
         go_wp2
         go_roundw
         case rel => exact ⟨i + 1, I22, LV26, ((begP s).1), x26, (X ++ [y22]), ⟨a31, al.l + 1, k31⟩, by go_num, by go_num, by omega, by show al.l + 1 ≤ _; omega, fun h => by omega, (HF.out.front (l := [(gk1, 27, Aq.cells ⟨wr, 3, 1, ⟨1, 3, 1, 0⟩, ⟨sa, n, sk⟩, 7, ((dl : Nat) : Int), ⟨da, dl, dk⟩⟩), (gk6, 34, #[.iface 84 (.pointer (some ⟨m, 0, none⟩)), .pointer (some ⟨r, 0, none⟩)])]) (l2 := [(gk29, 57, #[y22.v])]))⟩
         case measure => simp [intOf]; omega
     · skip
       go_upto_region 9 with fail
       refine WL.start <| uK (.int .i64 ((i : Nat) : Int)) <| uB .lss 3 (.int .i64 ((i : Nat) : Int)) (.int .i64 4) (.bool false) (by rw [b_lss, decide_eq_false (by omega)]) <| WL.nil <| ?_
       try simp only [pS]
       go_upto_region 18 with fail
       refine WL.start <| uK (.int .i64 0) <| WL.nil <| ?_
       try simp only [pS]
       go_wp2
       go_loopw [10, 13] (fun v10 v13 wr' => ∃ (i : Nat) (I : Nat → Prop) (LV : Option (Nat × Nat)) (s : RM) (x : Rx) (X : List It) (al : Sl), v10 = al.v ∧ v13 = .int .i64 ((i : Nat) : Int) ∧ i ≤ 100 ∧ al.l ≤ 4 + i ∧ Hid (Lr w w1 wr' m r g I LV s s x X X.length al [(gk1, 27, Aq.cells ⟨wr, 3, 1, ⟨1, 3, 1, 0⟩, ⟨sa, n, sk⟩, 7, ((dl : Nat) : Int), ⟨da, dl, dk⟩⟩), (gk6, 34, #[.iface 84 (.pointer (some ⟨m, 0, none⟩)), .pointer (some ⟨r, 0, none⟩)])])) (fun _ i _ => 100 - (intOf i).toNat)
       case atStart => exact ⟨0, I, LV, s, x, X, al, by go_num, by go_num, by omega, (by omega), HF⟩
       case round =>
         rename World => wo2
         clear HF
         obtain ⟨i, I, LV, s, x, X, al, rfl, rfl, hi, hal, HF⟩ := hrel
         obtain ⟨an, vv, hrf⟩ := HF.out.lg.wq.ref.gg
         have HRf : Hid (RfG wo2 r x g an vv) := hrf
         have hgl := hrf.hn
         clear hrf
         by_cases hlt : i < g.l
         · cases hph : (x.ph == 1)
           · skip
             go_upto_region 19 with fail
             refine WL.start <| uK (.int .i64 ((i : Nat) : Int)) <| uK (.pointer (some ⟨gk6, 1, none⟩)) <| uL 32 ⟨gk6, 1, none⟩ (.pointer (some ⟨r, 0, none⟩)) (load_one ((HF.out.box 1 _ _ _ rfl).cell 1 |>.trans (by kernel_rfl)) U32 V32) <| uK (.pointer (some ⟨r, 0, none⟩)) <| uK (.pointer (some ⟨r, 7, none⟩)) <| uL 24 ⟨r, 7, none⟩ (g.v) (load_one (HRf.out.box.cell 7 |>.trans (by kernel_rfl)) U24 rfl) <| uK (.int .i64 ((g.l : Nat) : Int)) <| ?_
             try simp only [pS]
             refine uB .lss 3 (.int .i64 ((i : Nat) : Int)) (.int .i64 ((g.l : Nat) : Int)) (.bool true) (by rw [b_lss, decide_eq_true (by omega)]) <| uK (.bool true) <| uK (.pointer (some ⟨gk6, 1, none⟩)) <| uL 32 ⟨gk6, 1, none⟩ (.pointer (some ⟨r, 0, none⟩)) (load_one ((HF.out.box 1 _ _ _ rfl).cell 1 |>.trans (by kernel_rfl)) U32 V32) <| uK (.pointer (some ⟨r, 0, none⟩)) <| uK (.pointer (some ⟨r, 11, none⟩)) <| uL 3 ⟨r, 11, none⟩ (.int .i64 x.ph) (load_one (HRf.out.box.cell 11 |>.trans (by kernel_rfl)) U3 rfl) <| uB .eql 3 (.int .i64 x.ph) (.int .i64 1) (.bool false) (by rw [b_eql, hph]) <| ?_
             try simp only [pS]
             refine uK (.bool false) <| WL.nil <| ?_
             try simp only [pS]
             go_upto_region 27 with fail
             refine WL.start <| uK (.int .i64 0) <| WL.nil <| ?_
             try simp only [pS]
             go_wp2
             go_loopw [10, 17] (fun v10 v17 wr' => ∃ (i : Nat) (I : Nat → Prop) (LV : Option (Nat × Nat)) (s : RM) (x : Rx) (X : List It) (al : Sl), v10 = al.v ∧ v17 = .int .i64 ((i : Nat) : Int) ∧ i ≤ 2 ∧ al.l ≤ 104 + i ∧ Hid (Lr w w1 wr' m r g I LV s s x X X.length al [(gk1, 27, Aq.cells ⟨wr, 3, 1, ⟨1, 3, 1, 0⟩, ⟨sa, n, sk⟩, 7, ((dl : Nat) : Int), ⟨da, dl, dk⟩⟩), (gk6, 34, #[.iface 84 (.pointer (some ⟨m, 0, none⟩)), .pointer (some ⟨r, 0, none⟩)])])) (fun _ i _ => 2 - (intOf i).toNat)
             case atStart => exact ⟨0, I, LV, s, x, X, al, by go_num, by go_num, by omega, (by omega), HF⟩
             case round =>
               rename World => wo3
               clear HF
               obtain ⟨i, I, LV, s, x, X, al, rfl, rfl, hi, hal, HF⟩ := hrel
               by_cases hlt : i < 2
               · skip
                 go_upto_region 28 with fail
                 refine WL.start <| uK (.int .i64 ((i : Nat) : Int)) <| uB .lss 3 (.int .i64 ((i : Nat) : Int)) (.int .i64 2) (.bool true) (by rw [b_lss, decide_eq_true (by omega)]) <| WL.nil <| ?_
                 try simp only [pS]
                 go_upto_region 30 with fail
                 refine WL.start <| uK (.pointer (some ⟨gk6, 0, none⟩)) <| uL 31 ⟨gk6, 0, none⟩ (.iface 84 (.pointer (some ⟨m, 0, none⟩))) (load_one ((HF.out.box 1 _ _ _ rfl).cell 0 |>.trans (by kernel_rfl)) U31 V31) <| ?_
                 try simp only [pS]
                 refine uC 62 #[.pointer (some ⟨m, 0, none⟩)] (tick_M HF.out.lg.wq.mch) ?_
                 rintro e wk33 ho
                 obtain ⟨y34, I34, rfl, hT, hL⟩ := HF.out.told rfl (Nat.le_refl _) (Nat.le_trans (ss_tik HF.out.lg.wq.mch) HF.out.lg.wq.mch.len) ho
                 have HT : Hid (Tel wk33 r g LV X y34 ((s, tikP s))) := hT
                 have HF : Hid (Lr w w1 wk33 m r g I34 LV s s x (X ++ [y34]) X.length al [(gk1, 27, Aq.cells ⟨wr, 3, 1, ⟨1, 3, 1, 0⟩, ⟨sa, n, sk⟩, 7, ((dl : Nat) : Int), ⟨da, dl, dk⟩⟩), (gk6, 34, #[.iface 84 (.pointer (some ⟨m, 0, none⟩)), .pointer (some ⟨r, 0, none⟩)])]) := hL
                 clear ho hT hL
                 refine ⟨y34.v, rfl, ?_⟩
                 try simp only [pS]
                 refine uK (y34.v) <| WL.nil <| ?_
                 try simp only [pS]
                 go_upto_region 31 with fail
                 refine WL.start <| uK (y34.v) <| uK (.pointer (some ⟨gk6, 1, none⟩)) <| uL 32 ⟨gk6, 1, none⟩ (.pointer (some ⟨r, 0, none⟩)) (load_one ((HF.out.box 1 _ _ _ rfl).cell 1 |>.trans (by kernel_rfl)) U32 V32) <| ?_
                 try simp only [pS]
                 refine uC 11 #[.pointer (some ⟨r, 0, none⟩)] (refTick HF.out.lg.wq (show Rel (Bw (Hx (X ++ [y34]) al [(gk1, 27, Aq.cells ⟨wr, 3, 1, ⟨1, 3, 1, 0⟩, ⟨sa, n, sk⟩, 7, ((dl : Nat) : Int), ⟨da, dl, dk⟩⟩), (gk6, 34, #[.iface 84 (.pointer (some ⟨m, 0, none⟩)), .pointer (some ⟨r, 0, none⟩)])]) wk33 I34 (Jx r g LV)) s x from HF.out.rel)) ?_
                 rintro e wk35 ho
                 obtain ⟨t36, ls36, LV36, x36, rfl, hRd, hl1, hLk, hk, hJ, hL⟩ := HF.out.ref ho
                 have HT : Hid (Tel wk35 r g LV36 X y34 ((s, tikP s))) := HT.out.ref hk hJ
                 have HRd : Hid (RdM wk35 t36 ls36) := hRd
                 have hl1 : Hid (ls36.length ≤ 1000) := hl1
                 have HLk : Hid (LikeT (Bw (Hx (X ++ [y34]) al [(gk1, 27, Aq.cells ⟨wr, 3, 1, ⟨1, 3, 1, 0⟩, ⟨sa, n, sk⟩, 7, ((dl : Nat) : Int), ⟨da, dl, dk⟩⟩), (gk6, 34, #[.iface 84 (.pointer (some ⟨m, 0, none⟩)), .pointer (some ⟨r, 0, none⟩)])]) wk35 I34 (Jx r g LV36)) x36 ((s, tikP s)) ls36) := hLk
                 have HF : Hid (Lr w w1 wk35 m r g I34 LV36 s s x36 (X ++ [y34]) X.length al [(gk1, 27, Aq.cells ⟨wr, 3, 1, ⟨1, 3, 1, 0⟩, ⟨sa, n, sk⟩, 7, ((dl : Nat) : Int), ⟨da, dl, dk⟩⟩), (gk6, 34, #[.iface 84 (.pointer (some ⟨m, 0, none⟩)), .pointer (some ⟨r, 0, none⟩)])]) := hL
                 clear ho hRd hLk hk hJ hL
                 refine ⟨t36.v, rfl, ?_⟩
                 try simp only [pS]
                 refine uC 10 #[y34.v, t36.v] (HT.out.same HRd.out HLk.out hl1.out) ?_
                 rintro e wk37 ⟨rfl, hk⟩
                 have HF : Hid (Lr w w1 wk37 m r g I34 LV36 s s x36 (X ++ [y34]) X.length al [(gk1, 27, Aq.cells ⟨wr, 3, 1, ⟨1, 3, 1, 0⟩, ⟨sa, n, sk⟩, 7, ((dl : Nat) : Int), ⟨da, dl, dk⟩⟩), (gk6, 34, #[.iface 84 (.pointer (some ⟨m, 0, none⟩)), .pointer (some ⟨r, 0, none⟩)])]) := HF.out.no hk
                 clear hk
                 refine ⟨.bool true, rfl, ?_⟩
                 try simp only [pS]
                 clear HT HRd HLk hl1
                 refine uK (.bool false) <| WL.nil <| ?_
                 try simp only [pS]
                 go_upto_region 33 with fail
                 refine WL.start <| uK (al.v) <| uK (y34.v) <| ?_
                 try simp only [pS]
                 have hq38 := HF.out.lg.wq.kp.size
                 refine uR (.slice (some ⟨wk37.heap.size, 0, none⟩) 1 1) (wk37.alloc (.cells (#[y34.v]) 57)) (exec_slice2 56 57 _ rfl (#[y34.v]) (y34.v) (by kernel_rfl) (by kernel_rfl)) ?_
                 try simp only [pS]
                 have HF : Hid (Lr w w1 (wk37.alloc (.cells (#[y34.v]) 57)) m r g I34 LV36 s s x36 (X ++ [y34]) X.length al [(gk1, 27, Aq.cells ⟨wr, 3, 1, ⟨1, 3, 1, 0⟩, ⟨sa, n, sk⟩, 7, ((dl : Nat) : Int), ⟨da, dl, dk⟩⟩), (gk6, 34, #[.iface 84 (.pointer (some ⟨m, 0, none⟩)), .pointer (some ⟨r, 0, none⟩)]), (wk37.heap.size, 57, #[y34.v])]) := HF.out.alloc _ _
                 generalize wk37.alloc (.cells (#[y34.v]) 57) = wk40 at HF ⊢
                 generalize hzgk39 : wk37.heap.size = gk39 at HF ⊢
                 obtain ⟨a41, k41, wk42, hap, hL⟩ := HF.out.keep (cc := 1) (by omega) (HF.out.box 2 _ _ _ rfl)
                 refine uR (.slice a41 (al.l + 1) k41) (wk42) (exec_appN _ _ 56 56 rfl _ _ (by kernel_rfl) (by kernel_rfl) hap) ?_
                 try simp only [pS]
                 have HF : Hid (Lr w w1 wk42 m r g I34 LV36 s s x36 (X ++ [y34]) ((X ++ [y34]).length) ⟨a41, al.l + 1, k41⟩ [(gk1, 27, Aq.cells ⟨wr, 3, 1, ⟨1, 3, 1, 0⟩, ⟨sa, n, sk⟩, 7, ((dl : Nat) : Int), ⟨da, dl, dk⟩⟩), (gk6, 34, #[.iface 84 (.pointer (some ⟨m, 0, none⟩)), .pointer (some ⟨r, 0, none⟩)]), (gk39, 57, #[y34.v])]) := hL
                 clear hap hL
                 refine uK (.slice a41 (al.l + 1) k41) <| WL.nil <| ?_
                 try simp only [pS]
                 go_upto_region 29 with fail
                 refine WL.start <| uK (.int .i64 ((i : Nat) : Int)) <| uB .add 3 (.int .i64 ((i : Nat) : Int)) (.int .i64 1) (.int .i64 (((i + 1) : Nat) : Int)) (b_addw _ _ _ (by rw [IntKind.wrap_i64]; omega) _) <| uK (.int .i64 (((i + 1) : Nat) : Int)) <| WL.nil <| ?_
                 try simp only [pS]
                 go_wp2
                 go_roundw
                 case rel => exact ⟨i + 1, I34, LV36, s, x36, (X ++ [y34]), ⟨a41, al.l + 1, k41⟩, by go_num, by go_num, by omega, by show al.l + 1 ≤ _; omega, (HF.out.front (l := [(gk1, 27, Aq.cells ⟨wr, 3, 1, ⟨1, 3, 1, 0⟩, ⟨sa, n, sk⟩, 7, ((dl : Nat) : Int), ⟨da, dl, dk⟩⟩), (gk6, 34, #[.iface 84 (.pointer (some ⟨m, 0, none⟩)), .pointer (some ⟨r, 0, none⟩)])]) (l2 := [(gk39, 57, #[y34.v])]))⟩
                 case measure => simp [intOf]; omega
               · skip
                 go_upto_region 28 with fail
                 refine WL.start <| uK (.int .i64 ((i : Nat) : Int)) <| uB .lss 3 (.int .i64 ((i : Nat) : Int)) (.int .i64 2) (.bool false) (by rw [b_lss, decide_eq_false (by omega)]) <| WL.nil <| ?_
                 try simp only [pS]
                 go_upto_region 34 with fail
                 refine WL.start <| uK (.pointer (some ⟨gk6, 0, none⟩)) <| uL 31 ⟨gk6, 0, none⟩ (.iface 84 (.pointer (some ⟨m, 0, none⟩))) (load_one ((HF.out.box 1 _ _ _ rfl).cell 0 |>.trans (by kernel_rfl)) U31 V31) <| ?_
                 try simp only [pS]
                 refine uC 62 #[.pointer (some ⟨m, 0, none⟩)] (tick_M HF.out.lg.wq.mch) ?_
                 rintro e wk43 ho
                 obtain ⟨y44, I44, rfl, hT, hL⟩ := HF.out.told rfl (Nat.le_refl _) (Nat.le_trans (ss_tik HF.out.lg.wq.mch) HF.out.lg.wq.mch.len) ho
                 have HT : Hid (Tel wk43 r g LV X y44 ((s, tikP s))) := hT
                 have HF : Hid (Lr w w1 wk43 m r g I44 LV s s x (X ++ [y44]) X.length al [(gk1, 27, Aq.cells ⟨wr, 3, 1, ⟨1, 3, 1, 0⟩, ⟨sa, n, sk⟩, 7, ((dl : Nat) : Int), ⟨da, dl, dk⟩⟩), (gk6, 34, #[.iface 84 (.pointer (some ⟨m, 0, none⟩)), .pointer (some ⟨r, 0, none⟩)])]) := hL
                 clear ho hT hL
                 refine ⟨y44.v, rfl, ?_⟩
                 try simp only [pS]
                 refine uK (y44.v) <| WL.nil <| ?_
                 try simp only [pS]
                 go_upto_region 35 with fail
                 refine WL.start <| uK (al.v) <| ?_
                 try simp only [pS]
                 have HF : Hid (Lr w w1 wk43 m r g I44 LV s s x X X.length al [(gk1, 27, Aq.cells ⟨wr, 3, 1, ⟨1, 3, 1, 0⟩, ⟨sa, n, sk⟩, 7, ((dl : Nat) : Int), ⟨da, dl, dk⟩⟩), (gk6, 34, #[.iface 84 (.pointer (some ⟨m, 0, none⟩)), .pointer (some ⟨r, 0, none⟩)])]) := HF.out.drop (Nat.le_refl _)
                 refine uC 14 #[al.v] (grown_any (fun k => ∃ (j : Nat) (z : It), (X)[j]? = some z ∧ z.at k) al X wk43 (fun j z hz k e => ⟨j, z, hz, e⟩) HF.out.lg.ks (by have h := HF.out.lg.ra; rw [List.take_length] at h; exact Own.lower h (Nat.zero_le _)) HF.out.lg.raw (by omega)) ?_
                 rintro e wk45 ⟨rfl, hk⟩
                 have HT : Hid (Tel wk45 r g LV [] y44 ((s, tikP s))) := (HT.out.kept hk (fun k e => .inr (.inl e))).nil
                 have HF : Hid (Lr w w1 wk45 m r g I44 LV s s x ([]) 0 slZ [(gk1, 27, Aq.cells ⟨wr, 3, 1, ⟨1, 3, 1, 0⟩, ⟨sa, n, sk⟩, 7, ((dl : Nat) : Int), ⟨da, dl, dk⟩⟩), (gk6, 34, #[.iface 84 (.pointer (some ⟨m, 0, none⟩)), .pointer (some ⟨r, 0, none⟩)])]) := HF.out.grown hk
                 clear hk
                 refine ⟨.bool true, rfl, ?_⟩
                 try simp only [pS]
                 refine uK (.bool false) <| uK (.bool false) <| uK (y44.v) <| uK (.pointer (some ⟨gk6, 1, none⟩)) <| uL 32 ⟨gk6, 1, none⟩ (.pointer (some ⟨r, 0, none⟩)) (load_one ((HF.out.box 1 _ _ _ rfl).cell 1 |>.trans (by kernel_rfl)) U32 V32) <| ?_
                 try simp only [pS]
                 refine uC 11 #[.pointer (some ⟨r, 0, none⟩)] (refTick HF.out.lg.wq (show Rel (Bw (Hx ([]) slZ [(gk1, 27, Aq.cells ⟨wr, 3, 1, ⟨1, 3, 1, 0⟩, ⟨sa, n, sk⟩, 7, ((dl : Nat) : Int), ⟨da, dl, dk⟩⟩), (gk6, 34, #[.iface 84 (.pointer (some ⟨m, 0, none⟩)), .pointer (some ⟨r, 0, none⟩)])]) wk45 I44 (Jx r g LV)) s x from HF.out.rel)) ?_
                 rintro e wk46 ho
                 obtain ⟨t47, ls47, LV47, x47, rfl, hRd, hl1, hLk, hk, hJ, hL⟩ := HF.out.ref ho
                 have HT : Hid (Tel wk46 r g LV47 ([]) y44 ((s, tikP s))) := HT.out.ref hk hJ
                 have HRd : Hid (RdM wk46 t47 ls47) := hRd
                 have hl1 : Hid (ls47.length ≤ 1000) := hl1
                 have HLk : Hid (LikeT (Bw (Hx ([]) slZ [(gk1, 27, Aq.cells ⟨wr, 3, 1, ⟨1, 3, 1, 0⟩, ⟨sa, n, sk⟩, 7, ((dl : Nat) : Int), ⟨da, dl, dk⟩⟩), (gk6, 34, #[.iface 84 (.pointer (some ⟨m, 0, none⟩)), .pointer (some ⟨r, 0, none⟩)])]) wk46 I44 (Jx r g LV47)) x47 ((s, tikP s)) ls47) := hLk
                 have HF : Hid (Lr w w1 wk46 m r g I44 LV47 s s x47 ([]) 0 slZ [(gk1, 27, Aq.cells ⟨wr, 3, 1, ⟨1, 3, 1, 0⟩, ⟨sa, n, sk⟩, 7, ((dl : Nat) : Int), ⟨da, dl, dk⟩⟩), (gk6, 34, #[.iface 84 (.pointer (some ⟨m, 0, none⟩)), .pointer (some ⟨r, 0, none⟩)])]) := hL
                 clear ho hRd hLk hk hJ hL
                 refine ⟨t47.v, rfl, ?_⟩
                 try simp only [pS]
                 refine uC 10 #[y44.v, t47.v] (HT.out.same HRd.out HLk.out hl1.out) ?_
                 rintro e wk48 ⟨rfl, hk⟩
                 have HF : Hid (Lr w w1 wk48 m r g I44 LV47 s s x47 ([]) 0 slZ [(gk1, 27, Aq.cells ⟨wr, 3, 1, ⟨1, 3, 1, 0⟩, ⟨sa, n, sk⟩, 7, ((dl : Nat) : Int), ⟨da, dl, dk⟩⟩), (gk6, 34, #[.iface 84 (.pointer (some ⟨m, 0, none⟩)), .pointer (some ⟨r, 0, none⟩)])]) := HF.out.no hk
                 clear hk
                 refine ⟨.bool true, rfl, ?_⟩
                 try simp only [pS]
                 clear HT HRd HLk hl1
                 refine uK (.bool false) <| uK (.bool false) <| WL.nil <| ?_
                 try simp only [pS]
                 go_upto_region 37 with fail
                 refine WL.start <| uK (.pointer (some ⟨gk6, 0, none⟩)) <| uL 31 ⟨gk6, 0, none⟩ (.iface 84 (.pointer (some ⟨m, 0, none⟩))) (load_one ((HF.out.box 1 _ _ _ rfl).cell 0 |>.trans (by kernel_rfl)) U31 V31) <| ?_
                 try simp only [pS]
                 refine uC 62 #[.pointer (some ⟨m, 0, none⟩)] (tick_M HF.out.lg.wq.mch) ?_
                 rintro e wk49 ho
                 obtain ⟨y50, I50, rfl, hT, hL⟩ := HF.out.told rfl (Nat.le_refl _) (Nat.le_trans (ss_tik HF.out.lg.wq.mch) HF.out.lg.wq.mch.len) ho
                 have HT : Hid (Tel wk49 r g LV47 ([]) y50 ((s, tikP s))) := hT
                 have HF : Hid (Lr w w1 wk49 m r g I50 LV47 s s x47 ([] ++ [y50]) 0 slZ [(gk1, 27, Aq.cells ⟨wr, 3, 1, ⟨1, 3, 1, 0⟩, ⟨sa, n, sk⟩, 7, ((dl : Nat) : Int), ⟨da, dl, dk⟩⟩), (gk6, 34, #[.iface 84 (.pointer (some ⟨m, 0, none⟩)), .pointer (some ⟨r, 0, none⟩)])]) := hL
                 clear ho hT hL
                 refine ⟨y50.v, rfl, ?_⟩
                 try simp only [pS]
                 refine uK (y50.v) <| WL.nil <| ?_
                 try simp only [pS]
                 go_upto_region 38 with fail
                 refine WL.start <| uK (y50.v) <| uK (.pointer (some ⟨gk6, 1, none⟩)) <| uL 32 ⟨gk6, 1, none⟩ (.pointer (some ⟨r, 0, none⟩)) (load_one ((HF.out.box 1 _ _ _ rfl).cell 1 |>.trans (by kernel_rfl)) U32 V32) <| ?_
                 try simp only [pS]
                 refine uC 11 #[.pointer (some ⟨r, 0, none⟩)] (refTick HF.out.lg.wq (show Rel (Bw (Hx ([] ++ [y50]) slZ [(gk1, 27, Aq.cells ⟨wr, 3, 1, ⟨1, 3, 1, 0⟩, ⟨sa, n, sk⟩, 7, ((dl : Nat) : Int), ⟨da, dl, dk⟩⟩), (gk6, 34, #[.iface 84 (.pointer (some ⟨m, 0, none⟩)), .pointer (some ⟨r, 0, none⟩)])]) wk49 I50 (Jx r g LV47)) s x47 from HF.out.rel)) ?_
                 rintro e wk51 ho
                 obtain ⟨t52, ls52, LV52, x52, rfl, hRd, hl1, hLk, hk, hJ, hL⟩ := HF.out.ref ho
                 have HT : Hid (Tel wk51 r g LV52 ([]) y50 ((s, tikP s))) := HT.out.ref hk hJ
                 have HRd : Hid (RdM wk51 t52 ls52) := hRd
                 have hl1 : Hid (ls52.length ≤ 1000) := hl1
                 have HLk : Hid (LikeT (Bw (Hx ([] ++ [y50]) slZ [(gk1, 27, Aq.cells ⟨wr, 3, 1, ⟨1, 3, 1, 0⟩, ⟨sa, n, sk⟩, 7, ((dl : Nat) : Int), ⟨da, dl, dk⟩⟩), (gk6, 34, #[.iface 84 (.pointer (some ⟨m, 0, none⟩)), .pointer (some ⟨r, 0, none⟩)])]) wk51 I50 (Jx r g LV52)) x52 ((s, tikP s)) ls52) := hLk
                 have HF : Hid (Lr w w1 wk51 m r g I50 LV52 s s x52 ([] ++ [y50]) 0 slZ [(gk1, 27, Aq.cells ⟨wr, 3, 1, ⟨1, 3, 1, 0⟩, ⟨sa, n, sk⟩, 7, ((dl : Nat) : Int), ⟨da, dl, dk⟩⟩), (gk6, 34, #[.iface 84 (.pointer (some ⟨m, 0, none⟩)), .pointer (some ⟨r, 0, none⟩)])]) := hL
                 clear ho hRd hLk hk hJ hL
                 refine ⟨t52.v, rfl, ?_⟩
                 try simp only [pS]
                 refine uC 10 #[y50.v, t52.v] (HT.out.same HRd.out HLk.out hl1.out) ?_
                 rintro e wk53 ⟨rfl, hk⟩
                 have HF : Hid (Lr w w1 wk53 m r g I50 LV52 s s x52 ([] ++ [y50]) 0 slZ [(gk1, 27, Aq.cells ⟨wr, 3, 1, ⟨1, 3, 1, 0⟩, ⟨sa, n, sk⟩, 7, ((dl : Nat) : Int), ⟨da, dl, dk⟩⟩), (gk6, 34, #[.iface 84 (.pointer (some ⟨m, 0, none⟩)), .pointer (some ⟨r, 0, none⟩)])]) := HF.out.no hk
                 clear hk
                 refine ⟨.bool true, rfl, ?_⟩
                 try simp only [pS]
                 clear HT HRd HLk hl1
                 refine uK (.bool true) <| uL 34 ⟨gk6, 0, none⟩ (.agg #[.iface 84 (.pointer (some ⟨m, 0, none⟩)), .pointer (some ⟨r, 0, none⟩)]) (run_load_part (cs := [.iface 84 (.pointer (some ⟨m, 0, none⟩)), .pointer (some ⟨r, 0, none⟩)]) (sub := [.iface 84 (.pointer (some ⟨m, 0, none⟩)), .pointer (some ⟨r, 0, none⟩)]) (HF.out.box 1 _ _ _ rfl) (Part.all _) U34 rfl S34) <| ?_
                 try simp only [pS]
                 refine uC 7 #[.agg #[.iface 84 (.pointer (some ⟨m, 0, none⟩)), .pointer (some ⟨r, 0, none⟩)]] (look_any w1 I50 m r g LV52 s x52 wk53 HF.out.lg.wq (show Rel (Bw (Hx ([] ++ [y50]) slZ [(gk1, 27, Aq.cells ⟨wr, 3, 1, ⟨1, 3, 1, 0⟩, ⟨sa, n, sk⟩, 7, ((dl : Nat) : Int), ⟨da, dl, dk⟩⟩), (gk6, 34, #[.iface 84 (.pointer (some ⟨m, 0, none⟩)), .pointer (some ⟨r, 0, none⟩)])]) wk53 I50 (Jx r g LV52)) s x52 from HF.out.rel)) ?_
                 rintro e wk54 ⟨rfl, hk⟩
                 have HF : Hid (Lr w w1 wk54 m r g I50 LV52 s s x52 ([] ++ [y50]) 0 slZ [(gk1, 27, Aq.cells ⟨wr, 3, 1, ⟨1, 3, 1, 0⟩, ⟨sa, n, sk⟩, 7, ((dl : Nat) : Int), ⟨da, dl, dk⟩⟩), (gk6, 34, #[.iface 84 (.pointer (some ⟨m, 0, none⟩)), .pointer (some ⟨r, 0, none⟩)])]) := HF.out.no hk
                 clear hk
                 refine ⟨.bool true, rfl, ?_⟩
                 try simp only [pS]
                 refine uK (.bool true) <| uK (.bool true) <| ?_
                 try simp only [pS]
                 refine uC 5 #[] (head_any _) ?_
                 rintro e wk55 ⟨rfl, hk⟩
                 have HF : Hid (Lr w w1 wk55 m r g I50 LV52 s s x52 ([] ++ [y50]) 0 slZ [(gk1, 27, Aq.cells ⟨wr, 3, 1, ⟨1, 3, 1, 0⟩, ⟨sa, n, sk⟩, 7, ((dl : Nat) : Int), ⟨da, dl, dk⟩⟩), (gk6, 34, #[.iface 84 (.pointer (some ⟨m, 0, none⟩)), .pointer (some ⟨r, 0, none⟩)])]) := HF.out.no hk
                 clear hk
                 refine ⟨.bool true, rfl, ?_⟩
                 try simp only [pS]
                 refine uK (.bool true) <| uK (.bool true) <| WL.nil <| ?_
                 try simp only [pS]
                 go_wp2
                 rw [HC.out]
                 exact ⟨rfl, HF.out.lg.fr.kept⟩
           · skip
             go_upto_region 19 with fail
             refine WL.start <| uK (.int .i64 ((i : Nat) : Int)) <| uK (.pointer (some ⟨gk6, 1, none⟩)) <| uL 32 ⟨gk6, 1, none⟩ (.pointer (some ⟨r, 0, none⟩)) (load_one ((HF.out.box 1 _ _ _ rfl).cell 1 |>.trans (by kernel_rfl)) U32 V32) <| uK (.pointer (some ⟨r, 0, none⟩)) <| uK (.pointer (some ⟨r, 7, none⟩)) <| uL 24 ⟨r, 7, none⟩ (g.v) (load_one (HRf.out.box.cell 7 |>.trans (by kernel_rfl)) U24 rfl) <| uK (.int .i64 ((g.l : Nat) : Int)) <| ?_
             try simp only [pS]
             refine uB .lss 3 (.int .i64 ((i : Nat) : Int)) (.int .i64 ((g.l : Nat) : Int)) (.bool true) (by rw [b_lss, decide_eq_true (by omega)]) <| uK (.bool true) <| uK (.pointer (some ⟨gk6, 1, none⟩)) <| uL 32 ⟨gk6, 1, none⟩ (.pointer (some ⟨r, 0, none⟩)) (load_one ((HF.out.box 1 _ _ _ rfl).cell 1 |>.trans (by kernel_rfl)) U32 V32) <| uK (.pointer (some ⟨r, 0, none⟩)) <| uK (.pointer (some ⟨r, 11, none⟩)) <| uL 3 ⟨r, 11, none⟩ (.int .i64 x.ph) (load_one (HRf.out.box.cell 11 |>.trans (by kernel_rfl)) U3 rfl) <| uB .eql 3 (.int .i64 x.ph) (.int .i64 1) (.bool true) (by rw [b_eql, hph]) <| ?_
             try simp only [pS]
             refine uK (.bool true) <| WL.nil <| ?_
             try simp only [pS]
             go_upto_region 21 with fail
             refine WL.start <| uL 34 ⟨gk6, 0, none⟩ (.agg #[.iface 84 (.pointer (some ⟨m, 0, none⟩)), .pointer (some ⟨r, 0, none⟩)]) (run_load_part (cs := [.iface 84 (.pointer (some ⟨m, 0, none⟩)), .pointer (some ⟨r, 0, none⟩)]) (sub := [.iface 84 (.pointer (some ⟨m, 0, none⟩)), .pointer (some ⟨r, 0, none⟩)]) (HF.out.box 1 _ _ _ rfl) (Part.all _) U34 rfl S34) <| uK (.int .i64 ((i : Nat) : Int)) <| uW (.agg (Ad.cells ⟨false, ((i : Nat) : Int)⟩)) (exec_build 39 _ rfl (Ad.cells ⟨false, ((i : Nat) : Int)⟩) (by kernel_rfl)) <| uK (.int .i64 ((i : Nat) : Int)) <| uB .add 3 (.int .i64 1) (.int .i64 ((i : Nat) : Int)) (.int .i64 (1 + ((i : Nat) : Int))) (b_addw _ _ _ (by rw [IntKind.wrap_i64]; omega) _) <| uW (.agg (Sp.cells ⟨(1 + ((i : Nat) : Int)), 2⟩)) (exec_build 41 _ rfl (Sp.cells ⟨(1 + ((i : Nat) : Int)), 2⟩) (by kernel_rfl)) <| uK (.slice da dl dk) <| ?_
             try simp only [pS]
             refine uW (.agg (Mg.cells ⟨11, ⟨false, ((i : Nat) : Int)⟩, adZ, 0, 0, kyZ, ⟨(1 + ((i : Nat) : Int)), 2⟩, spZ, ⟨da, dl, dk⟩, cZ, bvZ, slZ, false⟩)) (exec_build 52 _ rfl (Mg.cells ⟨11, ⟨false, ((i : Nat) : Int)⟩, adZ, 0, 0, kyZ, ⟨(1 + ((i : Nat) : Int)), 2⟩, spZ, ⟨da, dl, dk⟩, cZ, bvZ, slZ, false⟩) (by kernel_rfl)) ?_
             try simp only [pS]
             refine uC 12 #[.agg #[.iface 84 (.pointer (some ⟨m, 0, none⟩)), .pointer (some ⟨r, 0, none⟩)], .agg (Mg.cells ⟨11, ⟨false, ((i : Nat) : Int)⟩, adZ, 0, 0, kyZ, ⟨(1 + ((i : Nat) : Int)), 2⟩, spZ, ⟨da, dl, dk⟩, cZ, bvZ, slZ, false⟩)] (near_any m r x g an vv ⟨11, ⟨false, ((i : Nat) : Int)⟩, adZ, 0, 0, kyZ, ⟨(1 + ((i : Nat) : Int)), 2⟩, spZ, ⟨da, dl, dk⟩, cZ, bvZ, slZ, false⟩ wo2 HRf.out) ?_
             rintro e wk56 ⟨D, rfl, hN, hk⟩
             have HF : Hid (Lr w w1 wk56 m r g I LV s s x X X.length al [(gk1, 27, Aq.cells ⟨wr, 3, 1, ⟨1, 3, 1, 0⟩, ⟨sa, n, sk⟩, 7, ((dl : Nat) : Int), ⟨da, dl, dk⟩⟩), (gk6, 34, #[.iface 84 (.pointer (some ⟨m, 0, none⟩)), .pointer (some ⟨r, 0, none⟩)])]) := HF.out.no hk
             have hDb : D.bl = ⟨da, dl, dk⟩ := by obtain ⟨_, _, _, _, _, rfl⟩ := hN; rfl
             have hDs : -9223372036854775808 ≤ D.st.n := by obtain ⟨_, _, _, _, _, rfl⟩ := hN; show (-9223372036854775808 : Int) ≤ 1 + ((i : Nat) : Int); omega
             clear hN hk
             refine ⟨.agg (Mg.cells D), rfl, ?_⟩
             try simp only [pS]
             have hq57 := HF.out.lg.wq.kp.size
             refine uR (.pointer (some ⟨wk56.heap.size, 0, none⟩)) (wk56.alloc (.cells (Mg.cells mgZ) 52)) (exec_alloc 52 rfl (Mg.cells mgZ) Z52) ?_
             try simp only [pS]
             have HF : Hid (Lr w w1 (wk56.alloc (.cells (Mg.cells mgZ) 52)) m r g I LV s s x X X.length al [(gk1, 27, Aq.cells ⟨wr, 3, 1, ⟨1, 3, 1, 0⟩, ⟨sa, n, sk⟩, 7, ((dl : Nat) : Int), ⟨da, dl, dk⟩⟩), (gk6, 34, #[.iface 84 (.pointer (some ⟨m, 0, none⟩)), .pointer (some ⟨r, 0, none⟩)]), (wk56.heap.size, 52, Mg.cells mgZ)]) := HF.out.alloc _ _
             generalize wk56.alloc (.cells (Mg.cells mgZ) 52) = wk59 at HF ⊢
             generalize hzgk58 : wk56.heap.size = gk58 at HF ⊢
             refine uT 52 ⟨gk58, 0, none⟩ (.agg (Mg.cells D)) (wk59.setRow gk58 (Mg.cells D)) (rs (Mg.cs mgZ) (Mg.cs D) (Mg.cs D) (HF.out.box 2 _ _ _ rfl) S52 (Mg.oneL _)) ?_
             try simp only [pS]
             have HF : Hid (Lr w w1 (wk59.setRow gk58 (Mg.cells D)) m r g I LV s s x X X.length al [(gk1, 27, Aq.cells ⟨wr, 3, 1, ⟨1, 3, 1, 0⟩, ⟨sa, n, sk⟩, 7, ((dl : Nat) : Int), ⟨da, dl, dk⟩⟩), (gk6, 34, #[.iface 84 (.pointer (some ⟨m, 0, none⟩)), .pointer (some ⟨r, 0, none⟩)]), (gk58, 52, Mg.cells D)]) := HF.out.set 2 rfl _ (by omega)
             generalize wk59.setRow gk58 (Mg.cells D) = wk60 at HF ⊢
             refine WL.nil ?_
             try simp only [pS]
             go_upto_region 22 with fail
             refine WL.start <| uK (.pointer (some ⟨gk6, 0, none⟩)) <| uL 31 ⟨gk6, 0, none⟩ (.iface 84 (.pointer (some ⟨m, 0, none⟩))) (load_one ((HF.out.box 1 _ _ _ rfl).cell 0 |>.trans (by kernel_rfl)) U31 V31) <| uL 52 ⟨gk58, 0, none⟩ (.agg (Mg.cells D)) (run_load_part (cs := Mg.cs D) (sub := Mg.cs D) (HF.out.box 2 _ _ _ rfl) (Part.all _) U52 rfl S52) <| ?_
             try simp only [pS]
             refine uC 61 #[.pointer (some ⟨m, 0, none⟩), .agg (Mg.cells D)] (take_M HF.out.lg.wq.mch D zs (by rw [hDb]; exact HD.out.no HF.out.lg.fr.kept) (by rw [hDb]; exact hl) hDs) ?_
             rintro e wk61 ho
             obtain ⟨y62, I62, rfl, hT, hL⟩ := HF.out.told rfl (Nat.le_refl _) (Nat.le_trans (ss_tak _ _ _) HF.out.lg.wq.mch.len) ho
             have HT : Hid (Tel wk61 r g LV X y62 (takP s D zs)) := hT
             have HF : Hid (Lr w w1 wk61 m r g I62 LV ((takP s D zs).1) s x (X ++ [y62]) X.length al [(gk1, 27, Aq.cells ⟨wr, 3, 1, ⟨1, 3, 1, 0⟩, ⟨sa, n, sk⟩, 7, ((dl : Nat) : Int), ⟨da, dl, dk⟩⟩), (gk6, 34, #[.iface 84 (.pointer (some ⟨m, 0, none⟩)), .pointer (some ⟨r, 0, none⟩)]), (gk58, 52, Mg.cells D)]) := hL
             clear ho hT hL
             refine ⟨y62.v, rfl, ?_⟩
             try simp only [pS]
             refine uK (y62.v) <| WL.nil <| ?_
             try simp only [pS]
             go_upto_region 23 with fail
             refine WL.start <| uK (.pointer (some ⟨gk6, 1, none⟩)) <| uL 32 ⟨gk6, 1, none⟩ (.pointer (some ⟨r, 0, none⟩)) (load_one ((HF.out.box 1 _ _ _ rfl).cell 1 |>.trans (by kernel_rfl)) U32 V32) <| uL 52 ⟨gk58, 0, none⟩ (.agg (Mg.cells D)) (run_load_part (cs := Mg.cs D) (sub := Mg.cs D) (HF.out.box 2 _ _ _ rfl) (Part.all _) U52 rfl S52) <| ?_
             try simp only [pS]
             refine uC 13 #[.pointer (some ⟨r, 0, none⟩), .agg (Mg.cells D)] (refTake HF.out.lg.wq (show Rel (Bw (Hx (X ++ [y62]) al [(gk1, 27, Aq.cells ⟨wr, 3, 1, ⟨1, 3, 1, 0⟩, ⟨sa, n, sk⟩, 7, ((dl : Nat) : Int), ⟨da, dl, dk⟩⟩), (gk6, 34, #[.iface 84 (.pointer (some ⟨m, 0, none⟩)), .pointer (some ⟨r, 0, none⟩)]), (gk58, 52, Mg.cells D)]) wk61 I62 (Jx r g LV)) s x from HF.out.rel) D zs (by rw [hDb]; exact HF.out.inp HD.out hl) hDs HF.out.lt) ?_
             rintro e wk63 ho
             obtain ⟨t64, ls64, LV64, x64, rfl, hRd, hl1, hLk, hk, hJ, hL⟩ := HF.out.ref ho
             have HT : Hid (Tel wk63 r g LV64 X y62 (takP s D zs)) := HT.out.ref hk hJ
             have HRd : Hid (RdM wk63 t64 ls64) := hRd
             have hl1 : Hid (ls64.length ≤ 1000) := hl1
             have HLk : Hid (LikeT (Bw (Hx (X ++ [y62]) al [(gk1, 27, Aq.cells ⟨wr, 3, 1, ⟨1, 3, 1, 0⟩, ⟨sa, n, sk⟩, 7, ((dl : Nat) : Int), ⟨da, dl, dk⟩⟩), (gk6, 34, #[.iface 84 (.pointer (some ⟨m, 0, none⟩)), .pointer (some ⟨r, 0, none⟩)]), (gk58, 52, Mg.cells D)]) wk63 I62 (Jx r g LV64)) x64 (takP s D zs) ls64) := hLk
             have HF : Hid (Lr w w1 wk63 m r g I62 LV64 ((takP s D zs).1) ((takP s D zs).1) x64 (X ++ [y62]) X.length al [(gk1, 27, Aq.cells ⟨wr, 3, 1, ⟨1, 3, 1, 0⟩, ⟨sa, n, sk⟩, 7, ((dl : Nat) : Int), ⟨da, dl, dk⟩⟩), (gk6, 34, #[.iface 84 (.pointer (some ⟨m, 0, none⟩)), .pointer (some ⟨r, 0, none⟩)]), (gk58, 52, Mg.cells D)]) := hL
             clear ho hRd hLk hk hJ hL
             refine ⟨t64.v, rfl, ?_⟩
             try simp only [pS]
             refine uK (t64.v) <| WL.nil <| ?_
             try simp only [pS]
             go_upto_region 24 with fail
             refine WL.start <| uK (y62.v) <| uK (t64.v) <| ?_
             try simp only [pS]
             refine uC 10 #[y62.v, t64.v] (HT.out.same HRd.out HLk.out hl1.out) ?_
             rintro e wk65 ⟨rfl, hk⟩
             have HF : Hid (Lr w w1 wk65 m r g I62 LV64 ((takP s D zs).1) ((takP s D zs).1) x64 (X ++ [y62]) X.length al [(gk1, 27, Aq.cells ⟨wr, 3, 1, ⟨1, 3, 1, 0⟩, ⟨sa, n, sk⟩, 7, ((dl : Nat) : Int), ⟨da, dl, dk⟩⟩), (gk6, 34, #[.iface 84 (.pointer (some ⟨m, 0, none⟩)), .pointer (some ⟨r, 0, none⟩)]), (gk58, 52, Mg.cells D)]) := HF.out.no hk
             clear hk
             refine ⟨.bool true, rfl, ?_⟩
             try simp only [pS]
             clear HT HRd HLk hl1
             refine uK (.bool false) <| WL.nil <| ?_
             try simp only [pS]
             go_upto_region 26 with fail
             refine WL.start <| uK (al.v) <| uK (y62.v) <| ?_
             try simp only [pS]
             have hq66 := HF.out.lg.wq.kp.size
             refine uR (.slice (some ⟨wk65.heap.size, 0, none⟩) 1 1) (wk65.alloc (.cells (#[y62.v]) 57)) (exec_slice2 56 57 _ rfl (#[y62.v]) (y62.v) (by kernel_rfl) (by kernel_rfl)) ?_
             try simp only [pS]
             have HF : Hid (Lr w w1 (wk65.alloc (.cells (#[y62.v]) 57)) m r g I62 LV64 ((takP s D zs).1) ((takP s D zs).1) x64 (X ++ [y62]) X.length al [(gk1, 27, Aq.cells ⟨wr, 3, 1, ⟨1, 3, 1, 0⟩, ⟨sa, n, sk⟩, 7, ((dl : Nat) : Int), ⟨da, dl, dk⟩⟩), (gk6, 34, #[.iface 84 (.pointer (some ⟨m, 0, none⟩)), .pointer (some ⟨r, 0, none⟩)]), (gk58, 52, Mg.cells D), (wk65.heap.size, 57, #[y62.v])]) := HF.out.alloc _ _
             generalize wk65.alloc (.cells (#[y62.v]) 57) = wk68 at HF ⊢
             generalize hzgk67 : wk65.heap.size = gk67 at HF ⊢
             obtain ⟨a69, k69, wk70, hap, hL⟩ := HF.out.keep (cc := 1) (by omega) (HF.out.box 3 _ _ _ rfl)
             refine uR (.slice a69 (al.l + 1) k69) (wk70) (exec_appN _ _ 56 56 rfl _ _ (by kernel_rfl) (by kernel_rfl) hap) ?_
             try simp only [pS]
             have HF : Hid (Lr w w1 wk70 m r g I62 LV64 ((takP s D zs).1) ((takP s D zs).1) x64 (X ++ [y62]) ((X ++ [y62]).length) ⟨a69, al.l + 1, k69⟩ [(gk1, 27, Aq.cells ⟨wr, 3, 1, ⟨1, 3, 1, 0⟩, ⟨sa, n, sk⟩, 7, ((dl : Nat) : Int), ⟨da, dl, dk⟩⟩), (gk6, 34, #[.iface 84 (.pointer (some ⟨m, 0, none⟩)), .pointer (some ⟨r, 0, none⟩)]), (gk58, 52, Mg.cells D), (gk67, 57, #[y62.v])]) := hL
             clear hap hL
             refine uK (.slice a69 (al.l + 1) k69) <| WL.nil <| ?_
             try simp only [pS]
             go_upto_region 20 with fail
             refine WL.start <| uK (.int .i64 ((i : Nat) : Int)) <| uB .add 3 (.int .i64 ((i : Nat) : Int)) (.int .i64 1) (.int .i64 (((i + 1) : Nat) : Int)) (b_addw _ _ _ (by rw [IntKind.wrap_i64]; omega) _) <| uK (.int .i64 (((i + 1) : Nat) : Int)) <| WL.nil <| ?_
             try simp only [pS]
             go_wp2
             go_roundw
             case rel => exact ⟨i + 1, I62, LV64, ((takP s D zs).1), x64, (X ++ [y62]), ⟨a69, al.l + 1, k69⟩, by go_num, by go_num, by omega, by show al.l + 1 ≤ _; omega, (HF.out.front (l := [(gk1, 27, Aq.cells ⟨wr, 3, 1, ⟨1, 3, 1, 0⟩, ⟨sa, n, sk⟩, 7, ((dl : Nat) : Int), ⟨da, dl, dk⟩⟩), (gk6, 34, #[.iface 84 (.pointer (some ⟨m, 0, none⟩)), .pointer (some ⟨r, 0, none⟩)])]) (l2 := [(gk58, 52, Mg.cells D), (gk67, 57, #[y62.v])]))⟩
             case measure => simp [intOf]; omega
         · skip
           go_upto_region 19 with fail
           refine WL.start <| uK (.int .i64 ((i : Nat) : Int)) <| uK (.pointer (some ⟨gk6, 1, none⟩)) <| uL 32 ⟨gk6, 1, none⟩ (.pointer (some ⟨r, 0, none⟩)) (load_one ((HF.out.box 1 _ _ _ rfl).cell 1 |>.trans (by kernel_rfl)) U32 V32) <| uK (.pointer (some ⟨r, 0, none⟩)) <| uK (.pointer (some ⟨r, 7, none⟩)) <| uL 24 ⟨r, 7, none⟩ (g.v) (load_one (HRf.out.box.cell 7 |>.trans (by kernel_rfl)) U24 rfl) <| uK (.int .i64 ((g.l : Nat) : Int)) <| ?_
           try simp only [pS]
           refine uB .lss 3 (.int .i64 ((i : Nat) : Int)) (.int .i64 ((g.l : Nat) : Int)) (.bool false) (by rw [b_lss, decide_eq_false (by omega)]) <| uK (.bool false) <| uZ <| uZ <| uZ <| uZ <| uZ <| uZ <| ?_
           try simp only [pS]
           refine uK (.bool false) <| WL.nil <| ?_
           try simp only [pS]
           go_upto_region 27 with fail
           refine WL.start <| uK (.int .i64 0) <| WL.nil <| ?_
           try simp only [pS]
           go_wp2
           go_loopw [10, 17] (fun v10 v17 wr' => ∃ (i : Nat) (I : Nat → Prop) (LV : Option (Nat × Nat)) (s : RM) (x : Rx) (X : List It) (al : Sl), v10 = al.v ∧ v17 = .int .i64 ((i : Nat) : Int) ∧ i ≤ 2 ∧ al.l ≤ 104 + i ∧ Hid (Lr w w1 wr' m r g I LV s s x X X.length al [(gk1, 27, Aq.cells ⟨wr, 3, 1, ⟨1, 3, 1, 0⟩, ⟨sa, n, sk⟩, 7, ((dl : Nat) : Int), ⟨da, dl, dk⟩⟩), (gk6, 34, #[.iface 84 (.pointer (some ⟨m, 0, none⟩)), .pointer (some ⟨r, 0, none⟩)])])) (fun _ i _ => 2 - (intOf i).toNat)
           case atStart => exact ⟨0, I, LV, s, x, X, al, by go_num, by go_num, by omega, (by omega), HF⟩
           case round =>
             rename World => wo3
             clear HF
             obtain ⟨i, I, LV, s, x, X, al, rfl, rfl, hi, hal, HF⟩ := hrel
             by_cases hlt : i < 2
             · skip
               go_upto_region 28 with fail
               refine WL.start <| uK (.int .i64 ((i : Nat) : Int)) <| uB .lss 3 (.int .i64 ((i : Nat) : Int)) (.int .i64 2) (.bool true) (by rw [b_lss, decide_eq_true (by omega)]) <| WL.nil <| ?_
               try simp only [pS]
               go_upto_region 30 with fail
               refine WL.start <| uK (.pointer (some ⟨gk6, 0, none⟩)) <| uL 31 ⟨gk6, 0, none⟩ (.iface 84 (.pointer (some ⟨m, 0, none⟩))) (load_one ((HF.out.box 1 _ _ _ rfl).cell 0 |>.trans (by kernel_rfl)) U31 V31) <| ?_
               try simp only [pS]
               refine uC 62 #[.pointer (some ⟨m, 0, none⟩)] (tick_M HF.out.lg.wq.mch) ?_
               rintro e wk71 ho
               obtain ⟨y72, I72, rfl, hT, hL⟩ := HF.out.told rfl (Nat.le_refl _) (Nat.le_trans (ss_tik HF.out.lg.wq.mch) HF.out.lg.wq.mch.len) ho
               have HT : Hid (Tel wk71 r g LV X y72 ((s, tikP s))) := hT
               have HF : Hid (Lr w w1 wk71 m r g I72 LV s s x (X ++ [y72]) X.length al [(gk1, 27, Aq.cells ⟨wr, 3, 1, ⟨1, 3, 1, 0⟩, ⟨sa, n, sk⟩, 7, ((dl : Nat) : Int), ⟨da, dl, dk⟩⟩), (gk6, 34, #[.iface 84 (.pointer (some ⟨m, 0, none⟩)), .pointer (some ⟨r, 0, none⟩)])]) := hL
               clear ho hT hL
               refine ⟨y72.v, rfl, ?_⟩
               try simp only [pS]
               refine uK (y72.v) <| WL.nil <| ?_
               try simp only [pS]
               go_upto_region 31 with fail
               refine WL.start <| uK (y72.v) <| uK (.pointer (some ⟨gk6, 1, none⟩)) <| uL 32 ⟨gk6, 1, none⟩ (.pointer (some ⟨r, 0, none⟩)) (load_one ((HF.out.box 1 _ _ _ rfl).cell 1 |>.trans (by kernel_rfl)) U32 V32) <| ?_
               try simp only [pS]
               refine uC 11 #[.pointer (some ⟨r, 0, none⟩)] (refTick HF.out.lg.wq (show Rel (Bw (Hx (X ++ [y72]) al [(gk1, 27, Aq.cells ⟨wr, 3, 1, ⟨1, 3, 1, 0⟩, ⟨sa, n, sk⟩, 7, ((dl : Nat) : Int), ⟨da, dl, dk⟩⟩), (gk6, 34, #[.iface 84 (.pointer (some ⟨m, 0, none⟩)), .pointer (some ⟨r, 0, none⟩)])]) wk71 I72 (Jx r g LV)) s x from HF.out.rel)) ?_
               rintro e wk73 ho
               obtain ⟨t74, ls74, LV74, x74, rfl, hRd, hl1, hLk, hk, hJ, hL⟩ := HF.out.ref ho
               have HT : Hid (Tel wk73 r g LV74 X y72 ((s, tikP s))) := HT.out.ref hk hJ
               have HRd : Hid (RdM wk73 t74 ls74) := hRd
               have hl1 : Hid (ls74.length ≤ 1000) := hl1
               have HLk : Hid (LikeT (Bw (Hx (X ++ [y72]) al [(gk1, 27, Aq.cells ⟨wr, 3, 1, ⟨1, 3, 1, 0⟩, ⟨sa, n, sk⟩, 7, ((dl : Nat) : Int), ⟨da, dl, dk⟩⟩), (gk6, 34, #[.iface 84 (.pointer (some ⟨m, 0, none⟩)), .pointer (some ⟨r, 0, none⟩)])]) wk73 I72 (Jx r g LV74)) x74 ((s, tikP s)) ls74) := hLk
               have HF : Hid (Lr w w1 wk73 m r g I72 LV74 s s x74 (X ++ [y72]) X.length al [(gk1, 27, Aq.cells ⟨wr, 3, 1, ⟨1, 3, 1, 0⟩, ⟨sa, n, sk⟩, 7, ((dl : Nat) : Int), ⟨da, dl, dk⟩⟩), (gk6, 34, #[.iface 84 (.pointer (some ⟨m, 0, none⟩)), .pointer (some ⟨r, 0, none⟩)])]) := hL
               clear ho hRd hLk hk hJ hL
               refine ⟨t74.v, rfl, ?_⟩
               try simp only [pS]
               refine uC 10 #[y72.v, t74.v] (HT.out.same HRd.out HLk.out hl1.out) ?_
               rintro e wk75 ⟨rfl, hk⟩
               have HF : Hid (Lr w w1 wk75 m r g I72 LV74 s s x74 (X ++ [y72]) X.length al [(gk1, 27, Aq.cells ⟨wr, 3, 1, ⟨1, 3, 1, 0⟩, ⟨sa, n, sk⟩, 7, ((dl : Nat) : Int), ⟨da, dl, dk⟩⟩), (gk6, 34, #[.iface 84 (.pointer (some ⟨m, 0, none⟩)), .pointer (some ⟨r, 0, none⟩)])]) := HF.out.no hk
               clear hk
               refine ⟨.bool true, rfl, ?_⟩
               try simp only [pS]
               clear HT HRd HLk hl1
               refine uK (.bool false) <| WL.nil <| ?_
               try simp only [pS]
               go_upto_region 33 with fail
               refine WL.start <| uK (al.v) <| uK (y72.v) <| ?_
               try simp only [pS]
               have hq76 := HF.out.lg.wq.kp.size
               refine uR (.slice (some ⟨wk75.heap.size, 0, none⟩) 1 1) (wk75.alloc (.cells (#[y72.v]) 57)) (exec_slice2 56 57 _ rfl (#[y72.v]) (y72.v) (by kernel_rfl) (by kernel_rfl)) ?_
               try simp only [pS]
               have HF : Hid (Lr w w1 (wk75.alloc (.cells (#[y72.v]) 57)) m r g I72 LV74 s s x74 (X ++ [y72]) X.length al [(gk1, 27, Aq.cells ⟨wr, 3, 1, ⟨1, 3, 1, 0⟩, ⟨sa, n, sk⟩, 7, ((dl : Nat) : Int), ⟨da, dl, dk⟩⟩), (gk6, 34, #[.iface 84 (.pointer (some ⟨m, 0, none⟩)), .pointer (some ⟨r, 0, none⟩)]), (wk75.heap.size, 57, #[y72.v])]) := HF.out.alloc _ _
               generalize wk75.alloc (.cells (#[y72.v]) 57) = wk78 at HF ⊢
               generalize hzgk77 : wk75.heap.size = gk77 at HF ⊢
               obtain ⟨a79, k79, wk80, hap, hL⟩ := HF.out.keep (cc := 1) (by omega) (HF.out.box 2 _ _ _ rfl)
               refine uR (.slice a79 (al.l + 1) k79) (wk80) (exec_appN _ _ 56 56 rfl _ _ (by kernel_rfl) (by kernel_rfl) hap) ?_
               try simp only [pS]
               have HF : Hid (Lr w w1 wk80 m r g I72 LV74 s s x74 (X ++ [y72]) ((X ++ [y72]).length) ⟨a79, al.l + 1, k79⟩ [(gk1, 27, Aq.cells ⟨wr, 3, 1, ⟨1, 3, 1, 0⟩, ⟨sa, n, sk⟩, 7, ((dl : Nat) : Int), ⟨da, dl, dk⟩⟩), (gk6, 34, #[.iface 84 (.pointer (some ⟨m, 0, none⟩)), .pointer (some ⟨r, 0, none⟩)]), (gk77, 57, #[y72.v])]) := hL
               clear hap hL
               refine uK (.slice a79 (al.l + 1) k79) <| WL.nil <| ?_
               try simp only [pS]
               go_upto_region 29 with fail
               refine WL.start <| uK (.int .i64 ((i : Nat) : Int)) <| uB .add 3 (.int .i64 ((i : Nat) : Int)) (.int .i64 1) (.int .i64 (((i + 1) : Nat) : Int)) (b_addw _ _ _ (by rw [IntKind.wrap_i64]; omega) _) <| uK (.int .i64 (((i + 1) : Nat) : Int)) <| WL.nil <| ?_
               try simp only [pS]
               go_wp2
               go_roundw
               case rel => exact ⟨i + 1, I72, LV74, s, x74, (X ++ [y72]), ⟨a79, al.l + 1, k79⟩, by go_num, by go_num, by omega, by show al.l + 1 ≤ _; omega, (HF.out.front (l := [(gk1, 27, Aq.cells ⟨wr, 3, 1, ⟨1, 3, 1, 0⟩, ⟨sa, n, sk⟩, 7, ((dl : Nat) : Int), ⟨da, dl, dk⟩⟩), (gk6, 34, #[.iface 84 (.pointer (some ⟨m, 0, none⟩)), .pointer (some ⟨r, 0, none⟩)])]) (l2 := [(gk77, 57, #[y72.v])]))⟩
               case measure => simp [intOf]; omega
             · skip
               go_upto_region 28 with fail
               refine WL.start <| uK (.int .i64 ((i : Nat) : Int)) <| uB .lss 3 (.int .i64 ((i : Nat) : Int)) (.int .i64 2) (.bool false) (by rw [b_lss, decide_eq_false (by omega)]) <| WL.nil <| ?_
               try simp only [pS]
               go_upto_region 34 with fail
               refine WL.start <| uK (.pointer (some ⟨gk6, 0, none⟩)) <| uL 31 ⟨gk6, 0, none⟩ (.iface 84 (.pointer (some ⟨m, 0, none⟩))) (load_one ((HF.out.box 1 _ _ _ rfl).cell 0 |>.trans (by kernel_rfl)) U31 V31) <| ?_
               try simp only [pS]
               refine uC 62 #[.pointer (some ⟨m, 0, none⟩)] (tick_M HF.out.lg.wq.mch) ?_
               rintro e wk81 ho
               obtain ⟨y82, I82, rfl, hT, hL⟩ := HF.out.told rfl (Nat.le_refl _) (Nat.le_trans (ss_tik HF.out.lg.wq.mch) HF.out.lg.wq.mch.len) ho
               have HT : Hid (Tel wk81 r g LV X y82 ((s, tikP s))) := hT
               have HF : Hid (Lr w w1 wk81 m r g I82 LV s s x (X ++ [y82]) X.length al [(gk1, 27, Aq.cells ⟨wr, 3, 1, ⟨1, 3, 1, 0⟩, ⟨sa, n, sk⟩, 7, ((dl : Nat) : Int), ⟨da, dl, dk⟩⟩), (gk6, 34, #[.iface 84 (.pointer (some ⟨m, 0, none⟩)), .pointer (some ⟨r, 0, none⟩)])]) := hL
               clear ho hT hL
               refine ⟨y82.v, rfl, ?_⟩
               try simp only [pS]
               refine uK (y82.v) <| WL.nil <| ?_
               try simp only [pS]
               go_upto_region 35 with fail
               refine WL.start <| uK (al.v) <| ?_
               try simp only [pS]
               have HF : Hid (Lr w w1 wk81 m r g I82 LV s s x X X.length al [(gk1, 27, Aq.cells ⟨wr, 3, 1, ⟨1, 3, 1, 0⟩, ⟨sa, n, sk⟩, 7, ((dl : Nat) : Int), ⟨da, dl, dk⟩⟩), (gk6, 34, #[.iface 84 (.pointer (some ⟨m, 0, none⟩)), .pointer (some ⟨r, 0, none⟩)])]) := HF.out.drop (Nat.le_refl _)
               refine uC 14 #[al.v] (grown_any (fun k => ∃ (j : Nat) (z : It), (X)[j]? = some z ∧ z.at k) al X wk81 (fun j z hz k e => ⟨j, z, hz, e⟩) HF.out.lg.ks (by have h := HF.out.lg.ra; rw [List.take_length] at h; exact Own.lower h (Nat.zero_le _)) HF.out.lg.raw (by omega)) ?_
               rintro e wk83 ⟨rfl, hk⟩
               have HT : Hid (Tel wk83 r g LV [] y82 ((s, tikP s))) := (HT.out.kept hk (fun k e => .inr (.inl e))).nil
               have HF : Hid (Lr w w1 wk83 m r g I82 LV s s x ([]) 0 slZ [(gk1, 27, Aq.cells ⟨wr, 3, 1, ⟨1, 3, 1, 0⟩, ⟨sa, n, sk⟩, 7, ((dl : Nat) : Int), ⟨da, dl, dk⟩⟩), (gk6, 34, #[.iface 84 (.pointer (some ⟨m, 0, none⟩)), .pointer (some ⟨r, 0, none⟩)])]) := HF.out.grown hk
               clear hk
               refine ⟨.bool true, rfl, ?_⟩
               try simp only [pS]
               refine uK (.bool false) <| uK (.bool false) <| uK (y82.v) <| uK (.pointer (some ⟨gk6, 1, none⟩)) <| uL 32 ⟨gk6, 1, none⟩ (.pointer (some ⟨r, 0, none⟩)) (load_one ((HF.out.box 1 _ _ _ rfl).cell 1 |>.trans (by kernel_rfl)) U32 V32) <| ?_
               try simp only [pS]
               refine uC 11 #[.pointer (some ⟨r, 0, none⟩)] (refTick HF.out.lg.wq (show Rel (Bw (Hx ([]) slZ [(gk1, 27, Aq.cells ⟨wr, 3, 1, ⟨1, 3, 1, 0⟩, ⟨sa, n, sk⟩, 7, ((dl : Nat) : Int), ⟨da, dl, dk⟩⟩), (gk6, 34, #[.iface 84 (.pointer (some ⟨m, 0, none⟩)), .pointer (some ⟨r, 0, none⟩)])]) wk83 I82 (Jx r g LV)) s x from HF.out.rel)) ?_
               rintro e wk84 ho
               obtain ⟨t85, ls85, LV85, x85, rfl, hRd, hl1, hLk, hk, hJ, hL⟩ := HF.out.ref ho
               have HT : Hid (Tel wk84 r g LV85 ([]) y82 ((s, tikP s))) := HT.out.ref hk hJ
               have HRd : Hid (RdM wk84 t85 ls85) := hRd
               have hl1 : Hid (ls85.length ≤ 1000) := hl1
               have HLk : Hid (LikeT (Bw (Hx ([]) slZ [(gk1, 27, Aq.cells ⟨wr, 3, 1, ⟨1, 3, 1, 0⟩, ⟨sa, n, sk⟩, 7, ((dl : Nat) : Int), ⟨da, dl, dk⟩⟩), (gk6, 34, #[.iface 84 (.pointer (some ⟨m, 0, none⟩)), .pointer (some ⟨r, 0, none⟩)])]) wk84 I82 (Jx r g LV85)) x85 ((s, tikP s)) ls85) := hLk
               have HF : Hid (Lr w w1 wk84 m r g I82 LV85 s s x85 ([]) 0 slZ [(gk1, 27, Aq.cells ⟨wr, 3, 1, ⟨1, 3, 1, 0⟩, ⟨sa, n, sk⟩, 7, ((dl : Nat) : Int), ⟨da, dl, dk⟩⟩), (gk6, 34, #[.iface 84 (.pointer (some ⟨m, 0, none⟩)), .pointer (some ⟨r, 0, none⟩)])]) := hL
               clear ho hRd hLk hk hJ hL
               refine ⟨t85.v, rfl, ?_⟩
               try simp only [pS]
               refine uC 10 #[y82.v, t85.v] (HT.out.same HRd.out HLk.out hl1.out) ?_
               rintro e wk86 ⟨rfl, hk⟩
               have HF : Hid (Lr w w1 wk86 m r g I82 LV85 s s x85 ([]) 0 slZ [(gk1, 27, Aq.cells ⟨wr, 3, 1, ⟨1, 3, 1, 0⟩, ⟨sa, n, sk⟩, 7, ((dl : Nat) : Int), ⟨da, dl, dk⟩⟩), (gk6, 34, #[.iface 84 (.pointer (some ⟨m, 0, none⟩)), .pointer (some ⟨r, 0, none⟩)])]) := HF.out.no hk
               clear hk
               refine ⟨.bool true, rfl, ?_⟩
               try simp only [pS]
               clear HT HRd HLk hl1
               refine uK (.bool false) <| uK (.bool false) <| WL.nil <| ?_
               try simp only [pS]
               go_upto_region 37 with fail
               refine WL.start <| uK (.pointer (some ⟨gk6, 0, none⟩)) <| uL 31 ⟨gk6, 0, none⟩ (.iface 84 (.pointer (some ⟨m, 0, none⟩))) (load_one ((HF.out.box 1 _ _ _ rfl).cell 0 |>.trans (by kernel_rfl)) U31 V31) <| ?_
               try simp only [pS]
               refine uC 62 #[.pointer (some ⟨m, 0, none⟩)] (tick_M HF.out.lg.wq.mch) ?_
               rintro e wk87 ho
               obtain ⟨y88, I88, rfl, hT, hL⟩ := HF.out.told rfl (Nat.le_refl _) (Nat.le_trans (ss_tik HF.out.lg.wq.mch) HF.out.lg.wq.mch.len) ho
               have HT : Hid (Tel wk87 r g LV85 ([]) y88 ((s, tikP s))) := hT
               have HF : Hid (Lr w w1 wk87 m r g I88 LV85 s s x85 ([] ++ [y88]) 0 slZ [(gk1, 27, Aq.cells ⟨wr, 3, 1, ⟨1, 3, 1, 0⟩, ⟨sa, n, sk⟩, 7, ((dl : Nat) : Int), ⟨da, dl, dk⟩⟩), (gk6, 34, #[.iface 84 (.pointer (some ⟨m, 0, none⟩)), .pointer (some ⟨r, 0, none⟩)])]) := hL
               clear ho hT hL
               refine ⟨y88.v, rfl, ?_⟩
               try simp only [pS]
               refine uK (y88.v) <| WL.nil <| ?_
               try simp only [pS]
               go_upto_region 38 with fail
               refine WL.start <| uK (y88.v) <| uK (.pointer (some ⟨gk6, 1, none⟩)) <| uL 32 ⟨gk6, 1, none⟩ (.pointer (some ⟨r, 0, none⟩)) (load_one ((HF.out.box 1 _ _ _ rfl).cell 1 |>.trans (by kernel_rfl)) U32 V32) <| ?_
               try simp only [pS]
               refine uC 11 #[.pointer (some ⟨r, 0, none⟩)] (refTick HF.out.lg.wq (show Rel (Bw (Hx ([] ++ [y88]) slZ [(gk1, 27, Aq.cells ⟨wr, 3, 1, ⟨1, 3, 1, 0⟩, ⟨sa, n, sk⟩, 7, ((dl : Nat) : Int), ⟨da, dl, dk⟩⟩), (gk6, 34, #[.iface 84 (.pointer (some ⟨m, 0, none⟩)), .pointer (some ⟨r, 0, none⟩)])]) wk87 I88 (Jx r g LV85)) s x85 from HF.out.rel)) ?_
               rintro e wk89 ho
               obtain ⟨t90, ls90, LV90, x90, rfl, hRd, hl1, hLk, hk, hJ, hL⟩ := HF.out.ref ho
               have HT : Hid (Tel wk89 r g LV90 ([]) y88 ((s, tikP s))) := HT.out.ref hk hJ
               have HRd : Hid (RdM wk89 t90 ls90) := hRd
               have hl1 : Hid (ls90.length ≤ 1000) := hl1
               have HLk : Hid (LikeT (Bw (Hx ([] ++ [y88]) slZ [(gk1, 27, Aq.cells ⟨wr, 3, 1, ⟨1, 3, 1, 0⟩, ⟨sa, n, sk⟩, 7, ((dl : Nat) : Int), ⟨da, dl, dk⟩⟩), (gk6, 34, #[.iface 84 (.pointer (some ⟨m, 0, none⟩)), .pointer (some ⟨r, 0, none⟩)])]) wk89 I88 (Jx r g LV90)) x90 ((s, tikP s)) ls90) := hLk
               have HF : Hid (Lr w w1 wk89 m r g I88 LV90 s s x90 ([] ++ [y88]) 0 slZ [(gk1, 27, Aq.cells ⟨wr, 3, 1, ⟨1, 3, 1, 0⟩, ⟨sa, n, sk⟩, 7, ((dl : Nat) : Int), ⟨da, dl, dk⟩⟩), (gk6, 34, #[.iface 84 (.pointer (some ⟨m, 0, none⟩)), .pointer (some ⟨r, 0, none⟩)])]) := hL
               clear ho hRd hLk hk hJ hL
               refine ⟨t90.v, rfl, ?_⟩
               try simp only [pS]
               refine uC 10 #[y88.v, t90.v] (HT.out.same HRd.out HLk.out hl1.out) ?_
               rintro e wk91 ⟨rfl, hk⟩
               have HF : Hid (Lr w w1 wk91 m r g I88 LV90 s s x90 ([] ++ [y88]) 0 slZ [(gk1, 27, Aq.cells ⟨wr, 3, 1, ⟨1, 3, 1, 0⟩, ⟨sa, n, sk⟩, 7, ((dl : Nat) : Int), ⟨da, dl, dk⟩⟩), (gk6, 34, #[.iface 84 (.pointer (some ⟨m, 0, none⟩)), .pointer (some ⟨r, 0, none⟩)])]) := HF.out.no hk
               clear hk
               refine ⟨.bool true, rfl, ?_⟩
               try simp only [pS]
               clear HT HRd HLk hl1
               refine uK (.bool true) <| uL 34 ⟨gk6, 0, none⟩ (.agg #[.iface 84 (.pointer (some ⟨m, 0, none⟩)), .pointer (some ⟨r, 0, none⟩)]) (run_load_part (cs := [.iface 84 (.pointer (some ⟨m, 0, none⟩)), .pointer (some ⟨r, 0, none⟩)]) (sub := [.iface 84 (.pointer (some ⟨m, 0, none⟩)), .pointer (some ⟨r, 0, none⟩)]) (HF.out.box 1 _ _ _ rfl) (Part.all _) U34 rfl S34) <| ?_
               try simp only [pS]
               refine uC 7 #[.agg #[.iface 84 (.pointer (some ⟨m, 0, none⟩)), .pointer (some ⟨r, 0, none⟩)]] (look_any w1 I88 m r g LV90 s x90 wk91 HF.out.lg.wq (show Rel (Bw (Hx ([] ++ [y88]) slZ [(gk1, 27, Aq.cells ⟨wr, 3, 1, ⟨1, 3, 1, 0⟩, ⟨sa, n, sk⟩, 7, ((dl : Nat) : Int), ⟨da, dl, dk⟩⟩), (gk6, 34, #[.iface 84 (.pointer (some ⟨m, 0, none⟩)), .pointer (some ⟨r, 0, none⟩)])]) wk91 I88 (Jx r g LV90)) s x90 from HF.out.rel)) ?_
               rintro e wk92 ⟨rfl, hk⟩
               have HF : Hid (Lr w w1 wk92 m r g I88 LV90 s s x90 ([] ++ [y88]) 0 slZ [(gk1, 27, Aq.cells ⟨wr, 3, 1, ⟨1, 3, 1, 0⟩, ⟨sa, n, sk⟩, 7, ((dl : Nat) : Int), ⟨da, dl, dk⟩⟩), (gk6, 34, #[.iface 84 (.pointer (some ⟨m, 0, none⟩)), .pointer (some ⟨r, 0, none⟩)])]) := HF.out.no hk
               clear hk
               refine ⟨.bool true, rfl, ?_⟩
               try simp only [pS]
               refine uK (.bool true) <| uK (.bool true) <| ?_
               try simp only [pS]
               refine uC 5 #[] (head_any _) ?_
               rintro e wk93 ⟨rfl, hk⟩
               have HF : Hid (Lr w w1 wk93 m r g I88 LV90 s s x90 ([] ++ [y88]) 0 slZ [(gk1, 27, Aq.cells ⟨wr, 3, 1, ⟨1, 3, 1, 0⟩, ⟨sa, n, sk⟩, 7, ((dl : Nat) : Int), ⟨da, dl, dk⟩⟩), (gk6, 34, #[.iface 84 (.pointer (some ⟨m, 0, none⟩)), .pointer (some ⟨r, 0, none⟩)])]) := HF.out.no hk
               clear hk
               refine ⟨.bool true, rfl, ?_⟩
               try simp only [pS]
               refine uK (.bool true) <| uK (.bool true) <| WL.nil <| ?_
               try simp only [pS]
               go_wp2
               rw [HC.out]
               exact ⟨rfl, HF.out.lg.fr.kept⟩
  ·skip
   refine uB .gtr 3 (.int .i64 ((n : Nat) : Int)) (.int .i64 100) (.bool true) (by rw [b_gtr, q1]; try rfl) <| WL.nil <| ?_
   try simp only [pS]
   go_upto_region 2 with fail
   refine WL.start ?_
   refine uC 5 #[] (head_any _) ?_
   rintro e wk94 ⟨rfl, hk⟩
   have HF : Hid (Fq No w (wk94) []) := HF.out.no hk
   clear hk
   refine ⟨.bool true, rfl, ?_⟩
   try simp only [pS]
   refine uK (.bool true) <| WL.nil <| ?_
   try simp only [pS]
   go_wp2
   rw [HC.out]
   exact ⟨rfl, HF.out.kept⟩

end Go.Proofs.Ythnecaejhnojfaa.Md
