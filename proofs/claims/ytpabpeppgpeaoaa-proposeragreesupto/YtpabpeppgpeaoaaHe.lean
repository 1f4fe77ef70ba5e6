import Derived.Test.YtpabpeppgpeaoaaHd
namespace Go.Proofs.Ytpabpeppgpeaoaa.Md
open Go.RowKit Gx
set_option linter.unusedVariables false
set_option linter.unusedSimpArgs false

section
variable {w W W2 : World} {J0 J J2 S : Nat → Prop} {hb : Nat} {v v2 : Hv} {pp pp2 : List Nat} {h h2 : Pax.Hl} {l l2 : List (Nat × TypeId × Array Value)} {T T' : List (Sl × List Mg)}
theorem Hg.nehb (H : Hg w W J0 J hb v pp h l T) (i : Nat) {g : Nat} {t : TypeId} {cs : Array Value} (hi : l[i]? = some (g, t, cs)) : hb ≠ g := fun e => H.li i g t cs hi (e ▸ H.hal.rj hb (.inl rfl))
end
set_option maxRecDepth 100000 in
set_option maxHeartbeats 4000000 in
theorem send_any (J : Nat → Prop) (hb : Nat) (v : Hv) (pp : List Nat) (h : Pax.Hl) (t : Sl) (ms : List Ms) (w : World) (hH : Hal w J hb v pp h) (hl : OwM w 0 t (ms.map dM)) (hj : ∀ k, At t.a k → ¬ J k) (hn : h.way.length ≤ 2000000) (hm : ms.length ≤ 1000000) : Calls Try.prog 46 #[.pointer (some ⟨hb, 0, none⟩), t.v] w (HlO w J hb pp (Pax.sendH h ms)) := by
  refine hideC fun C HC => ?_
  have htl : ms.length = t.l := by have := hl.len; simpa using this
  have HF : Hid (Hg w w J J hb v pp (Pax.sendH h (ms.take 0)) [] [(t, ms.map dM)]) := by
    have e : Pax.sendH h (ms.take 0) = h := by unfold Pax.sendH Pax.sendW; simp
    rw [e]
    exact (Hg.start hH).add hl hj (by simp)
  clear hH hl hj
  go_enter Try.func46, Try.ntmps46
  go_upto_region 0 with fail
  refine WL.start <| uK (.int .i64 0) <| WL.nil <| ?_
  try simp only [pS]
  go_wp2
  go_loopw [4] (fun v4 wr => ∃ (i : Nat) (J1 : Nat → Prop) (v1 : Hv), v4 = .int .i64 ((i : Nat) : Int) ∧ i ≤ t.l ∧ Hid (Hg w wr J J1 hb v1 pp (Pax.sendH h (ms.take i)) [] [(t, ms.map dM)])) (fun i _ => t.l - (intOf i).toNat)
  case atStart => exact ⟨0, J, v, by go_num, by omega, HF⟩
  case round =>
    clear HF
    obtain ⟨i, J1, v1, rfl, hi, HF⟩ := hrel
    have hyl := HF.out.yl
    have hyb : (Pax.sendW h.way (ms.take i)).length ≤ 3000000 := by
      unfold Pax.sendW
      rw [List.length_append, List.length_take, List.length_take]
      omega
    by_cases hlt : i < t.l
    · skip
      obtain ⟨m, hmi⟩ : ∃ m, ms[i]? = some m := ⟨_, List.getElem?_eq_getElem (by omega)⟩
      have hst := send_step (way := h.way) hmi
      have hxl : (Pax.sendW h.way (ms.take i)).length = v1.y.l := hyl
      by_cases hfew : v1.y.l < 4000
      · skip
        go_upto_region 1 with fail
        refine WL.start <| uK (.int .i64 ((i : Nat) : Int)) <| uK (t.v) <| uK (.int .i64 ((t.l : Nat) : Int)) <| uB .lss 3 (.int .i64 ((i : Nat) : Int)) (.int .i64 ((t.l : Nat) : Int)) (.bool true) (by rw [b_lss, decide_eq_true (by omega)]) <| WL.nil <| ?_
        try simp only [pS]
        go_upto_region 3 with fail
        refine WL.start <| uK (pV hb 0) <| uK (pV hb 0) <| uK (pV hb 7) <| uL 66 ⟨hb, 7, none⟩ (v1.y.v) (load_one ((HF.out.hal.box).cell 7 |>.trans (by kernel_rfl)) U66 rfl) <| uK (.int .i64 ((v1.y.l : Nat) : Int)) <| uB .lss 3 (.int .i64 ((v1.y.l : Nat) : Int)) (.int .i64 4000) (.bool true) (by rw [b_lss, decide_eq_true (by omega)]) <| WL.nil <| ?_
        try simp only [pS]
        obtain ⟨gt, hgt⟩ := own_some (HF.out.tl 0 _ rfl).own hlt
        go_upto_region 4 with fail
        refine wp_region_held_drew (S := fun w' => OwM w' 0 t (ms.map dM)) rfl (HF.out.drew.tl 0 _ rfl) (fun hH => ?_)
        have HF : Hid (Hg w wr.drew J J1 hb v1 pp (Pax.sendH h (ms.take i)) [] [(t, ms.map dM)]) := HF.out.drew
        generalize wr.drew = wk1 at HF hH ⊢
        refine xV 0 17 (pV hb 0) hH <| xV 1 18 (pV hb 0) hH <| xV 2 19 (pV hb 0) hH <| xV 3 20 (pV hb 7) hH <| xV 5 22 t.v hH <| xV 6 23 (.int .i64 ((i : Nat) : Int)) hH <| ?_
        try simp only [pS]
        refine xU 7 24 (pV gt (0 + i * 30)) (fun w' hw => exec_ixA 66 30 E66 F66 _ _ rfl gt 0 t.l t.k i (Eq.trans (b := t.v) (by kernel_rfl) (sl_v (s := t) hgt)) (by kernel_rfl) (by omega)) hH <| xL 8 25 47 ⟨gt, 0 + i * 30, none⟩ (.agg (Mg.cells (dM m))) (fun _ hw => ld_M (msgs_cell hw hgt (by rw [List.getElem?_map, hmi]; rfl))) hH <| ?_
        try simp only [pS]
        refine any_pick (rs := [4, 9]) (by kernel_rfl) (by simp) ?_
        intro i hi
        rcases pick2 hi with rfl | rfl
        ·skip
         clear hi
         refine step_run (i := 4) (o := { dst := some 21, op := Op.load 66 (Operand.tmp 20), type := 66, pos := "outright.go:50", after := #[{ on := 3, ground := Ground.data }], guard := none }) (v := v1.y.v) (w' := wk1) rfl (by kernel_rfl) (exec_load 66 _ rfl ⟨hb, 7, none⟩ (by kernel_rfl) (v1.y.v) (load_one ((HF.out.hal.box).cell 7 |>.trans (by kernel_rfl)) U66 rfl)) hH (fun hH => ?_)
         try simp only [pS]
         refine any_step (i := 9) (o := { dst := some 26, op := Op.buildSlice 66 1 #[(0, Operand.tmp 25)], type := 66, pos := "outright.go:50", after := #[{ on := 8, ground := Ground.data }], guard := none }) rfl (by kernel_rfl) (by kernel_rfl) (exec_slice2 66 47 _ rfl (Mg.cells (dM m)) (.agg (Mg.cells (dM m))) (by kernel_rfl) (by kernel_rfl)) ((hH.no ((Kept.refl No _).alloc _))) (fun hH => ?_)
         try simp only [pS]
         have HF : Hid (Hg w (wk1.alloc (.cells (Mg.cells (dM m)) 47)) J J1 hb v1 pp (Pax.sendH h (ms.take i)) [(wk1.heap.size, 47, Mg.cells (dM m))] [(t, ms.map dM)]) := HF.out.alloc _ _
         generalize wk1.alloc (.cells (Mg.cells (dM m)) 47) = wk3 at HF hH ⊢
         generalize wk1.heap.size = gk2 at HF ⊢
         obtain ⟨a1, k1, W2, J2, hap, hkY, hbY, hG⟩ := HF.out.push (m := m) (ad := ⟨gk2, 0, none⟩) (cc := 1) (by omega) (fun j u hj => by rw [addr_add, Nat.zero_add, (HF.out.box 0 _ _ _ rfl).cell]; simpa [Mg.cells] using hj)
         have hkJ := HF.out.yj hkY
         have hap : (Builtin.append_ #[66, 66] 66 #[v1.y.v, .slice (some ⟨gk2, 0, none⟩) 1 1]).run Try.prog wk3 = .ok (.slice a1 (v1.y.l + 1) k1) W2 := hap
         refine xP 10 27 (.slice a1 (v1.y.l + 1) k1) (w' := W2) (exec_appN _ _ 66 66 rfl _ _ (by kernel_rfl) (by kernel_rfl) hap) ((HF.out.tlJ hkJ 0 rfl)) (fun hH => ?_)
         try simp only [pS]
         refine xV 11 28 (pV hb 0) hH <| xV 12 29 (pV hb 7) hH <| ?_
         try simp only [pS]
         refine xS 13 66 ⟨hb, 7, none⟩ (.slice a1 (v1.y.l + 1) k1) (w' := W2.setRow hb (Hv.cells ⟨v1.ky, v1.g, v1.i, v1.p, ⟨a1, v1.y.l + 1, k1⟩, v1.d, v1.a, v1.b⟩)) (rs (Hv.cs v1) ([.slice a1 (v1.y.l + 1) k1]) (Hv.cs ⟨v1.ky, v1.g, v1.i, v1.p, ⟨a1, v1.y.l + 1, k1⟩, v1.d, v1.a, v1.b⟩) (hbY) S66 (by simp [Value.oneCell', Sl.v])) ((hG.tl 0 _ rfl)) (fun hH => ?_)
         try simp only [pS]
         have HF : Hid (Hg w (W2.setRow hb (Hv.cells ⟨v1.ky, v1.g, v1.i, v1.p, ⟨a1, v1.y.l + 1, k1⟩, v1.d, v1.a, v1.b⟩)) J J2 hb ⟨v1.ky, v1.g, v1.i, v1.p, ⟨a1, v1.y.l + 1, k1⟩, v1.d, v1.a, v1.b⟩ pp ({ Pax.sendH h (ms.take i) with way := (Pax.sendH h (ms.take i)).way ++ [m] }) [(gk2, 47, Mg.cells (dM m))] [(t, ms.map dM)]) := hG
         clear hG
         generalize W2.setRow hb (Hv.cells ⟨v1.ky, v1.g, v1.i, v1.p, ⟨a1, v1.y.l + 1, k1⟩, v1.d, v1.a, v1.b⟩) = wk4 at HF hH ⊢
         have HF : Hid (Hg w wk4 J J2 hb ⟨v1.ky, v1.g, v1.i, v1.p, ⟨a1, v1.y.l + 1, k1⟩, v1.d, v1.a, v1.b⟩ pp (Pax.sendH h (ms.take (i + 1))) [(gk2, 47, Mg.cells (dM m))] [(t, ms.map dM)]) := by
           have e : Pax.sendH h (ms.take (i + 1)) = { Pax.sendH h (ms.take i) with way := (Pax.sendH h (ms.take i)).way ++ [m] } := by
             unfold Pax.sendH
             rw [hst, if_pos (by omega)]
           rw [e]
           exact HF
         refine wpAnyH_done (by kernel_rfl) ?_ _
         try simp only [pS]
         clear hH
         have HF : Hid (Hg w wk4 J J2 hb ⟨v1.ky, v1.g, v1.i, v1.p, ⟨a1, v1.y.l + 1, k1⟩, v1.d, v1.a, v1.b⟩ pp (Pax.sendH h (ms.take (i + 1))) [] [(t, ms.map dM)]) := Hg.front (l := []) HF.out
         go_upto_region 2 with fail
         refine WL.start <| uK (.int .i64 ((i : Nat) : Int)) <| uB .add 3 (.int .i64 ((i : Nat) : Int)) (.int .i64 1) (.int .i64 (((i + 1) : Nat) : Int)) (b_addw _ _ _ (by rw [IntKind.wrap_i64]; omega) _) <| uK (.int .i64 (((i + 1) : Nat) : Int)) <| WL.nil <| ?_
         try simp only [pS]
         go_wp2
         go_roundw
         case rel => exact ⟨i + 1, J2, ⟨v1.ky, v1.g, v1.i, v1.p, ⟨a1, v1.y.l + 1, k1⟩, v1.d, v1.a, v1.b⟩, by go_num, by omega, HF⟩
         case measure => simp [intOf]; omega
        ·skip
         clear hi
         refine step_run (i := 9) (o := { dst := some 26, op := Op.buildSlice 66 1 #[(0, Operand.tmp 25)], type := 66, pos := "outright.go:50", after := #[{ on := 8, ground := Ground.data }], guard := none }) rfl (by kernel_rfl) (exec_slice2 66 47 _ rfl (Mg.cells (dM m)) (.agg (Mg.cells (dM m))) (by kernel_rfl) (by kernel_rfl)) ((hH.no ((Kept.refl No _).alloc _))) (fun hH => ?_)
         try simp only [pS]
         have HF : Hid (Hg w (wk1.alloc (.cells (Mg.cells (dM m)) 47)) J J1 hb v1 pp (Pax.sendH h (ms.take i)) [(wk1.heap.size, 47, Mg.cells (dM m))] [(t, ms.map dM)]) := HF.out.alloc _ _
         generalize wk1.alloc (.cells (Mg.cells (dM m)) 47) = wk6 at HF hH ⊢
         generalize wk1.heap.size = gk5 at HF ⊢
         refine xP 4 21 v1.y.v (w' := wk6) (exec_load 66 _ rfl ⟨hb, 7, none⟩ (by kernel_rfl) (v1.y.v) (load_one ((HF.out.hal.box).cell 7 |>.trans (by kernel_rfl)) U66 rfl)) hH (fun hH => ?_)
         try simp only [pS]
         obtain ⟨a1, k1, W2, J2, hap, hkY, hbY, hG⟩ := HF.out.push (m := m) (ad := ⟨gk5, 0, none⟩) (cc := 1) (by omega) (fun j u hj => by rw [addr_add, Nat.zero_add, (HF.out.box 0 _ _ _ rfl).cell]; simpa [Mg.cells] using hj)
         have hkJ := HF.out.yj hkY
         have hap : (Builtin.append_ #[66, 66] 66 #[v1.y.v, .slice (some ⟨gk5, 0, none⟩) 1 1]).run Try.prog wk6 = .ok (.slice a1 (v1.y.l + 1) k1) W2 := hap
         refine xP 10 27 (.slice a1 (v1.y.l + 1) k1) (w' := W2) (exec_appN _ _ 66 66 rfl _ _ (by kernel_rfl) (by kernel_rfl) hap) ((HF.out.tlJ hkJ 0 rfl)) (fun hH => ?_)
         try simp only [pS]
         refine xV 11 28 (pV hb 0) hH <| xV 12 29 (pV hb 7) hH <| ?_
         try simp only [pS]
         refine xS 13 66 ⟨hb, 7, none⟩ (.slice a1 (v1.y.l + 1) k1) (w' := W2.setRow hb (Hv.cells ⟨v1.ky, v1.g, v1.i, v1.p, ⟨a1, v1.y.l + 1, k1⟩, v1.d, v1.a, v1.b⟩)) (rs (Hv.cs v1) ([.slice a1 (v1.y.l + 1) k1]) (Hv.cs ⟨v1.ky, v1.g, v1.i, v1.p, ⟨a1, v1.y.l + 1, k1⟩, v1.d, v1.a, v1.b⟩) (hbY) S66 (by simp [Value.oneCell', Sl.v])) ((hG.tl 0 _ rfl)) (fun hH => ?_)
         try simp only [pS]
         have HF : Hid (Hg w (W2.setRow hb (Hv.cells ⟨v1.ky, v1.g, v1.i, v1.p, ⟨a1, v1.y.l + 1, k1⟩, v1.d, v1.a, v1.b⟩)) J J2 hb ⟨v1.ky, v1.g, v1.i, v1.p, ⟨a1, v1.y.l + 1, k1⟩, v1.d, v1.a, v1.b⟩ pp ({ Pax.sendH h (ms.take i) with way := (Pax.sendH h (ms.take i)).way ++ [m] }) [(gk5, 47, Mg.cells (dM m))] [(t, ms.map dM)]) := hG
         clear hG
         generalize W2.setRow hb (Hv.cells ⟨v1.ky, v1.g, v1.i, v1.p, ⟨a1, v1.y.l + 1, k1⟩, v1.d, v1.a, v1.b⟩) = wk7 at HF hH ⊢
         have HF : Hid (Hg w wk7 J J2 hb ⟨v1.ky, v1.g, v1.i, v1.p, ⟨a1, v1.y.l + 1, k1⟩, v1.d, v1.a, v1.b⟩ pp (Pax.sendH h (ms.take (i + 1))) [(gk5, 47, Mg.cells (dM m))] [(t, ms.map dM)]) := by
           have e : Pax.sendH h (ms.take (i + 1)) = { Pax.sendH h (ms.take i) with way := (Pax.sendH h (ms.take i)).way ++ [m] } := by
             unfold Pax.sendH
             rw [hst, if_pos (by omega)]
           rw [e]
           exact HF
         refine wpAnyH_done (by kernel_rfl) ?_ _
         try simp only [pS]
         clear hH
         have HF : Hid (Hg w wk7 J J2 hb ⟨v1.ky, v1.g, v1.i, v1.p, ⟨a1, v1.y.l + 1, k1⟩, v1.d, v1.a, v1.b⟩ pp (Pax.sendH h (ms.take (i + 1))) [] [(t, ms.map dM)]) := Hg.front (l := []) HF.out
         go_upto_region 2 with fail
         refine WL.start <| uK (.int .i64 ((i : Nat) : Int)) <| uB .add 3 (.int .i64 ((i : Nat) : Int)) (.int .i64 1) (.int .i64 (((i + 1) : Nat) : Int)) (b_addw _ _ _ (by rw [IntKind.wrap_i64]; omega) _) <| uK (.int .i64 (((i + 1) : Nat) : Int)) <| WL.nil <| ?_
         try simp only [pS]
         go_wp2
         go_roundw
         case rel => exact ⟨i + 1, J2, ⟨v1.ky, v1.g, v1.i, v1.p, ⟨a1, v1.y.l + 1, k1⟩, v1.d, v1.a, v1.b⟩, by go_num, by omega, HF⟩
         case measure => simp [intOf]; omega
      · skip
        go_upto_region 1 with fail
        refine WL.start <| uK (.int .i64 ((i : Nat) : Int)) <| uK (t.v) <| uK (.int .i64 ((t.l : Nat) : Int)) <| uB .lss 3 (.int .i64 ((i : Nat) : Int)) (.int .i64 ((t.l : Nat) : Int)) (.bool true) (by rw [b_lss, decide_eq_true (by omega)]) <| WL.nil <| ?_
        try simp only [pS]
        go_upto_region 3 with fail
        refine WL.start <| uK (pV hb 0) <| uK (pV hb 0) <| uK (pV hb 7) <| uL 66 ⟨hb, 7, none⟩ (v1.y.v) (load_one ((HF.out.hal.box).cell 7 |>.trans (by kernel_rfl)) U66 rfl) <| uK (.int .i64 ((v1.y.l : Nat) : Int)) <| uB .lss 3 (.int .i64 ((v1.y.l : Nat) : Int)) (.int .i64 4000) (.bool false) (by rw [b_lss, decide_eq_false (by omega)]) <| WL.nil <| ?_
        try simp only [pS]
        have HF : Hid (Hg w wr J J1 hb v1 pp (Pax.sendH h (ms.take (i + 1))) [] [(t, ms.map dM)]) := by
          have e : Pax.sendH h (ms.take (i + 1)) = Pax.sendH h (ms.take i) := by
            unfold Pax.sendH
            rw [hst, if_neg (by omega)]
          rw [e]
          exact HF
        go_upto_region 2 with fail
        refine WL.start <| uK (.int .i64 ((i : Nat) : Int)) <| uB .add 3 (.int .i64 ((i : Nat) : Int)) (.int .i64 1) (.int .i64 (((i + 1) : Nat) : Int)) (b_addw _ _ _ (by rw [IntKind.wrap_i64]; omega) _) <| uK (.int .i64 (((i + 1) : Nat) : Int)) <| WL.nil <| ?_
        try simp only [pS]
        go_wp2
        go_roundw
        case rel => exact ⟨i + 1, J1, v1, by go_num, by omega, HF⟩
        case measure => simp [intOf]; omega
    · skip
      go_upto_region 1 with fail
      refine WL.start <| uK (.int .i64 ((i : Nat) : Int)) <| uK (t.v) <| uK (.int .i64 ((t.l : Nat) : Int)) <| uB .lss 3 (.int .i64 ((i : Nat) : Int)) (.int .i64 ((t.l : Nat) : Int)) (.bool false) (by rw [b_lss, decide_eq_false (by omega)]) <| WL.nil <| ?_
      try simp only [pS]
      go_wp2
      rw [HC.out]
      have e : Pax.sendH h ms = Pax.sendH h (ms.take i) := by rw [List.take_of_length_le (by omega)]
      rw [e]
      refine bodyPost_end (v := .tuple #[]) (by kernel_rfl) rfl ⟨rfl, HF.out.out⟩

end Go.Proofs.Ytpabpeppgpeaoaa.Md
