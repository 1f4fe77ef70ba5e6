import Derived.Test.YtpabpeppgpeaoaaRs
namespace Go.Proofs.Ytpabpeppgpeaoaa.Md
open Go.RowKit Gt
set_option linter.unusedVariables false
set_option linter.unusedSimpArgs false

structure Stp where
  k : Int
  m : Mg
def Stp.cs (x : Stp) : List Value := [.int .i64 x.k] ++ x.m.cs
def Stp.cells (x : Stp) : Array Value := x.cs.toArray
theorem Stp.oneL (x : Stp) : ∀ v ∈ x.cs, v.oneCell' = true := by
  intro v hv
  rcases List.mem_append.1 hv with h | h
  · simp at h; subst h; rfl
  · exact Mg.oneL x.m v h
theorem S49 : (Try.prog.info? 49).map (·.size) = some 31 := by kernel_rfl
theorem U49 : Try.prog.underlying 49 = some (.struct (Try.prog.fieldsOf 49)) := by kernel_rfl
theorem MgAt.of {w : World} {m m' : Mg} {bs : List Int} {es : List En} {ls : List La} {cs : List Cm} (h : MgAt w m bs es ls cs) (e1 : m'.bl = m.bl) (e2 : m'.bk = m.bk) (e3 : m'.cm = m.cm) : MgAt w m' bs es ls cs := by
  obtain ⟨a, b, c, d, n1, n2, n3, n4⟩ := h
  exact ⟨by rw [e1]; exact a, by rw [e2]; exact b, by rw [e2]; exact c, by rw [e3]; exact d, by rw [e1]; exact n1, by rw [e2]; exact n2, by rw [e2]; exact n3, by rw [e3]; exact n4⟩
theorem bw_of {w0 : World} {m : Mg} {bs : List Int} {es : List En} {ls : List La} {cs : List Cm} (h : MgAt w0 m bs es ls cs) : Bw w0 m.bk (es.map dE) (ls.map dL) := ⟨rdE_up h.e, rdL_up h.l, h.ne, h.nl⟩
/-- Lent lists can be read. -/
theorem lm_rdE {w : World} {base : Nat} {m : Mg} {bs : List Int} {es : List En} {ls : List La} {cs : List Cm} {gb ge gl gc : Nat} (h : LmAt w base m bs es ls cs gb ge gl gc) (hm : es.length = m.bk.e.l) : Ytpabpeppgpeaoaa.RdE w (jL (lent m.bk.e ge)) (es.map dE) := rdE_up (rd_E hm h.e)
theorem lm_rdL {w : World} {base : Nat} {m : Mg} {bs : List Int} {es : List En} {ls : List La} {cs : List Cm} {gb ge gl gc : Nat} (h : LmAt w base m bs es ls cs gb ge gl gc) (hm : ls.length = m.bk.l.l) : Ytpabpeppgpeaoaa.RdL w (jL (lent m.bk.l gl)) (ls.map dL) := rdL_up (rd_L hm h.l)
set_option maxRecDepth 100000 in
set_option maxHeartbeats 4000000 in
theorem step_any (w0 : World) (I J : Nat → Prop) (p r : Nat) (s : PS) (x : Rs) (a : Stp) (bs : List Int) (es : List En) (ls : List La) (cs : List Cm) (w : World) (hW : Wc w0 I J p r s x w) (hR : Rel (Bw w0) s x) (hM : MgAt w0 a.m bs es ls cs) (hn : a.m.st.n ≤ 9223372036854775807) (hz : x.zs.length ≤ 2000000) : Calls Try.prog 11 #[.pointer (some ⟨p, 0, none⟩), .pointer (some ⟨r, 0, none⟩), .agg (Stp.cells a)] w (StOut w0 I J p r s w) := by
  refine hideC fun C HC => ?_
  have HF : Hid (Wf w0 I J I J p r s x w w []) := Wf.start hW
  have HR : Hid (Rel (Bw w0) s x) := hR
  have HM : Hid (MgAt w0 a.m bs es ls cs) := hM
  clear hW hR hM
  go_enter Try.func11, Try.ntmps11
  go_upto_region 0 with fail
  refine WL.start ?_
  refine uR (pV w.heap.size 0) (w.alloc (.cells (Stp.cells a) 49)) (exec_box 49 _ rfl (Stp.cells a) (by kernel_rfl)) ?_
  try simp only [pS]
  have HF : Hid (Wf w0 I J I J p r s x w (w.alloc (.cells (Stp.cells a) 49)) [(w.heap.size, 49, Stp.cells a)]) := HF.out.alloc _ _
  generalize w.alloc (.cells (Stp.cells a) 49) = wk2 at HF ⊢
  generalize w.heap.size = gk1 at HF ⊢
  refine uK (.bool false) <| WL.nil <| ?_
  try simp only [pS]
  go_upto_region 1 with fail
  refine WL.start <| uK (pV gk1 0) <| uL 3 ⟨gk1, 0, none⟩ (.int .i64 a.k) (load_one ((HF.out.box 0 _ _ _ rfl).cell 0 |>.trans (by kernel_rfl)) U3 rfl) <| ?_
  try simp only [pS]
  refine uC 13 #[.int .i64 a.k, .int .i64 5] (rnd_any _ 5 _ (by decide) (by decide)) ?_
  rintro e wk3 ⟨k1, hk1, rfl, hwq⟩
  have HF : Hid (Wf w0 I J I J p r s x w (wk3) [(gk1, 49, Stp.cells a)]) := by rw [hwq]; exact HF
  clear hwq
  refine ⟨.int .i64 ((k1 : Nat) : Int), rfl, ?_⟩
  try simp only [pS]
  refine WL.nil ?_
  try simp only [pS]
  go_upto_region 2 with fail
  refine WL.start ?_
  cases q1 : (((k1 : Nat) : Int) == 0)
  ·skip
   refine uB .eql 3 (.int .i64 ((k1 : Nat) : Int)) (.int .i64 0) (.bool false) (by rw [b_eql, q1]; try rfl) <| uK (.bool false) <| WL.nil <| ?_
   try simp only [pS]
   go_upto_region 4 with fail
   refine WL.start ?_
   cases q2 : (((k1 : Nat) : Int) == 1)
   ·skip
    refine uB .eql 3 (.int .i64 ((k1 : Nat) : Int)) (.int .i64 1) (.bool false) (by rw [b_eql, q2]; try rfl) <| uK (.bool false) <| WL.nil <| ?_
    try simp only [pS]
    go_upto_region 6 with fail
    refine WL.start ?_
    cases q3 : (((k1 : Nat) : Int) == 4)
    ·skip
     refine uB .eql 3 (.int .i64 ((k1 : Nat) : Int)) (.int .i64 4) (.bool false) (by rw [b_eql, q3]; try rfl) <| uK (.bool false) <| WL.nil <| ?_
     try simp only [pS]
     go_upto_region 8 with fail
     refine WL.start <| uK (pV gk1 1) <| uL 47 ⟨gk1, 1, none⟩ (.agg (Mg.cells a.m)) (run_load_part (cs := Stp.cs a) (sub := Mg.cs a.m) (HF.out.box 0 _ _ _ rfl) (part_of (by kernel_rfl)) U47 rfl S47) <| ?_
     try simp only [pS]
     refine uR (pV wk3.heap.size 0) (wk3.alloc (.cells (Mg.cells mgZ) 47)) (exec_alloc 47 rfl (Mg.cells mgZ) Z47) ?_
     try simp only [pS]
     have HF : Hid (Wf w0 I J I J p r s x w (wk3.alloc (.cells (Mg.cells mgZ) 47)) [(gk1, 49, Stp.cells a), (wk3.heap.size, 47, Mg.cells mgZ)]) := HF.out.alloc _ _
     generalize wk3.alloc (.cells (Mg.cells mgZ) 47) = wk5 at HF ⊢
     generalize wk3.heap.size = gk4 at HF ⊢
     refine uT 47 ⟨gk4, 0, none⟩ (.agg (Mg.cells a.m)) (wk5.setRow gk4 (Mg.cells a.m)) (rs (Mg.cs mgZ) (Mg.cs a.m) (Mg.cs a.m) (HF.out.box 1 _ _ _ rfl) S47 (Mg.oneL _)) ?_
     try simp only [pS]
     have HF : Hid (Wf w0 I J I J p r s x w (wk5.setRow gk4 (Mg.cells a.m)) [(gk1, 49, Stp.cells a), (gk4, 47, Mg.cells a.m)]) := HF.out.set 1 rfl _
     generalize wk5.setRow gk4 (Mg.cells a.m) = wk6 at HF ⊢
     refine WL.nil ?_
     try simp only [pS]
     go_upto_region 9 with fail
     refine WL.start <| uK (pV gk1 0) <| uL 3 ⟨gk1, 0, none⟩ (.int .i64 a.k) (load_one ((HF.out.box 0 _ _ _ rfl).cell 0 |>.trans (by kernel_rfl)) U3 rfl) <| ?_
     try simp only [pS]
     refine uC 13 #[.int .i64 a.k, .int .i64 5] (rnd_any _ 5 _ (by decide) (by decide)) ?_
     rintro e wk7 ⟨k2, hk2, rfl, hwq⟩
     have HF : Hid (Wf w0 I J I J p r s x w (wk7) [(gk1, 49, Stp.cells a), (gk4, 47, Mg.cells a.m)]) := by rw [hwq]; exact HF
     clear hwq
     refine ⟨.int .i64 ((k2 : Nat) : Int), rfl, ?_⟩
     try simp only [pS]
     cases q4 : (((k2 : Nat) : Int) == 3)
     ·skip
      refine uB .eql 3 (.int .i64 ((k2 : Nat) : Int)) (.int .i64 3) (.bool false) (by rw [b_eql, q4]; try rfl) <| WL.nil <| ?_
      try simp only [pS]
      have HMm : Hid (MgAt w0 a.m bs es ls cs) := HM
      have HNm : Hid (x.ph = 1 ∨ x.ph = 2 → a.m.st.n ≤ 9223372036854775807) := show _ → _ from fun _ => hn
      obtain ⟨m, hm⟩ : ∃ m, m = a.m := ⟨_, rfl⟩
      rw [← hm] at HMm HNm
      have HF : Hid (Wf w0 I J I J p r s x w (wk7) [(gk1, 49, Stp.cells a), (gk4, 47, Mg.cells m)]) := by rw [hm]; exact HF
      clear hm
      go_upto_region 11 with fail
      refine WL.start <| uL 47 ⟨gk4, 0, none⟩ (.agg (Mg.cells m)) (run_load_part (cs := Mg.cs m) (sub := Mg.cs m) (HF.out.box 1 _ _ _ rfl) (Part.all _) U47 rfl S47) <| ?_
      try simp only [pS]
      refine uC 27 #[.agg (Mg.cells m)] (lendM_any m bs es ls cs _ (HMm.out.no HF.out.c.kp)) ?_
      rintro e wk8 ⟨gb, ge, gl, gc, rfl, hLm, hk⟩
      have HF : Hid (Wf w0 I J I J p r s x w (wk8) [(gk1, 49, Stp.cells a), (gk4, 47, Mg.cells m), (gb, 5, (u8L (tab (m.bl.l + 67) (lntB m.bl.l bs))).toArray), (ge, 124, (enL (tab (m.bk.e.l + 67) (lntE m.bk.e.l es))).toArray), (gl, 127, (laL (tab (m.bk.l.l + 67) (lntL m.bk.l.l ls))).toArray), (gc, 28, (cmL (tab (m.cm.l + 67) (lntC m.cm.l cs))).toArray)]) := HF.out.lend hk hLm
      clear hk hLm
      refine ⟨.agg (Mg.cells (lentM m gb ge gl gc)), rfl, ?_⟩
      try simp only [pS]
      refine uR (pV wk8.heap.size 0) (wk8.alloc (.cells (Mg.cells mgZ) 47)) (exec_alloc 47 rfl (Mg.cells mgZ) Z47) ?_
      try simp only [pS]
      have HF : Hid (Wf w0 I J I J p r s x w (wk8.alloc (.cells (Mg.cells mgZ) 47)) [(gk1, 49, Stp.cells a), (gk4, 47, Mg.cells m), (gb, 5, (u8L (tab (m.bl.l + 67) (lntB m.bl.l bs))).toArray), (ge, 124, (enL (tab (m.bk.e.l + 67) (lntE m.bk.e.l es))).toArray), (gl, 127, (laL (tab (m.bk.l.l + 67) (lntL m.bk.l.l ls))).toArray), (gc, 28, (cmL (tab (m.cm.l + 67) (lntC m.cm.l cs))).toArray), (wk8.heap.size, 47, Mg.cells mgZ)]) := HF.out.alloc _ _
      generalize wk8.alloc (.cells (Mg.cells mgZ) 47) = wk10 at HF ⊢
      generalize wk8.heap.size = gk9 at HF ⊢
      refine uT 47 ⟨gk9, 0, none⟩ (.agg (Mg.cells (lentM m gb ge gl gc))) (wk10.setRow gk9 (Mg.cells (lentM m gb ge gl gc))) (rs (Mg.cs mgZ) (Mg.cs (lentM m gb ge gl gc)) (Mg.cs (lentM m gb ge gl gc)) (HF.out.box 6 _ _ _ rfl) S47 (Mg.oneL _)) ?_
      try simp only [pS]
      have HF : Hid (Wf w0 I J I J p r s x w (wk10.setRow gk9 (Mg.cells (lentM m gb ge gl gc))) [(gk1, 49, Stp.cells a), (gk4, 47, Mg.cells m), (gb, 5, (u8L (tab (m.bl.l + 67) (lntB m.bl.l bs))).toArray), (ge, 124, (enL (tab (m.bk.e.l + 67) (lntE m.bk.e.l es))).toArray), (gl, 127, (laL (tab (m.bk.l.l + 67) (lntL m.bk.l.l ls))).toArray), (gc, 28, (cmL (tab (m.cm.l + 67) (lntC m.cm.l cs))).toArray), (gk9, 47, Mg.cells (lentM m gb ge gl gc))]) := HF.out.set 6 rfl _
      generalize wk10.setRow gk9 (Mg.cells (lentM m gb ge gl gc)) = wk11 at HF ⊢
      refine WL.nil ?_
      try simp only [pS]
      go_upto_region 12 with fail
      refine WL.start <| uK (pV p 0) <| uL 47 ⟨gk9, 0, none⟩ (.agg (Mg.cells (lentM m gb ge gl gc))) (run_load_part (cs := Mg.cs (lentM m gb ge gl gc)) (sub := Mg.cs (lentM m gb ge gl gc)) (HF.out.box 6 _ _ _ rfl) (Part.all _) U47 rfl S47) <| ?_
      try simp only [pS]
      refine uC 28 #[pV p 0, .agg (Mg.cells (lentM m gb ge gl gc))] (take_P HF.out.c.a (uM (lentM m gb ge gl gc)) (es.map dE) (ls.map dL) (by show m.bk.e.l * 40 ≤ 140737488355328; have := HMm.out.ne; omega) (by show m.bk.l.l * 56 ≤ 140737488355328; have := HMm.out.nl; omega) (lm_rdE (⟨HF.out.box 2 _ _ _ rfl, HF.out.box 3 _ _ _ rfl, HF.out.box 4 _ _ _ rfl, HF.out.box 5 _ _ _ rfl, Nat.zero_le _, Nat.zero_le _, Nat.zero_le _, Nat.zero_le _⟩ : LmAt _ 0 m bs es ls cs gb ge gl gc) HMm.out.e.len) (lm_rdL (⟨HF.out.box 2 _ _ _ rfl, HF.out.box 3 _ _ _ rfl, HF.out.box 4 _ _ _ rfl, HF.out.box 5 _ _ _ rfl, Nat.zero_le _, Nat.zero_le _, Nat.zero_le _, Nat.zero_le _⟩ : LmAt _ 0 m bs es ls cs gb ge gl gc) HMm.out.l.len)) ?_
      rintro e wk12 ho
      obtain ⟨la, lc, I1, J1, s1, l1, hs1, hl1, rfl, hT, hF⟩ := HF.out.prog' (a := taksS s (uM m) (es.map dE) (ls.map dL)) ho
      have HF : Hid (Wf w0 I J I1 J1 p r s1 x w (wk12) [(gk1, 49, Stp.cells a), (gk4, 47, Mg.cells m), (gb, 5, (u8L (tab (m.bl.l + 67) (lntB m.bl.l bs))).toArray), (ge, 124, (enL (tab (m.bk.e.l + 67) (lntE m.bk.e.l es))).toArray), (gl, 127, (laL (tab (m.bk.l.l + 67) (lntL m.bk.l.l ls))).toArray), (gc, 28, (cmL (tab (m.cm.l + 67) (lntC m.cm.l cs))).toArray), (gk9, 47, Mg.cells (lentM m gb ge gl gc))]) := hF
      have HT : Hid (Told wk12 0 la lc l1) := hT
      have HS1 : Hid (s1 = (taksS s (uM m) (es.map dE) (ls.map dL)).1) := hs1
      have HL1 : Hid (l1 = (taksS s (uM m) (es.map dE) (ls.map dL)).2) := hl1
      clear ho hT hF hs1 hl1
      refine ⟨.slice la l1.length lc, rfl, ?_⟩
      try simp only [pS]
      refine uK (.slice la l1.length lc) <| WL.nil <| ?_
      try simp only [pS]
      go_upto_region 13 with fail
      refine WL.start <| uK (.slice la l1.length lc) <| uK (pV r 0) <| uL 47 ⟨gk4, 0, none⟩ (.agg (Mg.cells m)) (run_load_part (cs := Mg.cs m) (sub := Mg.cs m) (HF.out.box 1 _ _ _ rfl) (Part.all _) U47 rfl S47) <| ?_
      try simp only [pS]
      refine uC 40 #[pV r 0, .agg (Mg.cells m)] (take_at HF.out.c.b m) ?_
      rintro e wk13 ho
      obtain ⟨t2, I2, J2, rfl, hF, hRel, hSm⟩ := HF.out.ref' (b := takeR x m) (a := taksS s (uM m) (es.map dE) (ls.map dL)) (s0 := s) ho HT.out HS1.out HL1.out (rel_take HR.out m (es.map dE) (ls.map dL) (bw_of HMm.out) HNm.out) (plain_take x m) (Nat.le_trans (len_take x m) (by omega))
      obtain ⟨x2, hx2⟩ : ∃ x2, x2 = (takeR x m).1 := ⟨_, rfl⟩
      rw [← hx2] at hF hRel
      have HF : Hid (Wf w0 I J I2 J2 p r s1 x2 w (wk13) [(gk1, 49, Stp.cells a), (gk4, 47, Mg.cells m), (gb, 5, (u8L (tab (m.bl.l + 67) (lntB m.bl.l bs))).toArray), (ge, 124, (enL (tab (m.bk.e.l + 67) (lntE m.bk.e.l es))).toArray), (gl, 127, (laL (tab (m.bk.l.l + 67) (lntL m.bk.l.l ls))).toArray), (gc, 28, (cmL (tab (m.cm.l + 67) (lntC m.cm.l cs))).toArray), (gk9, 47, Mg.cells (lentM m gb ge gl gc))]) := hF
      have HR2 : Hid (Rel (Bw w0) s1 x2) := hRel
      have HSm : Hid (∀ W2, Kept No wk13 W2 → Calls Try.prog 26 #[.slice la l1.length lc, t2.v] W2 (fun e w' => e = .returned (.bool true) ∧ Kept No W2 w')) := hSm
      clear ho hF hRel hSm hx2
      refine ⟨t2.v, rfl, ?_⟩
      try simp only [pS]
      refine uC 26 #[.slice la l1.length lc, t2.v] (HSm.out _ (Kept.refl No _)) ?_
      rintro e wk14 ⟨rfl, hk⟩
      have HF : Hid (Wf w0 I J I2 J2 p r s1 x2 w (wk14) [(gk1, 49, Stp.cells a), (gk4, 47, Mg.cells m), (gb, 5, (u8L (tab (m.bl.l + 67) (lntB m.bl.l bs))).toArray), (ge, 124, (enL (tab (m.bk.e.l + 67) (lntE m.bk.e.l es))).toArray), (gl, 127, (laL (tab (m.bk.l.l + 67) (lntL m.bk.l.l ls))).toArray), (gc, 28, (cmL (tab (m.cm.l + 67) (lntC m.cm.l cs))).toArray), (gk9, 47, Mg.cells (lentM m gb ge gl gc))]) := HF.out.no hk
      clear hk
      refine ⟨.bool true, rfl, ?_⟩
      try simp only [pS]
      refine uK (.bool false) <| uK (.bool false) <| uL 47 ⟨gk9, 0, none⟩ (.agg (Mg.cells (lentM m gb ge gl gc))) (run_load_part (cs := Mg.cs (lentM m gb ge gl gc)) (sub := Mg.cs (lentM m gb ge gl gc)) (HF.out.box 6 _ _ _ rfl) (Part.all _) U47 rfl S47) <| uL 47 ⟨gk4, 0, none⟩ (.agg (Mg.cells m)) (run_load_part (cs := Mg.cs m) (sub := Mg.cs m) (HF.out.box 1 _ _ _ rfl) (Part.all _) U47 rfl S47) <| ?_
      try simp only [pS]
      refine uC 41 #[.agg (Mg.cells (lentM m gb ge gl gc)), .agg (Mg.cells m)] (backM_any m gb ge gl gc 0 bs es ls cs _ (HMm.out.no HF.out.c.kp) (⟨HF.out.box 2 _ _ _ rfl, HF.out.box 3 _ _ _ rfl, HF.out.box 4 _ _ _ rfl, HF.out.box 5 _ _ _ rfl, Nat.zero_le _, Nat.zero_le _, Nat.zero_le _, Nat.zero_le _⟩ : LmAt _ 0 m bs es ls cs gb ge gl gc)) ?_
      rintro e wk15 ⟨rfl, hk⟩
      have HF : Hid (Wf w0 I J I2 J2 p r s1 x2 w (wk15) [(gk1, 49, Stp.cells a), (gk4, 47, Mg.cells m), (gb, 5, (u8L (tab (m.bl.l + 67) (lntB m.bl.l bs))).toArray), (ge, 124, (enL (tab (m.bk.e.l + 67) (lntE m.bk.e.l es))).toArray), (gl, 127, (laL (tab (m.bk.l.l + 67) (lntL m.bk.l.l ls))).toArray), (gc, 28, (cmL (tab (m.cm.l + 67) (lntC m.cm.l cs))).toArray), (gk9, 47, Mg.cells (lentM m gb ge gl gc))]) := HF.out.no hk
      clear hk
      refine ⟨.bool true, rfl, ?_⟩
      try simp only [pS]
      refine uK (.bool false) <| uK (.bool false) <| WL.nil <| ?_
      try simp only [pS]
      go_upto_region 15 with fail
      refine WL.start <| uL 47 ⟨gk9, 0, none⟩ (.agg (Mg.cells (lentM m gb ge gl gc))) (run_load_part (cs := Mg.cs (lentM m gb ge gl gc)) (sub := Mg.cs (lentM m gb ge gl gc)) (HF.out.box 6 _ _ _ rfl) (Part.all _) U47 rfl S47) <| ?_
      try simp only [pS]
      refine uC 29 #[.agg (Mg.cells (lentM m gb ge gl gc))] (spoil_any m gb ge gl gc 0 bs es ls cs _ (⟨HF.out.box 2 _ _ _ rfl, HF.out.box 3 _ _ _ rfl, HF.out.box 4 _ _ _ rfl, HF.out.box 5 _ _ _ rfl, Nat.zero_le _, Nat.zero_le _, Nat.zero_le _, Nat.zero_le _⟩ : LmAt _ 0 m bs es ls cs gb ge gl gc) HMm.out.nb HMm.out.ne HMm.out.nl HMm.out.nc) ?_
      rintro e wk16 ⟨rfl, hk⟩
      have hF := HF.out.spoil hk (fun k e => by
        rcases e with rfl | rfl | rfl | rfl
        · exact ⟨_, List.mem_of_getElem? (i := 2) rfl, rfl⟩
        · exact ⟨_, List.mem_of_getElem? (i := 3) rfl, rfl⟩
        · exact ⟨_, List.mem_of_getElem? (i := 4) rfl, rfl⟩
        · exact ⟨_, List.mem_of_getElem? (i := 5) rfl, rfl⟩)
      have HF : Hid (Wf w0 I J I2 J2 p r s1 x2 w (wk16) []) := hF
      clear hk hF
      refine ⟨.tuple #[], rfl, ?_⟩
      try simp only [pS]
      refine WL.nil ?_
      try simp only [pS]
      go_upto_region 16 with fail
      refine WL.start <| uK (.bool true) <| WL.nil <| ?_
      try simp only [pS]
      go_wp2
      rw [HC.out]
      exact HF.out.out HR2.out (by rw [HS1.out]; exact zs_take s _ _ _)
     ·skip
      refine uB .eql 3 (.int .i64 ((k2 : Nat) : Int)) (.int .i64 3) (.bool true) (by rw [b_eql, q4]; try rfl) <| WL.nil <| ?_
      try simp only [pS]
      go_upto_region 10 with fail
      refine WL.start <| uL 47 ⟨gk4, 0, none⟩ (.agg (Mg.cells a.m)) (run_load_part (cs := Mg.cs a.m) (sub := Mg.cs a.m) (HF.out.box 1 _ _ _ rfl) (Part.all _) U47 rfl S47) <| uK (pV r 0) <| ?_
      try simp only [pS]
      refine uC 39 #[.agg (Mg.cells a.m), pV r 0] (fit_at HF.out.c.b a.m hz) ?_
      rintro e wk17 ⟨m2, rfl, e1, e2, e3, e4, hk⟩
      have HM2 : Hid (MgAt w0 m2 bs es ls cs) := HM.out.of e1 e2 e3
      have HN2 : Hid (x.ph = 1 ∨ x.ph = 2 → m2.st.n ≤ 9223372036854775807) := show x.ph = 1 ∨ x.ph = 2 → m2.st.n ≤ 9223372036854775807 from fun hp => by
        rcases e4 with e | e
        · rw [e]; exact hn
        · rw [e]; exact n_bound HR.out hp
      have HF : Hid (Wf w0 I J I J p r s x w (wk17) [(gk1, 49, Stp.cells a), (gk4, 47, Mg.cells a.m)]) := HF.out.no hk
      clear hk e1 e2 e3 e4
      refine ⟨.agg (Mg.cells m2), rfl, ?_⟩
      try simp only [pS]
      refine uT 47 ⟨gk4, 0, none⟩ (.agg (Mg.cells m2)) (wk17.setRow gk4 (Mg.cells m2)) (rs (Mg.cs a.m) (Mg.cs m2) (Mg.cs m2) (HF.out.box 1 _ _ _ rfl) S47 (Mg.oneL _)) ?_
      try simp only [pS]
      have HF : Hid (Wf w0 I J I J p r s x w (wk17.setRow gk4 (Mg.cells m2)) [(gk1, 49, Stp.cells a), (gk4, 47, Mg.cells m2)]) := HF.out.set 1 rfl _
      generalize wk17.setRow gk4 (Mg.cells m2) = wk18 at HF ⊢
      refine WL.nil ?_
      try simp only [pS]
      have HMm : Hid (MgAt w0 m2 bs es ls cs) := HM2
      have HNm : Hid (x.ph = 1 ∨ x.ph = 2 → m2.st.n ≤ 9223372036854775807) := HN2
      obtain ⟨m, hm⟩ : ∃ m, m = m2 := ⟨_, rfl⟩
      rw [← hm] at HMm HNm
      have HF : Hid (Wf w0 I J I J p r s x w (wk18) [(gk1, 49, Stp.cells a), (gk4, 47, Mg.cells m)]) := by rw [hm]; exact HF
      clear hm
      go_upto_region 11 with fail
      refine WL.start <| uL 47 ⟨gk4, 0, none⟩ (.agg (Mg.cells m)) (run_load_part (cs := Mg.cs m) (sub := Mg.cs m) (HF.out.box 1 _ _ _ rfl) (Part.all _) U47 rfl S47) <| ?_
      try simp only [pS]
      refine uC 27 #[.agg (Mg.cells m)] (lendM_any m bs es ls cs _ (HMm.out.no HF.out.c.kp)) ?_
      rintro e wk19 ⟨gb, ge, gl, gc, rfl, hLm, hk⟩
      have HF : Hid (Wf w0 I J I J p r s x w (wk19) [(gk1, 49, Stp.cells a), (gk4, 47, Mg.cells m), (gb, 5, (u8L (tab (m.bl.l + 67) (lntB m.bl.l bs))).toArray), (ge, 124, (enL (tab (m.bk.e.l + 67) (lntE m.bk.e.l es))).toArray), (gl, 127, (laL (tab (m.bk.l.l + 67) (lntL m.bk.l.l ls))).toArray), (gc, 28, (cmL (tab (m.cm.l + 67) (lntC m.cm.l cs))).toArray)]) := HF.out.lend hk hLm
      clear hk hLm
      refine ⟨.agg (Mg.cells (lentM m gb ge gl gc)), rfl, ?_⟩
      try simp only [pS]
      refine uR (pV wk19.heap.size 0) (wk19.alloc (.cells (Mg.cells mgZ) 47)) (exec_alloc 47 rfl (Mg.cells mgZ) Z47) ?_
      try simp only [pS]
      have HF : Hid (Wf w0 I J I J p r s x w (wk19.alloc (.cells (Mg.cells mgZ) 47)) [(gk1, 49, Stp.cells a), (gk4, 47, Mg.cells m), (gb, 5, (u8L (tab (m.bl.l + 67) (lntB m.bl.l bs))).toArray), (ge, 124, (enL (tab (m.bk.e.l + 67) (lntE m.bk.e.l es))).toArray), (gl, 127, (laL (tab (m.bk.l.l + 67) (lntL m.bk.l.l ls))).toArray), (gc, 28, (cmL (tab (m.cm.l + 67) (lntC m.cm.l cs))).toArray), (wk19.heap.size, 47, Mg.cells mgZ)]) := HF.out.alloc _ _
      generalize wk19.alloc (.cells (Mg.cells mgZ) 47) = wk21 at HF ⊢
      generalize wk19.heap.size = gk20 at HF ⊢
      refine uT 47 ⟨gk20, 0, none⟩ (.agg (Mg.cells (lentM m gb ge gl gc))) (wk21.setRow gk20 (Mg.cells (lentM m gb ge gl gc))) (rs (Mg.cs mgZ) (Mg.cs (lentM m gb ge gl gc)) (Mg.cs (lentM m gb ge gl gc)) (HF.out.box 6 _ _ _ rfl) S47 (Mg.oneL _)) ?_
      try simp only [pS]
      have HF : Hid (Wf w0 I J I J p r s x w (wk21.setRow gk20 (Mg.cells (lentM m gb ge gl gc))) [(gk1, 49, Stp.cells a), (gk4, 47, Mg.cells m), (gb, 5, (u8L (tab (m.bl.l + 67) (lntB m.bl.l bs))).toArray), (ge, 124, (enL (tab (m.bk.e.l + 67) (lntE m.bk.e.l es))).toArray), (gl, 127, (laL (tab (m.bk.l.l + 67) (lntL m.bk.l.l ls))).toArray), (gc, 28, (cmL (tab (m.cm.l + 67) (lntC m.cm.l cs))).toArray), (gk20, 47, Mg.cells (lentM m gb ge gl gc))]) := HF.out.set 6 rfl _
      generalize wk21.setRow gk20 (Mg.cells (lentM m gb ge gl gc)) = wk22 at HF ⊢
      refine WL.nil ?_
      try simp only [pS]
      go_upto_region 12 with fail
      refine WL.start <| uK (pV p 0) <| uL 47 ⟨gk20, 0, none⟩ (.agg (Mg.cells (lentM m gb ge gl gc))) (run_load_part (cs := Mg.cs (lentM m gb ge gl gc)) (sub := Mg.cs (lentM m gb ge gl gc)) (HF.out.box 6 _ _ _ rfl) (Part.all _) U47 rfl S47) <| ?_
      try simp only [pS]
      refine uC 28 #[pV p 0, .agg (Mg.cells (lentM m gb ge gl gc))] (take_P HF.out.c.a (uM (lentM m gb ge gl gc)) (es.map dE) (ls.map dL) (by show m.bk.e.l * 40 ≤ 140737488355328; have := HMm.out.ne; omega) (by show m.bk.l.l * 56 ≤ 140737488355328; have := HMm.out.nl; omega) (lm_rdE (⟨HF.out.box 2 _ _ _ rfl, HF.out.box 3 _ _ _ rfl, HF.out.box 4 _ _ _ rfl, HF.out.box 5 _ _ _ rfl, Nat.zero_le _, Nat.zero_le _, Nat.zero_le _, Nat.zero_le _⟩ : LmAt _ 0 m bs es ls cs gb ge gl gc) HMm.out.e.len) (lm_rdL (⟨HF.out.box 2 _ _ _ rfl, HF.out.box 3 _ _ _ rfl, HF.out.box 4 _ _ _ rfl, HF.out.box 5 _ _ _ rfl, Nat.zero_le _, Nat.zero_le _, Nat.zero_le _, Nat.zero_le _⟩ : LmAt _ 0 m bs es ls cs gb ge gl gc) HMm.out.l.len)) ?_
      rintro e wk23 ho
      obtain ⟨la, lc, I1, J1, s1, l1, hs1, hl1, rfl, hT, hF⟩ := HF.out.prog' (a := taksS s (uM m) (es.map dE) (ls.map dL)) ho
      have HF : Hid (Wf w0 I J I1 J1 p r s1 x w (wk23) [(gk1, 49, Stp.cells a), (gk4, 47, Mg.cells m), (gb, 5, (u8L (tab (m.bl.l + 67) (lntB m.bl.l bs))).toArray), (ge, 124, (enL (tab (m.bk.e.l + 67) (lntE m.bk.e.l es))).toArray), (gl, 127, (laL (tab (m.bk.l.l + 67) (lntL m.bk.l.l ls))).toArray), (gc, 28, (cmL (tab (m.cm.l + 67) (lntC m.cm.l cs))).toArray), (gk20, 47, Mg.cells (lentM m gb ge gl gc))]) := hF
      have HT : Hid (Told wk23 0 la lc l1) := hT
      have HS1 : Hid (s1 = (taksS s (uM m) (es.map dE) (ls.map dL)).1) := hs1
      have HL1 : Hid (l1 = (taksS s (uM m) (es.map dE) (ls.map dL)).2) := hl1
      clear ho hT hF hs1 hl1
      refine ⟨.slice la l1.length lc, rfl, ?_⟩
      try simp only [pS]
      refine uK (.slice la l1.length lc) <| WL.nil <| ?_
      try simp only [pS]
      go_upto_region 13 with fail
      refine WL.start <| uK (.slice la l1.length lc) <| uK (pV r 0) <| uL 47 ⟨gk4, 0, none⟩ (.agg (Mg.cells m)) (run_load_part (cs := Mg.cs m) (sub := Mg.cs m) (HF.out.box 1 _ _ _ rfl) (Part.all _) U47 rfl S47) <| ?_
      try simp only [pS]
      refine uC 40 #[pV r 0, .agg (Mg.cells m)] (take_at HF.out.c.b m) ?_
      rintro e wk24 ho
      obtain ⟨t2, I2, J2, rfl, hF, hRel, hSm⟩ := HF.out.ref' (b := takeR x m) (a := taksS s (uM m) (es.map dE) (ls.map dL)) (s0 := s) ho HT.out HS1.out HL1.out (rel_take HR.out m (es.map dE) (ls.map dL) (bw_of HMm.out) HNm.out) (plain_take x m) (Nat.le_trans (len_take x m) (by omega))
      obtain ⟨x2, hx2⟩ : ∃ x2, x2 = (takeR x m).1 := ⟨_, rfl⟩
      rw [← hx2] at hF hRel
      have HF : Hid (Wf w0 I J I2 J2 p r s1 x2 w (wk24) [(gk1, 49, Stp.cells a), (gk4, 47, Mg.cells m), (gb, 5, (u8L (tab (m.bl.l + 67) (lntB m.bl.l bs))).toArray), (ge, 124, (enL (tab (m.bk.e.l + 67) (lntE m.bk.e.l es))).toArray), (gl, 127, (laL (tab (m.bk.l.l + 67) (lntL m.bk.l.l ls))).toArray), (gc, 28, (cmL (tab (m.cm.l + 67) (lntC m.cm.l cs))).toArray), (gk20, 47, Mg.cells (lentM m gb ge gl gc))]) := hF
      have HR2 : Hid (Rel (Bw w0) s1 x2) := hRel
      have HSm : Hid (∀ W2, Kept No wk24 W2 → Calls Try.prog 26 #[.slice la l1.length lc, t2.v] W2 (fun e w' => e = .returned (.bool true) ∧ Kept No W2 w')) := hSm
      clear ho hF hRel hSm hx2
      refine ⟨t2.v, rfl, ?_⟩
      try simp only [pS]
      refine uC 26 #[.slice la l1.length lc, t2.v] (HSm.out _ (Kept.refl No _)) ?_
      rintro e wk25 ⟨rfl, hk⟩
      have HF : Hid (Wf w0 I J I2 J2 p r s1 x2 w (wk25) [(gk1, 49, Stp.cells a), (gk4, 47, Mg.cells m), (gb, 5, (u8L (tab (m.bl.l + 67) (lntB m.bl.l bs))).toArray), (ge, 124, (enL (tab (m.bk.e.l + 67) (lntE m.bk.e.l es))).toArray), (gl, 127, (laL (tab (m.bk.l.l + 67) (lntL m.bk.l.l ls))).toArray), (gc, 28, (cmL (tab (m.cm.l + 67) (lntC m.cm.l cs))).toArray), (gk20, 47, Mg.cells (lentM m gb ge gl gc))]) := HF.out.no hk
      clear hk
      refine ⟨.bool true, rfl, ?_⟩
      try simp only [pS]
      refine uK (.bool false) <| uK (.bool false) <| uL 47 ⟨gk20, 0, none⟩ (.agg (Mg.cells (lentM m gb ge gl gc))) (run_load_part (cs := Mg.cs (lentM m gb ge gl gc)) (sub := Mg.cs (lentM m gb ge gl gc)) (HF.out.box 6 _ _ _ rfl) (Part.all _) U47 rfl S47) <| uL 47 ⟨gk4, 0, none⟩ (.agg (Mg.cells m)) (run_load_part (cs := Mg.cs m) (sub := Mg.cs m) (HF.out.box 1 _ _ _ rfl) (Part.all _) U47 rfl S47) <| ?_
      try simp only [pS]
      refine uC 41 #[.agg (Mg.cells (lentM m gb ge gl gc)), .agg (Mg.cells m)] (backM_any m gb ge gl gc 0 bs es ls cs _ (HMm.out.no HF.out.c.kp) (⟨HF.out.box 2 _ _ _ rfl, HF.out.box 3 _ _ _ rfl, HF.out.box 4 _ _ _ rfl, HF.out.box 5 _ _ _ rfl, Nat.zero_le _, Nat.zero_le _, Nat.zero_le _, Nat.zero_le _⟩ : LmAt _ 0 m bs es ls cs gb ge gl gc)) ?_
      rintro e wk26 ⟨rfl, hk⟩
      have HF : Hid (Wf w0 I J I2 J2 p r s1 x2 w (wk26) [(gk1, 49, Stp.cells a), (gk4, 47, Mg.cells m), (gb, 5, (u8L (tab (m.bl.l + 67) (lntB m.bl.l bs))).toArray), (ge, 124, (enL (tab (m.bk.e.l + 67) (lntE m.bk.e.l es))).toArray), (gl, 127, (laL (tab (m.bk.l.l + 67) (lntL m.bk.l.l ls))).toArray), (gc, 28, (cmL (tab (m.cm.l + 67) (lntC m.cm.l cs))).toArray), (gk20, 47, Mg.cells (lentM m gb ge gl gc))]) := HF.out.no hk
      clear hk
      refine ⟨.bool true, rfl, ?_⟩
      try simp only [pS]
      refine uK (.bool false) <| uK (.bool false) <| WL.nil <| ?_
      try simp only [pS]
      go_upto_region 15 with fail
      refine WL.start <| uL 47 ⟨gk20, 0, none⟩ (.agg (Mg.cells (lentM m gb ge gl gc))) (run_load_part (cs := Mg.cs (lentM m gb ge gl gc)) (sub := Mg.cs (lentM m gb ge gl gc)) (HF.out.box 6 _ _ _ rfl) (Part.all _) U47 rfl S47) <| ?_
      try simp only [pS]
      refine uC 29 #[.agg (Mg.cells (lentM m gb ge gl gc))] (spoil_any m gb ge gl gc 0 bs es ls cs _ (⟨HF.out.box 2 _ _ _ rfl, HF.out.box 3 _ _ _ rfl, HF.out.box 4 _ _ _ rfl, HF.out.box 5 _ _ _ rfl, Nat.zero_le _, Nat.zero_le _, Nat.zero_le _, Nat.zero_le _⟩ : LmAt _ 0 m bs es ls cs gb ge gl gc) HMm.out.nb HMm.out.ne HMm.out.nl HMm.out.nc) ?_
      rintro e wk27 ⟨rfl, hk⟩
      have hF := HF.out.spoil hk (fun k e => by
        rcases e with rfl | rfl | rfl | rfl
        · exact ⟨_, List.mem_of_getElem? (i := 2) rfl, rfl⟩
        · exact ⟨_, List.mem_of_getElem? (i := 3) rfl, rfl⟩
        · exact ⟨_, List.mem_of_getElem? (i := 4) rfl, rfl⟩
        · exact ⟨_, List.mem_of_getElem? (i := 5) rfl, rfl⟩)
      have HF : Hid (Wf w0 I J I2 J2 p r s1 x2 w (wk27) []) := hF
      clear hk hF
      refine ⟨.tuple #[], rfl, ?_⟩
      try simp only [pS]
      refine WL.nil ?_
      try simp only [pS]
      go_upto_region 16 with fail
      refine WL.start <| uK (.bool true) <| WL.nil <| ?_
      try simp only [pS]
      go_wp2
      rw [HC.out]
      exact HF.out.out HR2.out (by rw [HS1.out]; exact zs_take s _ _ _)
    ·skip
     refine uB .eql 3 (.int .i64 ((k1 : Nat) : Int)) (.int .i64 4) (.bool true) (by rw [b_eql, q3]; try rfl) <| uK (.bool true) <| WL.nil <| ?_
     try simp only [pS]
     go_upto_region 7 with fail
     refine WL.start <| uK (pV p 0) <| uK (pV r 0) <| ?_
     try simp only [pS]
     refine uC 12 #[pV p 0, pV r 0] (shows_any w0 I J p r s x _ HF.out.c (rel_show HR.out)) ?_
     rintro e wk28 ⟨rfl, hk⟩
     have HF : Hid (Wf w0 I J I J p r s x w (wk28) [(gk1, 49, Stp.cells a)]) := HF.out.no hk
     clear hk
     refine ⟨.bool true, rfl, ?_⟩
     try simp only [pS]
     refine uK (.bool true) <| WL.nil <| ?_
     try simp only [pS]
     go_wp2
     rw [HC.out]
     exact HF.out.out HR.out rfl
   ·skip
    refine uB .eql 3 (.int .i64 ((k1 : Nat) : Int)) (.int .i64 1) (.bool true) (by rw [b_eql, q2]; try rfl) <| uK (.bool true) <| WL.nil <| ?_
    try simp only [pS]
    go_upto_region 5 with fail
    refine WL.start <| uK (pV p 0) <| ?_
    try simp only [pS]
    refine uC 25 #[pV p 0] (tick_P HF.out.c.a) ?_
    rintro e wk29 ho
    obtain ⟨la, lc, I1, J1, s1, l1, hs1, hl1, rfl, hT, hF⟩ := HF.out.prog' (a := tickS s) ho
    have HF : Hid (Wf w0 I J I1 J1 p r s1 x w (wk29) [(gk1, 49, Stp.cells a)]) := hF
    have HT : Hid (Told wk29 0 la lc l1) := hT
    have HS1 : Hid (s1 = (tickS s).1) := hs1
    have HL1 : Hid (l1 = (tickS s).2) := hl1
    clear ho hT hF hs1 hl1
    refine ⟨.slice la l1.length lc, rfl, ?_⟩
    try simp only [pS]
    refine uK (pV r 0) ?_
    try simp only [pS]
    refine uC 38 #[pV r 0] (tick_at HF.out.c.b) ?_
    rintro e wk30 ho
    obtain ⟨t2, I2, J2, rfl, hF, hRel, hSm⟩ := HF.out.ref' (b := tickR x) (a := tickS s) (s0 := s) ho HT.out HS1.out HL1.out (rel_tick HR.out) (plain_tick x) (Nat.le_trans (len_tick x) (by omega))
    obtain ⟨x2, hx2⟩ : ∃ x2, x2 = (tickR x).1 := ⟨_, rfl⟩
    rw [← hx2] at hF hRel
    have HF : Hid (Wf w0 I J I2 J2 p r s1 x2 w (wk30) [(gk1, 49, Stp.cells a)]) := hF
    have HR2 : Hid (Rel (Bw w0) s1 x2) := hRel
    have HSm : Hid (∀ W2, Kept No wk30 W2 → Calls Try.prog 26 #[.slice la l1.length lc, t2.v] W2 (fun e w' => e = .returned (.bool true) ∧ Kept No W2 w')) := hSm
    clear ho hF hRel hSm hx2
    refine ⟨t2.v, rfl, ?_⟩
    try simp only [pS]
    refine uC 26 #[.slice la l1.length lc, t2.v] (HSm.out _ (Kept.refl No _)) ?_
    rintro e wk31 ⟨rfl, hk⟩
    have HF : Hid (Wf w0 I J I2 J2 p r s1 x2 w (wk31) [(gk1, 49, Stp.cells a)]) := HF.out.no hk
    clear hk
    refine ⟨.bool true, rfl, ?_⟩
    try simp only [pS]
    refine uK (.bool true) <| WL.nil <| ?_
    try simp only [pS]
    go_wp2
    rw [HC.out]
    exact HF.out.out HR2.out (by rw [HS1.out]; exact zs_tick s)
  ·skip
   refine uB .eql 3 (.int .i64 ((k1 : Nat) : Int)) (.int .i64 0) (.bool true) (by rw [b_eql, q1]; try rfl) <| uK (.bool true) <| WL.nil <| ?_
   try simp only [pS]
   go_upto_region 3 with fail
   refine WL.start <| uK (pV p 0) <| ?_
   try simp only [pS]
   refine uC 18 #[pV p 0] (begin_P HF.out.c.a) ?_
   rintro e wk32 ho
   obtain ⟨la, lc, I1, J1, s1, l1, hs1, hl1, rfl, hT, hF⟩ := HF.out.prog' (a := begS s) ho
   have HF : Hid (Wf w0 I J I1 J1 p r s1 x w (wk32) [(gk1, 49, Stp.cells a)]) := hF
   have HT : Hid (Told wk32 0 la lc l1) := hT
   have HS1 : Hid (s1 = (begS s).1) := hs1
   have HL1 : Hid (l1 = (begS s).2) := hl1
   clear ho hT hF hs1 hl1
   refine ⟨.slice la l1.length lc, rfl, ?_⟩
   try simp only [pS]
   refine uK (pV r 0) ?_
   try simp only [pS]
   refine uC 37 #[pV r 0] (begin_at HF.out.c.b) ?_
   rintro e wk33 ho
   obtain ⟨t2, I2, J2, rfl, hF, hRel, hSm⟩ := HF.out.ref' (b := begR x) (a := begS s) (s0 := s) ho HT.out HS1.out HL1.out (rel_begin HR.out) (plain_beg x) (Nat.le_trans (len_beg x) (by omega))
   obtain ⟨x2, hx2⟩ : ∃ x2, x2 = (begR x).1 := ⟨_, rfl⟩
   rw [← hx2] at hF hRel
   have HF : Hid (Wf w0 I J I2 J2 p r s1 x2 w (wk33) [(gk1, 49, Stp.cells a)]) := hF
   have HR2 : Hid (Rel (Bw w0) s1 x2) := hRel
   have HSm : Hid (∀ W2, Kept No wk33 W2 → Calls Try.prog 26 #[.slice la l1.length lc, t2.v] W2 (fun e w' => e = .returned (.bool true) ∧ Kept No W2 w')) := hSm
   clear ho hF hRel hSm hx2
   refine ⟨t2.v, rfl, ?_⟩
   try simp only [pS]
   refine uC 26 #[.slice la l1.length lc, t2.v] (HSm.out _ (Kept.refl No _)) ?_
   rintro e wk34 ⟨rfl, hk⟩
   have HF : Hid (Wf w0 I J I2 J2 p r s1 x2 w (wk34) [(gk1, 49, Stp.cells a)]) := HF.out.no hk
   clear hk
   refine ⟨.bool true, rfl, ?_⟩
   try simp only [pS]
   refine uK (.bool true) <| WL.nil <| ?_
   try simp only [pS]
   go_wp2
   rw [HC.out]
   exact HF.out.out HR2.out (by rw [HS1.out]; exact zs_beg s)

end Go.Proofs.Ytpabpeppgpeaoaa.Md
