import Derived.Test.YtpabpeppgpeaoaaRf
namespace Go.Proofs.Ytpabpeppgpeaoaa.Md
open Go.RowKit
set_option linter.unusedVariables false
set_option linter.unusedSimpArgs false

theorem RfB.mk2 {J : Nat → Prop} {w w' : World} {r : Nat} {x : Rs} {g : Sl} {ba bc bh bm : Nat} (hf : Fq J w w' [(r, 56, (rvOf x g ba bc bh bm).cells), (ba, 4, (boL x.qa).toArray), (bc, 4, (boL x.qc).toArray), (bh, 39, (spL x.qh).toArray), (bm, 28, (cmL x.qm).toArray)]) (hg : OwI w' 0 g x.zs) (hj : ∀ k, At g.a k → Jn J w k) (la : x.qa.length = g.l) (lc : x.qc.length = g.l) (lh : x.qh.length = g.l) (lm : x.qm.length = g.l) (hn : g.l ≤ 2000000) : RfAt w' (Jn J w) r x :=
  ⟨g, ba, bc, bh, bm, hf.again (fun k e => e), hg, hj, la, lc, lh, lm, hn⟩
theorem RfB.frame {J : Nat → Prop} {w W : World} {r : Nat} {x : Rs} {g : Sl} {ba bc bh bm : Nat} (h : RfB W (Jn J w) r x g ba bc bh bm) (hk : Kept J w W) : Fq J w W [(r, 56, (rvOf x g ba bc bh bm).cells), (ba, 4, (boL x.qa).toArray), (bc, 4, (boL x.qc).toArray), (bh, 39, (spL x.qh).toArray), (bm, 28, (cmL x.qm).toArray)] :=
  ⟨hk, h.fq.box, fun i g T cs hi => (h.fq.low i g T cs hi).elim (fun e => absurd (h.fq.box i g T cs hi).lt (by omega)) (fun e => e.symm), h.fq.inj⟩
theorem Fq.app2 {S : Nat → Prop} {w0 w w' : World} {l : List (Nat × TypeId × Array Value)} {T : TypeId} {c cap n : Nat} {sa : Option Addr} {vs : List Value} (h : Fq S w0 w l) (ho : Own T c w w0.heap.size sa cap n vs) (hk : Kept (At sa) w w') (hT : ∀ x ∈ l, x.2.1 ≠ T ∨ ¬ At sa x.1) : Fq S w0 w' l :=
  ⟨h.kept.trans hk (fun _ e => e) (fun k hk' e => by have := ho.base e; omega), fun i g T' cs hi => (h.box i g T' cs hi).kept hk (fun e => by
    rcases hT _ (List.mem_of_getElem? hi) with h1 | h1
    · exact ho.notBox (h.box i g T' cs hi) (fun e2 => h1 e2.symm) e
    · exact h1 e), h.low, h.inj⟩
theorem count_at {J : Nat → Prop} {w : World} {r : Nat} {x : Rs} (hB : RfAt w J r x) : Calls Try.prog 64 #[.pointer (some ⟨r, 0, none⟩)] w (fun e w' => e = .returned (.int .i64 (cntB x.qc : Nat)) ∧ Kept No w w') := by
  obtain ⟨g, ba, bc, bh, bm, h⟩ := hB
  exact rCount_any J r x g ba bc bh bm w h
theorem need_at {J : Nat → Prop} {w : World} {r : Nat} {x : Rs} (hB : RfAt w J r x) : Calls Try.prog 65 #[.pointer (some ⟨r, 0, none⟩)] w (fun e w' => e = .returned (.int .i64 ((x.zs.length / 2 + 1 : Nat) : Int)) ∧ Kept No w w') := by
  obtain ⟨g, ba, bc, bh, bm, h⟩ := hB
  rw [h.gr.len]
  exact rNeed_any J r x g ba bc bh bm w h
theorem place_at {J : Nat → Prop} {w : World} {r : Nat} {x : Rs} (hB : RfAt w J r x) (m : Mg) : Calls Try.prog 63 #[.pointer (some ⟨r, 0, none⟩), .agg (Mg.cells m)] w (fun e w' => e = .returned (.int .i64 (placeR x m)) ∧ Kept No w w') := by
  obtain ⟨g, ba, bc, bh, bm, h⟩ := hB
  exact rPlace_any J r x g ba bc bh bm m w h
theorem plc_lt : ∀ (l : List Int) (v : Int) (k i : Nat), plcR l v k = ((i : Nat) : Int) → k ≤ i ∧ i < k + l.length ∧ l[i - k]?.getD 0 = v
  | [], v, k, i, h => by unfold plcR at h; omega
  | z :: l, v, k, i, h => by
    unfold plcR at h
    split at h
    · rename_i hz
      have : k = i := by omega
      subst this
      refine ⟨Nat.le_refl _, by simp, ?_⟩
      rw [Nat.sub_self]; exact hz
    · obtain ⟨h1, h2, h3⟩ := plc_lt l v (k + 1) i h
      refine ⟨by omega, by simp; omega, ?_⟩
      rw [show i - k = (i - (k + 1)) + 1 by omega]
      simpa using h3
theorem place_lt {x : Rs} {m : Mg} {i : Nat} (h : ((i : Nat) : Int) = placeR x m) : i < x.zs.length ∧ x.zs[i]?.getD 0 = m.fr.id ∧ ansR x m = true := by
  unfold placeR at h
  split at h
  · rename_i ha
    obtain ⟨_, h2, h3⟩ := plc_lt x.zs m.fr.id 0 i h.symm
    exact ⟨by omega, h3, ha⟩
  · omega
def lrnG (x : Rs) (z : Int) : Mg := ⟨5, ⟨true, x.cl⟩, ⟨false, z⟩, x.op, x.rd, x.ky, spZ, spZ, slZ, x.ch, bvZ, slZ, false⟩
def lrnK (x : Rs) (i : Nat) : List Mg := (x.zs.take i).map (lrnG x)
def prmR (x : Rs) (m : Mg) (i : Nat) : Rs := { x with qa := x.qa.set i true, qc := x.qc.set i true, qh := x.qh.set i m.hd, qm := x.qm.set i m.c }
def accR (x : Rs) (i : Nat) : Rs := { x with qa := x.qa.set i true, qc := x.qc.set i true }
def tk2R (x : Rs) (m : Mg) (i : Nat) : Rs × List Mg :=
  if m.k == 14 then ({ x with qa := x.qa.set i true, nk := true, nt := if x.nt < m.st.n then m.st.n else x.nt }, [])
  else if m.k == 13 && (m.st.n == x.n && m.st.c == x.cl) && x.ph == 1 then
    (if cntB (x.qc.set i true) < x.zs.length / 2 + 1 then (prmR x m i, []) else nextR { chooseR (prmR x m i) with ph := 2 })
  else if m.k == 15 && (m.st.n == x.n && m.st.c == x.cl) && x.ph == 2 then
    (if cntB (x.qc.set i true) < x.zs.length / 2 + 1 then (accR x i, []) else ({ accR x i with de := true, dc := x.ch, ph := 3 }, lrnK x x.zs.length))
  else (x, [])
def takeR (x : Rs) (m : Mg) : Rs × List Mg :=
  if placeR x m < 0 then (x, []) else if m.k == 16 then ({ x with de := true, dc := m.c, ph := 3 }, []) else if m.k == 17 then ({ x with tr := true, bk := m.bk, ph := 3 }, [])
  else if x.qa[(placeR x m).toNat]?.getD false then (x, []) else tk2R x m (placeR x m).toNat
set_option maxRecDepth 100000 in
set_option maxHeartbeats 4000000 in
theorem rTake_any (J : Nat → Prop) (r : Nat) (x : Rs) (g : Sl) (ba bc bh bm : Nat) (m : Mg) (w : World) (hB : RfB w J r x g ba bc bh bm) : Calls Try.prog 40 #[.pointer (some ⟨r, 0, none⟩), .agg (Mg.cells m)] w (RfOut w J r (takeR x m)) := by
  refine hideC fun C HC => ?_
  have HF : Hid (Fq J w w [(r, 56, Rv.cells (rvOf x g ba bc bh bm)), (ba, 4, (boL (x.qa)).toArray), (bc, 4, (boL (x.qc)).toArray), (bh, 39, (spL (x.qh)).toArray), (bm, 28, (cmL (x.qm)).toArray)]) := hB.fq
  have HG : Hid (OwI w 0 g x.zs) := hB.gr
  have hzl := hB.gr.len
  have hla := hB.la
  have hlc := hB.lc
  have hlh := hB.lh
  have hlm := hB.lm
  have hnn := hB.hn
  have HJ : Hid (∀ k, At g.a k → Jn J w k) := show ∀ k, At g.a k → Jn J w k from fun k e => .inl (hB.gj k e)
  obtain ⟨pl, hpl⟩ : ∃ pl, pl = placeR x m := ⟨_, rfl⟩
  have HPl : Hid (pl = placeR x m) := hpl
  clear hpl
  clear hB
  go_enter Try.func40, Try.ntmps40
  go_upto_region 0 with fail
  refine WL.start ?_
  refine uR (pV w.heap.size 0) (w.alloc (.cells (Mg.cells m) 47)) (exec_box 47 _ rfl (Mg.cells m) (by kernel_rfl)) ?_
  try simp only [pS]
  have HG : Hid (OwI (w.alloc (.cells (Mg.cells m) 47)) 0 g x.zs) := HG.out.no ((Kept.refl No _).alloc _)
  have HF : Hid (Fq J w (w.alloc (.cells (Mg.cells m) 47)) [(r, 56, Rv.cells (rvOf x g ba bc bh bm)), (ba, 4, (boL (x.qa)).toArray), (bc, 4, (boL (x.qc)).toArray), (bh, 39, (spL (x.qh)).toArray), (bm, 28, (cmL (x.qm)).toArray), (w.heap.size, 47, Mg.cells m)]) := HF.out.alloc _ _
  generalize w.alloc (.cells (Mg.cells m) 47) = wk2 at HF HG ⊢
  generalize w.heap.size = gk1 at HF ⊢
  refine uK (.slice none 0 0) <| WL.nil <| ?_
  try simp only [pS]
  go_upto_region 1 with fail
  refine WL.start <| uK (pV r 0) <| uL 47 ⟨gk1, 0, none⟩ (.agg (Mg.cells m)) (run_load_part (cs := Mg.cs m) (sub := Mg.cs m) (HF.out.box 5 _ _ _ rfl) (Part.all _) U47 rfl S47) <| ?_
  try simp only [pS]
  refine uC 63 #[pV r 0, .agg (Mg.cells m)] (place_at (RfB.mk2 (x := x) (g := g) (ba := ba) (bc := bc) (bh := bh) (bm := bm) (Fq.front (m := [(gk1, 47, Mg.cells m)]) HF.out) HG.out HJ.out (by first | exact hla | simp [prmR, accR, hla]) (by first | exact hlc | simp [prmR, accR, hlc]) (by first | exact hlh | simp [prmR, accR, hlh]) (by first | exact hlm | simp [prmR, accR, hlm]) hnn) m) ?_
  rintro e wk3 ⟨rfl, hk⟩
  have HG : Hid (OwI (wk3) 0 g x.zs) := HG.out.no hk
  have HF : Hid (Fq J w (wk3) [(r, 56, Rv.cells (rvOf x g ba bc bh bm)), (ba, 4, (boL (x.qa)).toArray), (bc, 4, (boL (x.qc)).toArray), (bh, 39, (spL (x.qh)).toArray), (bm, 28, (cmL (x.qm)).toArray), (gk1, 47, Mg.cells m)]) := HF.out.no hk
  clear hk
  refine ⟨.int .i64 pl, by rw [HPl.out], ?_⟩
  try simp only [pS]
  refine uK (.int .i64 pl) <| WL.nil <| ?_
  try simp only [pS]
  go_upto_region 2 with fail
  refine WL.start <| uK (.int .i64 pl) <| ?_
  try simp only [pS]
  cases q1 : (decide (pl < 0))
  ·skip
   refine uB .lss 3 (.int .i64 pl) (.int .i64 0) (.bool false) (by rw [b_lss, q1]; try rfl) <| WL.nil <| ?_
   try simp only [pS]
   obtain ⟨i, hpi⟩ : ∃ i : Nat, pl = ((i : Nat) : Int) := ⟨pl.toNat, by have := of_decide_eq_false q1; omega⟩
   subst hpi
   have hlt : i < g.l := by rw [← hzl]; exact (place_lt HPl.out).1
   have hN : ¬ placeR x m < 0 := by rw [← HPl.out]; omega
   have hI : (placeR x m).toNat = i := by rw [← HPl.out]; rfl
   have HN : Hid (¬ placeR x m < 0) := hN
   have HI : Hid ((placeR x m).toNat = i) := hI
   clear hN hI q1
   go_upto_region 4 with fail
   refine WL.start <| uK (pV gk1 0) <| uL 3 ⟨gk1, 0, none⟩ (.int .i64 m.k) (load_one ((HF.out.box 5 _ _ _ rfl).cell 0 |>.trans (by kernel_rfl)) U3 rfl) <| ?_
   try simp only [pS]
   cases q2 : (m.k == 16)
   ·skip
    refine uB .eql 3 (.int .i64 m.k) (.int .i64 16) (.bool false) (by rw [b_eql, q2]; try rfl) <| WL.nil <| ?_
    try simp only [pS]
    go_upto_region 9 with fail
    refine WL.start <| uK (pV gk1 0) <| uL 3 ⟨gk1, 0, none⟩ (.int .i64 m.k) (load_one ((HF.out.box 5 _ _ _ rfl).cell 0 |>.trans (by kernel_rfl)) U3 rfl) <| ?_
    try simp only [pS]
    cases q3 : (m.k == 17)
    ·skip
     refine uB .eql 3 (.int .i64 m.k) (.int .i64 17) (.bool false) (by rw [b_eql, q3]; try rfl) <| WL.nil <| ?_
     try simp only [pS]
     obtain ⟨bb, hbb⟩ := at_s hla hlt
     have hT : takeR x m = if bb then (x, []) else tk2R x m i := by unfold takeR; rw [if_neg (by have := HN.out; omega), if_neg (by rw [q2]; simp), if_neg (by rw [q3]; simp), HI.out, hbb]; rfl
     have HT : Hid (takeR x m = if bb then (x, []) else tk2R x m i) := hT
     clear hT q2 q3
     cases bb
     ·skip
      have HT : Hid (takeR x m = tk2R x m i) := by show _ = _; rw [HT.out]; rfl
      go_upto_region 14 with fail
      refine WL.start <| uK (pV r 0) <| uK (pV r 0) <| uK (pV r 29) <| uL 53 ⟨r, 29, none⟩ (.slice (some ⟨ba, 0, none⟩) g.l g.l) (load_one ((HF.out.box 0 _ _ _ rfl).cell 29 |>.trans (by kernel_rfl)) U53 rfl) <| uK (.int .i64 ((i : Nat) : Int)) <| uW (pV ba (0 + i * 1)) (exec_ixA 53 1 E53 F53 _ _ rfl ba 0 g.l g.l i (by kernel_rfl) (by kernel_rfl) (by omega)) <| uL 4 ⟨ba, 0 + i * 1, none⟩ (.bool false) (ld_bo (HF.out.box 1 _ _ _ rfl) (by rw [hbb])) <| WL.nil <| ?_
      try simp only [pS]
      go_upto_region 16 with fail
      refine wp_region_held_drew (S := fun w' => Box w' r 56 (Rv.cells (rvOf x g ba bc bh bm)) ∧ Box w' gk1 47 (Mg.cells m)) rfl ⟨HF.out.box 0 _ _ _ rfl, HF.out.box 5 _ _ _ rfl⟩ (fun hH => ?_)
      have HG : Hid (OwI (wk3.drew) 0 g x.zs) := HG.out.no (Kept.refl No _).drew
      have HF : Hid (Fq J w (wk3.drew) [(r, 56, Rv.cells (rvOf x g ba bc bh bm)), (ba, 4, (boL (x.qa)).toArray), (bc, 4, (boL (x.qc)).toArray), (bh, 39, (spL (x.qh)).toArray), (bm, 28, (cmL (x.qm)).toArray), (gk1, 47, Mg.cells m)]) := HF.out.drew
      generalize wk3.drew = wk4 at HF HG hH ⊢
      refine xV 0 49 (pV gk1 11) hH <| xV 1 50 (pV gk1 11) hH <| xL 2 51 3 ⟨gk1, 11, none⟩ (.int .i64 m.st.n) (fun _ hw => load_one ((hw.2).cell 11 |>.trans (by kernel_rfl)) U3 rfl) hH <| xV 3 52 (pV r 0) hH <| xV 4 53 (pV r 0) hH <| xV 5 54 (pV r 25) hH <| ?_
      try simp only [pS]
      refine xL 6 55 3 ⟨r, 25, none⟩ (.int .i64 x.n) (fun _ hw => load_one ((hw.1).cell 25 |>.trans (by kernel_rfl)) U3 rfl) hH ?_
      try simp only [pS]
      cases q4 : (m.st.n == x.n)
      ·skip
       refine xB 7 56 .eql 3 (.int .i64 m.st.n) (.int .i64 x.n) (.bool false) (fun _ _ => by rw [b_eql, q4]; try rfl) hH <| xV 8 57 (.bool false) hH <| xZ 9 58 hH <| xZ 10 59 hH <| xZ 11 60 hH <| xZ 12 61 hH <| ?_
       try simp only [pS]
       refine xZ 13 62 hH <| xZ 14 63 hH <| xZ 15 64 hH <| xZ 16 65 hH <| xV 17 66 (.bool false) hH <| xV 18 6 (.bool false) hH <| ?_
       try simp only [pS]
       refine wpAnyH_done (by kernel_rfl) ?_ _
       try simp only [pS]
       clear hH
       go_upto_region 17 with fail
       refine WL.start <| uK (pV gk1 0) <| uL 3 ⟨gk1, 0, none⟩ (.int .i64 m.k) (load_one ((HF.out.box 5 _ _ _ rfl).cell 0 |>.trans (by kernel_rfl)) U3 rfl) <| ?_
       try simp only [pS]
       cases q5 : (m.k == 14)
       ·skip
        refine uB .eql 3 (.int .i64 m.k) (.int .i64 14) (.bool false) (by rw [b_eql, q5]; try rfl) <| WL.nil <| ?_
        try simp only [pS]
        go_upto_region 23 with fail
        refine WL.start <| uK (pV gk1 0) <| uL 3 ⟨gk1, 0, none⟩ (.int .i64 m.k) (load_one ((HF.out.box 5 _ _ _ rfl).cell 0 |>.trans (by kernel_rfl)) U3 rfl) <| ?_
        try simp only [pS]
        cases q6 : (m.k == 13)
        ·skip
         refine uB .eql 3 (.int .i64 m.k) (.int .i64 13) (.bool false) (by rw [b_eql, q6]; try rfl) <| uK (.bool false) <| uZ <| uK (.bool false) <| uK (.bool false) <| uZ <| uZ <| uZ <| ?_
         try simp only [pS]
         refine uZ <| uZ <| uK (.bool false) <| WL.nil <| ?_
         try simp only [pS]
         go_upto_region 33 with fail
         refine WL.start <| uK (pV gk1 0) <| uL 3 ⟨gk1, 0, none⟩ (.int .i64 m.k) (load_one ((HF.out.box 5 _ _ _ rfl).cell 0 |>.trans (by kernel_rfl)) U3 rfl) <| ?_
         try simp only [pS]
         cases q7 : (m.k == 15)
         ·skip
          refine uB .eql 3 (.int .i64 m.k) (.int .i64 15) (.bool false) (by rw [b_eql, q7]; try rfl) <| uK (.bool false) <| uZ <| uK (.bool false) <| uK (.bool false) <| uZ <| uZ <| uZ <| ?_
          try simp only [pS]
          refine uZ <| uZ <| uK (.bool false) <| WL.nil <| ?_
          try simp only [pS]
          go_upto_region 47 with fail
          refine WL.start <| uK (.slice none 0 0) <| WL.nil <| ?_
          try simp only [pS]
          go_wp2
          rw [HC.out]
          have hx : takeR x m = (x, []) := by rw [HT.out]; unfold tk2R; simp [q4, q5, q6, q7]
          rw [hx]
          exact ⟨slZ, rfl, OwM.nil _ _, RfB.mk2 (x := x) (g := g) (ba := ba) (bc := bc) (bh := bh) (bm := bm) (Fq.front (m := [(gk1, 47, Mg.cells m)]) HF.out) HG.out HJ.out (by first | exact hla | simp [prmR, accR, hla]) (by first | exact hlc | simp [prmR, accR, hlc]) (by first | exact hlh | simp [prmR, accR, hlh]) (by first | exact hlm | simp [prmR, accR, hlm]) hnn, HF.out.kept⟩
         ·skip
          refine uB .eql 3 (.int .i64 m.k) (.int .i64 15) (.bool true) (by rw [b_eql, q7]; try rfl) <| uK (.bool true) <| uK (.bool false) <| uK (.bool false) <| uK (.bool false) <| uZ <| uZ <| uZ <| ?_
          try simp only [pS]
          refine uZ <| uZ <| uK (.bool false) <| WL.nil <| ?_
          try simp only [pS]
          go_upto_region 47 with fail
          refine WL.start <| uK (.slice none 0 0) <| WL.nil <| ?_
          try simp only [pS]
          go_wp2
          rw [HC.out]
          have hx : takeR x m = (x, []) := by rw [HT.out]; unfold tk2R; simp [q4, q5, q6, q7]
          rw [hx]
          exact ⟨slZ, rfl, OwM.nil _ _, RfB.mk2 (x := x) (g := g) (ba := ba) (bc := bc) (bh := bh) (bm := bm) (Fq.front (m := [(gk1, 47, Mg.cells m)]) HF.out) HG.out HJ.out (by first | exact hla | simp [prmR, accR, hla]) (by first | exact hlc | simp [prmR, accR, hlc]) (by first | exact hlh | simp [prmR, accR, hlh]) (by first | exact hlm | simp [prmR, accR, hlm]) hnn, HF.out.kept⟩
        ·skip
         refine uB .eql 3 (.int .i64 m.k) (.int .i64 13) (.bool true) (by rw [b_eql, q6]; try rfl) <| uK (.bool true) <| uK (.bool false) <| uK (.bool false) <| uK (.bool false) <| uZ <| uZ <| uZ <| ?_
         try simp only [pS]
         refine uZ <| uZ <| uK (.bool false) <| WL.nil <| ?_
         try simp only [pS]
         go_upto_region 33 with fail
         refine WL.start <| uK (pV gk1 0) <| uL 3 ⟨gk1, 0, none⟩ (.int .i64 m.k) (load_one ((HF.out.box 5 _ _ _ rfl).cell 0 |>.trans (by kernel_rfl)) U3 rfl) <| ?_
         try simp only [pS]
         cases q8 : (m.k == 15)
         ·skip
          refine uB .eql 3 (.int .i64 m.k) (.int .i64 15) (.bool false) (by rw [b_eql, q8]; try rfl) <| uK (.bool false) <| uZ <| uK (.bool false) <| uK (.bool false) <| uZ <| uZ <| uZ <| ?_
          try simp only [pS]
          refine uZ <| uZ <| uK (.bool false) <| WL.nil <| ?_
          try simp only [pS]
          go_upto_region 47 with fail
          refine WL.start <| uK (.slice none 0 0) <| WL.nil <| ?_
          try simp only [pS]
          go_wp2
          rw [HC.out]
          have hx : takeR x m = (x, []) := by rw [HT.out]; unfold tk2R; simp [q4, q5, q6, q8]
          rw [hx]
          exact ⟨slZ, rfl, OwM.nil _ _, RfB.mk2 (x := x) (g := g) (ba := ba) (bc := bc) (bh := bh) (bm := bm) (Fq.front (m := [(gk1, 47, Mg.cells m)]) HF.out) HG.out HJ.out (by first | exact hla | simp [prmR, accR, hla]) (by first | exact hlc | simp [prmR, accR, hlc]) (by first | exact hlh | simp [prmR, accR, hlh]) (by first | exact hlm | simp [prmR, accR, hlm]) hnn, HF.out.kept⟩
         ·skip
          refine uB .eql 3 (.int .i64 m.k) (.int .i64 15) (.bool true) (by rw [b_eql, q8]; try rfl) <| uK (.bool true) <| uK (.bool false) <| uK (.bool false) <| uK (.bool false) <| uZ <| uZ <| uZ <| ?_
          try simp only [pS]
          refine uZ <| uZ <| uK (.bool false) <| WL.nil <| ?_
          try simp only [pS]
          go_upto_region 47 with fail
          refine WL.start <| uK (.slice none 0 0) <| WL.nil <| ?_
          try simp only [pS]
          go_wp2
          rw [HC.out]
          have hx : takeR x m = (x, []) := by rw [HT.out]; unfold tk2R; simp [q4, q5, q6, q8]
          rw [hx]
          exact ⟨slZ, rfl, OwM.nil _ _, RfB.mk2 (x := x) (g := g) (ba := ba) (bc := bc) (bh := bh) (bm := bm) (Fq.front (m := [(gk1, 47, Mg.cells m)]) HF.out) HG.out HJ.out (by first | exact hla | simp [prmR, accR, hla]) (by first | exact hlc | simp [prmR, accR, hlc]) (by first | exact hlh | simp [prmR, accR, hlh]) (by first | exact hlm | simp [prmR, accR, hlm]) hnn, HF.out.kept⟩
       ·skip
        refine uB .eql 3 (.int .i64 m.k) (.int .i64 14) (.bool true) (by rw [b_eql, q5]; try rfl) <| WL.nil <| ?_
        try simp only [pS]
        go_upto_region 18 with fail
        refine WL.start <| uK (pV r 0) <| uK (pV r 0) <| uK (pV r 29) <| uL 53 ⟨r, 29, none⟩ (.slice (some ⟨ba, 0, none⟩) g.l g.l) (load_one ((HF.out.box 0 _ _ _ rfl).cell 29 |>.trans (by kernel_rfl)) U53 rfl) <| uK (.int .i64 ((i : Nat) : Int)) <| uW (pV ba (0 + i * 1)) (exec_ixA 53 1 E53 F53 _ _ rfl ba 0 g.l g.l i (by kernel_rfl) (by kernel_rfl) (by omega)) <| ?_
        try simp only [pS]
        refine uT 4 ⟨ba, 0 + i * 1, none⟩ (.bool true) (wk4.setRow ba ((boL ((x.qa).set i true)).toArray)) (st_bo true (HF.out.box 1 _ _ _ rfl) (by first | omega | (simp; omega))) ?_
        try simp only [pS]
        have HG : Hid (OwI (wk4.setRow ba ((boL ((x.qa).set i true)).toArray)) 0 g x.zs) := HG.out.kept (Kept.setRow _ _ _) (fun k h e => (HG.out.own.notBox (HF.out.box 1 _ _ _ rfl) (by decide)) ((show k = ba from e) ▸ h))
        have HF : Hid (Fq J w (wk4.setRow ba ((boL ((x.qa).set i true)).toArray)) [(r, 56, Rv.cells (rvOf x g ba bc bh bm)), (ba, 4, (boL ((x.qa).set i true)).toArray), (bc, 4, (boL (x.qc)).toArray), (bh, 39, (spL (x.qh)).toArray), (bm, 28, (cmL (x.qm)).toArray), (gk1, 47, Mg.cells m)]) := HF.out.set 1 rfl _
        generalize wk4.setRow ba ((boL ((x.qa).set i true)).toArray) = wk5 at HF HG ⊢
        refine WL.nil ?_
        try simp only [pS]
        go_upto_region 19 with fail
        refine WL.start <| uK (pV r 0) <| uK (pV r 0) <| uK (pV r 33) <| ?_
        try simp only [pS]
        refine uT 4 ⟨r, 33, none⟩ (.bool true) (wk5.setRow r (Rv.cells (rvOf {x with nk := true} g ba bc bh bm))) (rs (Rv.cs (rvOf x g ba bc bh bm)) ([.bool true]) (Rv.cs (rvOf {x with nk := true} g ba bc bh bm)) (HF.out.box 0 _ _ _ rfl) S4 (by simp [Value.oneCell', Sl.v])) ?_
        try simp only [pS]
        have HG : Hid (OwI (wk5.setRow r (Rv.cells (rvOf {x with nk := true} g ba bc bh bm))) 0 g x.zs) := HG.out.kept (Kept.setRow _ _ _) (fun k h e => (HG.out.own.notBox (HF.out.box 0 _ _ _ rfl) (by decide)) ((show k = r from e) ▸ h))
        have HF : Hid (Fq J w (wk5.setRow r (Rv.cells (rvOf {x with nk := true} g ba bc bh bm))) [(r, 56, Rv.cells (rvOf {x with nk := true} g ba bc bh bm)), (ba, 4, (boL ((x.qa).set i true)).toArray), (bc, 4, (boL (x.qc)).toArray), (bh, 39, (spL (x.qh)).toArray), (bm, 28, (cmL (x.qm)).toArray), (gk1, 47, Mg.cells m)]) := HF.out.set 0 rfl _
        generalize wk5.setRow r (Rv.cells (rvOf {x with nk := true} g ba bc bh bm)) = wk6 at HF HG ⊢
        refine WL.nil ?_
        try simp only [pS]
        go_upto_region 20 with fail
        refine wp_region_held_drew (S := fun w' => Box w' r 56 (Rv.cells (rvOf {x with nk := true} g ba bc bh bm)) ∧ Box w' gk1 47 (Mg.cells m)) rfl ⟨HF.out.box 0 _ _ _ rfl, HF.out.box 5 _ _ _ rfl⟩ (fun hH => ?_)
        have HG : Hid (OwI (wk6.drew) 0 g x.zs) := HG.out.no (Kept.refl No _).drew
        have HF : Hid (Fq J w (wk6.drew) [(r, 56, Rv.cells (rvOf {x with nk := true} g ba bc bh bm)), (ba, 4, (boL ((x.qa).set i true)).toArray), (bc, 4, (boL (x.qc)).toArray), (bh, 39, (spL (x.qh)).toArray), (bm, 28, (cmL (x.qm)).toArray), (gk1, 47, Mg.cells m)]) := HF.out.drew
        generalize wk6.drew = wk7 at HF HG hH ⊢
        refine xV 0 79 (pV gk1 11) hH <| xV 1 80 (pV gk1 11) hH <| xL 2 81 3 ⟨gk1, 11, none⟩ (.int .i64 m.st.n) (fun _ hw => load_one ((hw.2).cell 11 |>.trans (by kernel_rfl)) U3 rfl) hH <| xV 3 82 (pV r 0) hH <| xV 4 83 (pV r 0) hH <| xV 5 84 (pV r 27) hH <| ?_
        try simp only [pS]
        refine xL 6 85 3 ⟨r, 27, none⟩ (.int .i64 x.nt) (fun _ hw => load_one ((hw.1).cell 27 |>.trans (by kernel_rfl)) U3 rfl) hH ?_
        try simp only [pS]
        cases q9 : (decide (x.nt < m.st.n))
        ·skip
         refine xB 7 86 .gtr 3 (.int .i64 m.st.n) (.int .i64 x.nt) (.bool false) (fun _ _ => by rw [b_gtr, q9]; try rfl) hH ?_
         try simp only [pS]
         refine wpAnyH_done (by kernel_rfl) ?_ _
         try simp only [pS]
         clear hH
         go_upto_region 22 with fail
         refine WL.start <| uK (.slice none 0 0) <| WL.nil <| ?_
         try simp only [pS]
         go_wp2
         rw [HC.out]
         have hx : takeR x m = ({ x with qa := x.qa.set i true, nk := true, nt := x.nt }, []) := by rw [HT.out]; unfold tk2R; rw [if_pos q5, if_neg (of_decide_eq_false q9)]
         rw [hx]
         exact ⟨slZ, rfl, OwM.nil _ _, RfB.mk2 (x := { x with qa := x.qa.set i true, nk := true, nt := x.nt }) (g := g) (ba := ba) (bc := bc) (bh := bh) (bm := bm) (Fq.front (m := [(gk1, 47, Mg.cells m)]) HF.out) HG.out HJ.out (by first | exact hla | simp [prmR, accR, hla]) (by first | exact hlc | simp [prmR, accR, hlc]) (by first | exact hlh | simp [prmR, accR, hlh]) (by first | exact hlm | simp [prmR, accR, hlm]) hnn, HF.out.kept⟩
        ·skip
         refine xB 7 86 .gtr 3 (.int .i64 m.st.n) (.int .i64 x.nt) (.bool true) (fun _ _ => by rw [b_gtr, q9]; try rfl) hH ?_
         try simp only [pS]
         refine wpAnyH_done (by kernel_rfl) ?_ _
         try simp only [pS]
         clear hH
         go_upto_region 21 with fail
         refine WL.start <| uK (pV r 0) <| uK (pV gk1 11) <| uK (pV gk1 11) <| uL 3 ⟨gk1, 11, none⟩ (.int .i64 m.st.n) (load_one ((HF.out.box 5 _ _ _ rfl).cell 11 |>.trans (by kernel_rfl)) U3 rfl) <| uK (pV r 0) <| uK (pV r 27) <| ?_
         try simp only [pS]
         refine uT 3 ⟨r, 27, none⟩ (.int .i64 m.st.n) (wk7.setRow r (Rv.cells (rvOf {x with nt := m.st.n, nk := true} g ba bc bh bm))) (rs (Rv.cs (rvOf {x with nk := true} g ba bc bh bm)) ([.int .i64 m.st.n]) (Rv.cs (rvOf {x with nt := m.st.n, nk := true} g ba bc bh bm)) (HF.out.box 0 _ _ _ rfl) S3 (by simp [Value.oneCell', Sl.v])) ?_
         try simp only [pS]
         have HG : Hid (OwI (wk7.setRow r (Rv.cells (rvOf {x with nt := m.st.n, nk := true} g ba bc bh bm))) 0 g x.zs) := HG.out.kept (Kept.setRow _ _ _) (fun k h e => (HG.out.own.notBox (HF.out.box 0 _ _ _ rfl) (by decide)) ((show k = r from e) ▸ h))
         have HF : Hid (Fq J w (wk7.setRow r (Rv.cells (rvOf {x with nt := m.st.n, nk := true} g ba bc bh bm))) [(r, 56, Rv.cells (rvOf {x with nt := m.st.n, nk := true} g ba bc bh bm)), (ba, 4, (boL ((x.qa).set i true)).toArray), (bc, 4, (boL (x.qc)).toArray), (bh, 39, (spL (x.qh)).toArray), (bm, 28, (cmL (x.qm)).toArray), (gk1, 47, Mg.cells m)]) := HF.out.set 0 rfl _
         generalize wk7.setRow r (Rv.cells (rvOf {x with nt := m.st.n, nk := true} g ba bc bh bm)) = wk8 at HF HG ⊢
         refine WL.nil ?_
         try simp only [pS]
         go_upto_region 22 with fail
         refine WL.start <| uK (.slice none 0 0) <| WL.nil <| ?_
         try simp only [pS]
         go_wp2
         rw [HC.out]
         have hx : takeR x m = ({ x with qa := x.qa.set i true, nk := true, nt := m.st.n }, []) := by rw [HT.out]; unfold tk2R; rw [if_pos q5, if_pos (of_decide_eq_true q9)]
         rw [hx]
         exact ⟨slZ, rfl, OwM.nil _ _, RfB.mk2 (x := { x with qa := x.qa.set i true, nk := true, nt := m.st.n }) (g := g) (ba := ba) (bc := bc) (bh := bh) (bm := bm) (Fq.front (m := [(gk1, 47, Mg.cells m)]) HF.out) HG.out HJ.out (by first | exact hla | simp [prmR, accR, hla]) (by first | exact hlc | simp [prmR, accR, hlc]) (by first | exact hlh | simp [prmR, accR, hlh]) (by first | exact hlm | simp [prmR, accR, hlm]) hnn, HF.out.kept⟩
      ·skip
       refine xB 7 56 .eql 3 (.int .i64 m.st.n) (.int .i64 x.n) (.bool true) (fun _ _ => by rw [b_eql, q4]; try rfl) hH <| xV 8 57 (.bool true) hH <| xV 9 58 (pV gk1 11) hH <| xV 10 59 (pV gk1 12) hH <| xL 11 60 3 ⟨gk1, 12, none⟩ (.int .i64 m.st.c) (fun _ hw => load_one ((hw.2).cell 12 |>.trans (by kernel_rfl)) U3 rfl) hH <| xV 12 61 (pV r 0) hH <| ?_
       try simp only [pS]
       refine xV 13 62 (pV r 0) hH <| xV 14 63 (pV r 0) hH <| xL 15 64 3 ⟨r, 0, none⟩ (.int .i64 x.cl) (fun _ hw => load_one ((hw.1).cell 0 |>.trans (by kernel_rfl)) U3 rfl) hH <| ?_
       try simp only [pS]
       cases q10 : (m.st.c == x.cl)
       ·skip
        refine xB 16 65 .eql 3 (.int .i64 m.st.c) (.int .i64 x.cl) (.bool false) (fun _ _ => by rw [b_eql, q10]; try rfl) hH <| xV 17 66 (.bool false) hH <| xV 18 6 (.bool false) hH <| ?_
        try simp only [pS]
        refine wpAnyH_done (by kernel_rfl) ?_ _
        try simp only [pS]
        clear hH
        go_upto_region 17 with fail
        refine WL.start <| uK (pV gk1 0) <| uL 3 ⟨gk1, 0, none⟩ (.int .i64 m.k) (load_one ((HF.out.box 5 _ _ _ rfl).cell 0 |>.trans (by kernel_rfl)) U3 rfl) <| ?_
        try simp only [pS]
        cases q11 : (m.k == 14)
        ·skip
         refine uB .eql 3 (.int .i64 m.k) (.int .i64 14) (.bool false) (by rw [b_eql, q11]; try rfl) <| WL.nil <| ?_
         try simp only [pS]
         go_upto_region 23 with fail
         refine WL.start <| uK (pV gk1 0) <| uL 3 ⟨gk1, 0, none⟩ (.int .i64 m.k) (load_one ((HF.out.box 5 _ _ _ rfl).cell 0 |>.trans (by kernel_rfl)) U3 rfl) <| ?_
         try simp only [pS]
         cases q12 : (m.k == 13)
         ·skip
          refine uB .eql 3 (.int .i64 m.k) (.int .i64 13) (.bool false) (by rw [b_eql, q12]; try rfl) <| uK (.bool false) <| uZ <| uK (.bool false) <| uK (.bool false) <| uZ <| uZ <| uZ <| ?_
          try simp only [pS]
          refine uZ <| uZ <| uK (.bool false) <| WL.nil <| ?_
          try simp only [pS]
          go_upto_region 33 with fail
          refine WL.start <| uK (pV gk1 0) <| uL 3 ⟨gk1, 0, none⟩ (.int .i64 m.k) (load_one ((HF.out.box 5 _ _ _ rfl).cell 0 |>.trans (by kernel_rfl)) U3 rfl) <| ?_
          try simp only [pS]
          cases q13 : (m.k == 15)
          ·skip
           refine uB .eql 3 (.int .i64 m.k) (.int .i64 15) (.bool false) (by rw [b_eql, q13]; try rfl) <| uK (.bool false) <| uZ <| uK (.bool false) <| uK (.bool false) <| uZ <| uZ <| uZ <| ?_
           try simp only [pS]
           refine uZ <| uZ <| uK (.bool false) <| WL.nil <| ?_
           try simp only [pS]
           go_upto_region 47 with fail
           refine WL.start <| uK (.slice none 0 0) <| WL.nil <| ?_
           try simp only [pS]
           go_wp2
           rw [HC.out]
           have hx : takeR x m = (x, []) := by rw [HT.out]; unfold tk2R; simp [q4, q10, q11, q12, q13]
           rw [hx]
           exact ⟨slZ, rfl, OwM.nil _ _, RfB.mk2 (x := x) (g := g) (ba := ba) (bc := bc) (bh := bh) (bm := bm) (Fq.front (m := [(gk1, 47, Mg.cells m)]) HF.out) HG.out HJ.out (by first | exact hla | simp [prmR, accR, hla]) (by first | exact hlc | simp [prmR, accR, hlc]) (by first | exact hlh | simp [prmR, accR, hlh]) (by first | exact hlm | simp [prmR, accR, hlm]) hnn, HF.out.kept⟩
          ·skip
           refine uB .eql 3 (.int .i64 m.k) (.int .i64 15) (.bool true) (by rw [b_eql, q13]; try rfl) <| uK (.bool true) <| uK (.bool false) <| uK (.bool false) <| uK (.bool false) <| uZ <| uZ <| uZ <| ?_
           try simp only [pS]
           refine uZ <| uZ <| uK (.bool false) <| WL.nil <| ?_
           try simp only [pS]
           go_upto_region 47 with fail
           refine WL.start <| uK (.slice none 0 0) <| WL.nil <| ?_
           try simp only [pS]
           go_wp2
           rw [HC.out]
           have hx : takeR x m = (x, []) := by rw [HT.out]; unfold tk2R; simp [q4, q10, q11, q12, q13]
           rw [hx]
           exact ⟨slZ, rfl, OwM.nil _ _, RfB.mk2 (x := x) (g := g) (ba := ba) (bc := bc) (bh := bh) (bm := bm) (Fq.front (m := [(gk1, 47, Mg.cells m)]) HF.out) HG.out HJ.out (by first | exact hla | simp [prmR, accR, hla]) (by first | exact hlc | simp [prmR, accR, hlc]) (by first | exact hlh | simp [prmR, accR, hlh]) (by first | exact hlm | simp [prmR, accR, hlm]) hnn, HF.out.kept⟩
         ·skip
          refine uB .eql 3 (.int .i64 m.k) (.int .i64 13) (.bool true) (by rw [b_eql, q12]; try rfl) <| uK (.bool true) <| uK (.bool false) <| uK (.bool false) <| uK (.bool false) <| uZ <| uZ <| uZ <| ?_
          try simp only [pS]
          refine uZ <| uZ <| uK (.bool false) <| WL.nil <| ?_
          try simp only [pS]
          go_upto_region 33 with fail
          refine WL.start <| uK (pV gk1 0) <| uL 3 ⟨gk1, 0, none⟩ (.int .i64 m.k) (load_one ((HF.out.box 5 _ _ _ rfl).cell 0 |>.trans (by kernel_rfl)) U3 rfl) <| ?_
          try simp only [pS]
          cases q14 : (m.k == 15)
          ·skip
           refine uB .eql 3 (.int .i64 m.k) (.int .i64 15) (.bool false) (by rw [b_eql, q14]; try rfl) <| uK (.bool false) <| uZ <| uK (.bool false) <| uK (.bool false) <| uZ <| uZ <| uZ <| ?_
           try simp only [pS]
           refine uZ <| uZ <| uK (.bool false) <| WL.nil <| ?_
           try simp only [pS]
           go_upto_region 47 with fail
           refine WL.start <| uK (.slice none 0 0) <| WL.nil <| ?_
           try simp only [pS]
           go_wp2
           rw [HC.out]
           have hx : takeR x m = (x, []) := by rw [HT.out]; unfold tk2R; simp [q4, q10, q11, q12, q14]
           rw [hx]
           exact ⟨slZ, rfl, OwM.nil _ _, RfB.mk2 (x := x) (g := g) (ba := ba) (bc := bc) (bh := bh) (bm := bm) (Fq.front (m := [(gk1, 47, Mg.cells m)]) HF.out) HG.out HJ.out (by first | exact hla | simp [prmR, accR, hla]) (by first | exact hlc | simp [prmR, accR, hlc]) (by first | exact hlh | simp [prmR, accR, hlh]) (by first | exact hlm | simp [prmR, accR, hlm]) hnn, HF.out.kept⟩
          ·skip
           refine uB .eql 3 (.int .i64 m.k) (.int .i64 15) (.bool true) (by rw [b_eql, q14]; try rfl) <| uK (.bool true) <| uK (.bool false) <| uK (.bool false) <| uK (.bool false) <| uZ <| uZ <| uZ <| ?_
           try simp only [pS]
           refine uZ <| uZ <| uK (.bool false) <| WL.nil <| ?_
           try simp only [pS]
           go_upto_region 47 with fail
           refine WL.start <| uK (.slice none 0 0) <| WL.nil <| ?_
           try simp only [pS]
           go_wp2
           rw [HC.out]
           have hx : takeR x m = (x, []) := by rw [HT.out]; unfold tk2R; simp [q4, q10, q11, q12, q14]
           rw [hx]
           exact ⟨slZ, rfl, OwM.nil _ _, RfB.mk2 (x := x) (g := g) (ba := ba) (bc := bc) (bh := bh) (bm := bm) (Fq.front (m := [(gk1, 47, Mg.cells m)]) HF.out) HG.out HJ.out (by first | exact hla | simp [prmR, accR, hla]) (by first | exact hlc | simp [prmR, accR, hlc]) (by first | exact hlh | simp [prmR, accR, hlh]) (by first | exact hlm | simp [prmR, accR, hlm]) hnn, HF.out.kept⟩
        ·skip
         refine uB .eql 3 (.int .i64 m.k) (.int .i64 14) (.bool true) (by rw [b_eql, q11]; try rfl) <| WL.nil <| ?_
         try simp only [pS]
         go_upto_region 18 with fail
         refine WL.start <| uK (pV r 0) <| uK (pV r 0) <| uK (pV r 29) <| uL 53 ⟨r, 29, none⟩ (.slice (some ⟨ba, 0, none⟩) g.l g.l) (load_one ((HF.out.box 0 _ _ _ rfl).cell 29 |>.trans (by kernel_rfl)) U53 rfl) <| uK (.int .i64 ((i : Nat) : Int)) <| uW (pV ba (0 + i * 1)) (exec_ixA 53 1 E53 F53 _ _ rfl ba 0 g.l g.l i (by kernel_rfl) (by kernel_rfl) (by omega)) <| ?_
         try simp only [pS]
         refine uT 4 ⟨ba, 0 + i * 1, none⟩ (.bool true) (wk4.setRow ba ((boL ((x.qa).set i true)).toArray)) (st_bo true (HF.out.box 1 _ _ _ rfl) (by first | omega | (simp; omega))) ?_
         try simp only [pS]
         have HG : Hid (OwI (wk4.setRow ba ((boL ((x.qa).set i true)).toArray)) 0 g x.zs) := HG.out.kept (Kept.setRow _ _ _) (fun k h e => (HG.out.own.notBox (HF.out.box 1 _ _ _ rfl) (by decide)) ((show k = ba from e) ▸ h))
         have HF : Hid (Fq J w (wk4.setRow ba ((boL ((x.qa).set i true)).toArray)) [(r, 56, Rv.cells (rvOf x g ba bc bh bm)), (ba, 4, (boL ((x.qa).set i true)).toArray), (bc, 4, (boL (x.qc)).toArray), (bh, 39, (spL (x.qh)).toArray), (bm, 28, (cmL (x.qm)).toArray), (gk1, 47, Mg.cells m)]) := HF.out.set 1 rfl _
         generalize wk4.setRow ba ((boL ((x.qa).set i true)).toArray) = wk9 at HF HG ⊢
         refine WL.nil ?_
         try simp only [pS]
         go_upto_region 19 with fail
         refine WL.start <| uK (pV r 0) <| uK (pV r 0) <| uK (pV r 33) <| ?_
         try simp only [pS]
         refine uT 4 ⟨r, 33, none⟩ (.bool true) (wk9.setRow r (Rv.cells (rvOf {x with nk := true} g ba bc bh bm))) (rs (Rv.cs (rvOf x g ba bc bh bm)) ([.bool true]) (Rv.cs (rvOf {x with nk := true} g ba bc bh bm)) (HF.out.box 0 _ _ _ rfl) S4 (by simp [Value.oneCell', Sl.v])) ?_
         try simp only [pS]
         have HG : Hid (OwI (wk9.setRow r (Rv.cells (rvOf {x with nk := true} g ba bc bh bm))) 0 g x.zs) := HG.out.kept (Kept.setRow _ _ _) (fun k h e => (HG.out.own.notBox (HF.out.box 0 _ _ _ rfl) (by decide)) ((show k = r from e) ▸ h))
         have HF : Hid (Fq J w (wk9.setRow r (Rv.cells (rvOf {x with nk := true} g ba bc bh bm))) [(r, 56, Rv.cells (rvOf {x with nk := true} g ba bc bh bm)), (ba, 4, (boL ((x.qa).set i true)).toArray), (bc, 4, (boL (x.qc)).toArray), (bh, 39, (spL (x.qh)).toArray), (bm, 28, (cmL (x.qm)).toArray), (gk1, 47, Mg.cells m)]) := HF.out.set 0 rfl _
         generalize wk9.setRow r (Rv.cells (rvOf {x with nk := true} g ba bc bh bm)) = wk10 at HF HG ⊢
         refine WL.nil ?_
         try simp only [pS]
         go_upto_region 20 with fail
         refine wp_region_held_drew (S := fun w' => Box w' r 56 (Rv.cells (rvOf {x with nk := true} g ba bc bh bm)) ∧ Box w' gk1 47 (Mg.cells m)) rfl ⟨HF.out.box 0 _ _ _ rfl, HF.out.box 5 _ _ _ rfl⟩ (fun hH => ?_)
         have HG : Hid (OwI (wk10.drew) 0 g x.zs) := HG.out.no (Kept.refl No _).drew
         have HF : Hid (Fq J w (wk10.drew) [(r, 56, Rv.cells (rvOf {x with nk := true} g ba bc bh bm)), (ba, 4, (boL ((x.qa).set i true)).toArray), (bc, 4, (boL (x.qc)).toArray), (bh, 39, (spL (x.qh)).toArray), (bm, 28, (cmL (x.qm)).toArray), (gk1, 47, Mg.cells m)]) := HF.out.drew
         generalize wk10.drew = wk11 at HF HG hH ⊢
         refine xV 0 79 (pV gk1 11) hH <| xV 1 80 (pV gk1 11) hH <| xL 2 81 3 ⟨gk1, 11, none⟩ (.int .i64 m.st.n) (fun _ hw => load_one ((hw.2).cell 11 |>.trans (by kernel_rfl)) U3 rfl) hH <| xV 3 82 (pV r 0) hH <| xV 4 83 (pV r 0) hH <| xV 5 84 (pV r 27) hH <| ?_
         try simp only [pS]
         refine xL 6 85 3 ⟨r, 27, none⟩ (.int .i64 x.nt) (fun _ hw => load_one ((hw.1).cell 27 |>.trans (by kernel_rfl)) U3 rfl) hH ?_
         try simp only [pS]
         cases q15 : (decide (x.nt < m.st.n))
         ·skip
          refine xB 7 86 .gtr 3 (.int .i64 m.st.n) (.int .i64 x.nt) (.bool false) (fun _ _ => by rw [b_gtr, q15]; try rfl) hH ?_
          try simp only [pS]
          refine wpAnyH_done (by kernel_rfl) ?_ _
          try simp only [pS]
          clear hH
          go_upto_region 22 with fail
          refine WL.start <| uK (.slice none 0 0) <| WL.nil <| ?_
          try simp only [pS]
          go_wp2
          rw [HC.out]
          have hx : takeR x m = ({ x with qa := x.qa.set i true, nk := true, nt := x.nt }, []) := by rw [HT.out]; unfold tk2R; rw [if_pos q11, if_neg (of_decide_eq_false q15)]
          rw [hx]
          exact ⟨slZ, rfl, OwM.nil _ _, RfB.mk2 (x := { x with qa := x.qa.set i true, nk := true, nt := x.nt }) (g := g) (ba := ba) (bc := bc) (bh := bh) (bm := bm) (Fq.front (m := [(gk1, 47, Mg.cells m)]) HF.out) HG.out HJ.out (by first | exact hla | simp [prmR, accR, hla]) (by first | exact hlc | simp [prmR, accR, hlc]) (by first | exact hlh | simp [prmR, accR, hlh]) (by first | exact hlm | simp [prmR, accR, hlm]) hnn, HF.out.kept⟩
         ·skip
          refine xB 7 86 .gtr 3 (.int .i64 m.st.n) (.int .i64 x.nt) (.bool true) (fun _ _ => by rw [b_gtr, q15]; try rfl) hH ?_
          try simp only [pS]
          refine wpAnyH_done (by kernel_rfl) ?_ _
          try simp only [pS]
          clear hH
          go_upto_region 21 with fail
          refine WL.start <| uK (pV r 0) <| uK (pV gk1 11) <| uK (pV gk1 11) <| uL 3 ⟨gk1, 11, none⟩ (.int .i64 m.st.n) (load_one ((HF.out.box 5 _ _ _ rfl).cell 11 |>.trans (by kernel_rfl)) U3 rfl) <| uK (pV r 0) <| uK (pV r 27) <| ?_
          try simp only [pS]
          refine uT 3 ⟨r, 27, none⟩ (.int .i64 m.st.n) (wk11.setRow r (Rv.cells (rvOf {x with nt := m.st.n, nk := true} g ba bc bh bm))) (rs (Rv.cs (rvOf {x with nk := true} g ba bc bh bm)) ([.int .i64 m.st.n]) (Rv.cs (rvOf {x with nt := m.st.n, nk := true} g ba bc bh bm)) (HF.out.box 0 _ _ _ rfl) S3 (by simp [Value.oneCell', Sl.v])) ?_
          try simp only [pS]
          have HG : Hid (OwI (wk11.setRow r (Rv.cells (rvOf {x with nt := m.st.n, nk := true} g ba bc bh bm))) 0 g x.zs) := HG.out.kept (Kept.setRow _ _ _) (fun k h e => (HG.out.own.notBox (HF.out.box 0 _ _ _ rfl) (by decide)) ((show k = r from e) ▸ h))
          have HF : Hid (Fq J w (wk11.setRow r (Rv.cells (rvOf {x with nt := m.st.n, nk := true} g ba bc bh bm))) [(r, 56, Rv.cells (rvOf {x with nt := m.st.n, nk := true} g ba bc bh bm)), (ba, 4, (boL ((x.qa).set i true)).toArray), (bc, 4, (boL (x.qc)).toArray), (bh, 39, (spL (x.qh)).toArray), (bm, 28, (cmL (x.qm)).toArray), (gk1, 47, Mg.cells m)]) := HF.out.set 0 rfl _
          generalize wk11.setRow r (Rv.cells (rvOf {x with nt := m.st.n, nk := true} g ba bc bh bm)) = wk12 at HF HG ⊢
          refine WL.nil ?_
          try simp only [pS]
          go_upto_region 22 with fail
          refine WL.start <| uK (.slice none 0 0) <| WL.nil <| ?_
          try simp only [pS]
          go_wp2
          rw [HC.out]
          have hx : takeR x m = ({ x with qa := x.qa.set i true, nk := true, nt := m.st.n }, []) := by rw [HT.out]; unfold tk2R; rw [if_pos q11, if_pos (of_decide_eq_true q15)]
          rw [hx]
          exact ⟨slZ, rfl, OwM.nil _ _, RfB.mk2 (x := { x with qa := x.qa.set i true, nk := true, nt := m.st.n }) (g := g) (ba := ba) (bc := bc) (bh := bh) (bm := bm) (Fq.front (m := [(gk1, 47, Mg.cells m)]) HF.out) HG.out HJ.out (by first | exact hla | simp [prmR, accR, hla]) (by first | exact hlc | simp [prmR, accR, hlc]) (by first | exact hlh | simp [prmR, accR, hlh]) (by first | exact hlm | simp [prmR, accR, hlm]) hnn, HF.out.kept⟩
       ·skip
        refine xB 16 65 .eql 3 (.int .i64 m.st.c) (.int .i64 x.cl) (.bool true) (fun _ _ => by rw [b_eql, q10]; try rfl) hH <| xV 17 66 (.bool true) hH <| xV 18 6 (.bool true) hH <| ?_
        try simp only [pS]
        refine wpAnyH_done (by kernel_rfl) ?_ _
        try simp only [pS]
        clear hH
        go_upto_region 17 with fail
        refine WL.start <| uK (pV gk1 0) <| uL 3 ⟨gk1, 0, none⟩ (.int .i64 m.k) (load_one ((HF.out.box 5 _ _ _ rfl).cell 0 |>.trans (by kernel_rfl)) U3 rfl) <| ?_
        try simp only [pS]
        cases q16 : (m.k == 14)
        ·skip
         refine uB .eql 3 (.int .i64 m.k) (.int .i64 14) (.bool false) (by rw [b_eql, q16]; try rfl) <| WL.nil <| ?_
         try simp only [pS]
         go_upto_region 23 with fail
         refine WL.start <| uK (pV gk1 0) <| uL 3 ⟨gk1, 0, none⟩ (.int .i64 m.k) (load_one ((HF.out.box 5 _ _ _ rfl).cell 0 |>.trans (by kernel_rfl)) U3 rfl) <| ?_
         try simp only [pS]
         cases q17 : (m.k == 13)
         ·skip
          refine uB .eql 3 (.int .i64 m.k) (.int .i64 13) (.bool false) (by rw [b_eql, q17]; try rfl) <| uK (.bool false) <| uZ <| uK (.bool false) <| uK (.bool false) <| uZ <| uZ <| uZ <| ?_
          try simp only [pS]
          refine uZ <| uZ <| uK (.bool false) <| WL.nil <| ?_
          try simp only [pS]
          go_upto_region 33 with fail
          refine WL.start <| uK (pV gk1 0) <| uL 3 ⟨gk1, 0, none⟩ (.int .i64 m.k) (load_one ((HF.out.box 5 _ _ _ rfl).cell 0 |>.trans (by kernel_rfl)) U3 rfl) <| ?_
          try simp only [pS]
          cases q18 : (m.k == 15)
          ·skip
           refine uB .eql 3 (.int .i64 m.k) (.int .i64 15) (.bool false) (by rw [b_eql, q18]; try rfl) <| uK (.bool false) <| uZ <| uK (.bool false) <| uK (.bool false) <| uZ <| uZ <| uZ <| ?_
           try simp only [pS]
           refine uZ <| uZ <| uK (.bool false) <| WL.nil <| ?_
           try simp only [pS]
           go_upto_region 47 with fail
           refine WL.start <| uK (.slice none 0 0) <| WL.nil <| ?_
           try simp only [pS]
           go_wp2
           rw [HC.out]
           have hx : takeR x m = (x, []) := by rw [HT.out]; unfold tk2R; simp [q4, q10, q16, q17, q18]
           rw [hx]
           exact ⟨slZ, rfl, OwM.nil _ _, RfB.mk2 (x := x) (g := g) (ba := ba) (bc := bc) (bh := bh) (bm := bm) (Fq.front (m := [(gk1, 47, Mg.cells m)]) HF.out) HG.out HJ.out (by first | exact hla | simp [prmR, accR, hla]) (by first | exact hlc | simp [prmR, accR, hlc]) (by first | exact hlh | simp [prmR, accR, hlh]) (by first | exact hlm | simp [prmR, accR, hlm]) hnn, HF.out.kept⟩
          ·skip
           refine uB .eql 3 (.int .i64 m.k) (.int .i64 15) (.bool true) (by rw [b_eql, q18]; try rfl) <| uK (.bool true) <| uK (.bool true) <| uK (.bool true) <| uK (.bool true) <| uK (pV r 0) <| uK (pV r 0) <| uK (pV r 28) <| ?_
           try simp only [pS]
           refine uL 3 ⟨r, 28, none⟩ (.int .i64 x.ph) (load_one ((HF.out.box 0 _ _ _ rfl).cell 28 |>.trans (by kernel_rfl)) U3 rfl) ?_
           try simp only [pS]
           cases q19 : (x.ph == 2)
           ·skip
            refine uB .eql 3 (.int .i64 x.ph) (.int .i64 2) (.bool false) (by rw [b_eql, q19]; try rfl) <| uK (.bool false) <| WL.nil <| ?_
            try simp only [pS]
            go_upto_region 47 with fail
            refine WL.start <| uK (.slice none 0 0) <| WL.nil <| ?_
            try simp only [pS]
            go_wp2
            rw [HC.out]
            have hx : takeR x m = (x, []) := by rw [HT.out]; unfold tk2R; simp [q4, q10, q16, q17, q18, q19]
            rw [hx]
            exact ⟨slZ, rfl, OwM.nil _ _, RfB.mk2 (x := x) (g := g) (ba := ba) (bc := bc) (bh := bh) (bm := bm) (Fq.front (m := [(gk1, 47, Mg.cells m)]) HF.out) HG.out HJ.out (by first | exact hla | simp [prmR, accR, hla]) (by first | exact hlc | simp [prmR, accR, hlc]) (by first | exact hlh | simp [prmR, accR, hlh]) (by first | exact hlm | simp [prmR, accR, hlm]) hnn, HF.out.kept⟩
           ·skip
            refine uB .eql 3 (.int .i64 x.ph) (.int .i64 2) (.bool true) (by rw [b_eql, q19]; try rfl) <| uK (.bool true) <| WL.nil <| ?_
            try simp only [pS]
            have HT : Hid (takeR x m = if cntB (x.qc.set i true) < x.zs.length / 2 + 1 then (accR x i, []) else ({ accR x i with de := true, dc := x.ch, ph := 3 }, lrnK x x.zs.length)) := by show _ = _; rw [HT.out]; unfold tk2R; simp [q4, q10, q16, q17, q18, q19]
            clear q4 q10 q16 q17 q18 q19
            go_upto_region 34 with fail
            refine WL.start <| uK (pV r 0) <| uK (pV r 0) <| uK (pV r 29) <| uL 53 ⟨r, 29, none⟩ (.slice (some ⟨ba, 0, none⟩) g.l g.l) (load_one ((HF.out.box 0 _ _ _ rfl).cell 29 |>.trans (by kernel_rfl)) U53 rfl) <| uK (.int .i64 ((i : Nat) : Int)) <| uW (pV ba (0 + i * 1)) (exec_ixA 53 1 E53 F53 _ _ rfl ba 0 g.l g.l i (by kernel_rfl) (by kernel_rfl) (by omega)) <| ?_
            try simp only [pS]
            refine uT 4 ⟨ba, 0 + i * 1, none⟩ (.bool true) (wk4.setRow ba ((boL ((x.qa).set i true)).toArray)) (st_bo true (HF.out.box 1 _ _ _ rfl) (by first | omega | (simp; omega))) ?_
            try simp only [pS]
            have HG : Hid (OwI (wk4.setRow ba ((boL ((x.qa).set i true)).toArray)) 0 g x.zs) := HG.out.kept (Kept.setRow _ _ _) (fun k h e => (HG.out.own.notBox (HF.out.box 1 _ _ _ rfl) (by decide)) ((show k = ba from e) ▸ h))
            have HF : Hid (Fq J w (wk4.setRow ba ((boL ((x.qa).set i true)).toArray)) [(r, 56, Rv.cells (rvOf x g ba bc bh bm)), (ba, 4, (boL ((x.qa).set i true)).toArray), (bc, 4, (boL (x.qc)).toArray), (bh, 39, (spL (x.qh)).toArray), (bm, 28, (cmL (x.qm)).toArray), (gk1, 47, Mg.cells m)]) := HF.out.set 1 rfl _
            generalize wk4.setRow ba ((boL ((x.qa).set i true)).toArray) = wk13 at HF HG ⊢
            refine WL.nil ?_
            try simp only [pS]
            go_upto_region 35 with fail
            refine WL.start <| uK (pV r 0) <| uK (pV r 0) <| uK (pV r 30) <| uL 53 ⟨r, 30, none⟩ (.slice (some ⟨bc, 0, none⟩) g.l g.l) (load_one ((HF.out.box 0 _ _ _ rfl).cell 30 |>.trans (by kernel_rfl)) U53 rfl) <| uK (.int .i64 ((i : Nat) : Int)) <| uW (pV bc (0 + i * 1)) (exec_ixA 53 1 E53 F53 _ _ rfl bc 0 g.l g.l i (by kernel_rfl) (by kernel_rfl) (by omega)) <| ?_
            try simp only [pS]
            refine uT 4 ⟨bc, 0 + i * 1, none⟩ (.bool true) (wk13.setRow bc ((boL ((x.qc).set i true)).toArray)) (st_bo true (HF.out.box 2 _ _ _ rfl) (by first | omega | (simp; omega))) ?_
            try simp only [pS]
            have HG : Hid (OwI (wk13.setRow bc ((boL ((x.qc).set i true)).toArray)) 0 g x.zs) := HG.out.kept (Kept.setRow _ _ _) (fun k h e => (HG.out.own.notBox (HF.out.box 2 _ _ _ rfl) (by decide)) ((show k = bc from e) ▸ h))
            have HF : Hid (Fq J w (wk13.setRow bc ((boL ((x.qc).set i true)).toArray)) [(r, 56, Rv.cells (rvOf x g ba bc bh bm)), (ba, 4, (boL ((x.qa).set i true)).toArray), (bc, 4, (boL ((x.qc).set i true)).toArray), (bh, 39, (spL (x.qh)).toArray), (bm, 28, (cmL (x.qm)).toArray), (gk1, 47, Mg.cells m)]) := HF.out.set 2 rfl _
            generalize wk13.setRow bc ((boL ((x.qc).set i true)).toArray) = wk14 at HF HG ⊢
            refine WL.nil ?_
            try simp only [pS]
            go_upto_region 36 with fail
            refine WL.start <| uK (pV r 0) <| ?_
            try simp only [pS]
            refine uC 64 #[pV r 0] (count_at (RfB.mk2 (x := accR x i) (g := g) (ba := ba) (bc := bc) (bh := bh) (bm := bm) (Fq.front (m := [(gk1, 47, Mg.cells m)]) HF.out) HG.out HJ.out (by first | exact hla | simp [prmR, accR, hla]) (by first | exact hlc | simp [prmR, accR, hlc]) (by first | exact hlh | simp [prmR, accR, hlh]) (by first | exact hlm | simp [prmR, accR, hlm]) hnn)) ?_
            rintro e wk15 ⟨rfl, hk⟩
            have HG : Hid (OwI (wk15) 0 g x.zs) := HG.out.no hk
            have HF : Hid (Fq J w (wk15) [(r, 56, Rv.cells (rvOf x g ba bc bh bm)), (ba, 4, (boL ((x.qa).set i true)).toArray), (bc, 4, (boL ((x.qc).set i true)).toArray), (bh, 39, (spL (x.qh)).toArray), (bm, 28, (cmL (x.qm)).toArray), (gk1, 47, Mg.cells m)]) := HF.out.no hk
            clear hk
            refine ⟨.int .i64 ((cntB (x.qc.set i true) : Nat) : Int), rfl, ?_⟩
            try simp only [pS]
            refine uK (pV r 0) ?_
            try simp only [pS]
            refine uC 65 #[pV r 0] (need_at (RfB.mk2 (x := accR x i) (g := g) (ba := ba) (bc := bc) (bh := bh) (bm := bm) (Fq.front (m := [(gk1, 47, Mg.cells m)]) HF.out) HG.out HJ.out (by first | exact hla | simp [prmR, accR, hla]) (by first | exact hlc | simp [prmR, accR, hlc]) (by first | exact hlh | simp [prmR, accR, hlh]) (by first | exact hlm | simp [prmR, accR, hlm]) hnn)) ?_
            rintro e wk16 ⟨rfl, hk⟩
            have HG : Hid (OwI (wk16) 0 g x.zs) := HG.out.no hk
            have HF : Hid (Fq J w (wk16) [(r, 56, Rv.cells (rvOf x g ba bc bh bm)), (ba, 4, (boL ((x.qa).set i true)).toArray), (bc, 4, (boL ((x.qc).set i true)).toArray), (bh, 39, (spL (x.qh)).toArray), (bm, 28, (cmL (x.qm)).toArray), (gk1, 47, Mg.cells m)]) := HF.out.no hk
            clear hk
            refine ⟨.int .i64 ((x.zs.length / 2 + 1 : Nat) : Int), rfl, ?_⟩
            try simp only [pS]
            cases q20 : (decide (((cntB (x.qc.set i true) : Nat) : Int) < ((x.zs.length / 2 + 1 : Nat) : Int)))
            ·skip
             refine uB .lss 3 (.int .i64 ((cntB (x.qc.set i true) : Nat) : Int)) (.int .i64 ((x.zs.length / 2 + 1 : Nat) : Int)) (.bool false) (by rw [b_lss, q20]; try rfl) <| WL.nil <| ?_
             try simp only [pS]
             have HT2 : Hid (takeR x m = ({ accR x i with de := true, dc := x.ch, ph := 3 }, lrnK x x.zs.length)) := by show _ = _; rw [HT.out, if_neg (by have := of_decide_eq_false q20; omega)]
             clear q20
             go_upto_region 38 with fail
             refine WL.start <| uK (pV r 0) <| uK (pV r 0) <| uK (pV r 34) <| ?_
             try simp only [pS]
             refine uT 4 ⟨r, 34, none⟩ (.bool true) (wk16.setRow r (Rv.cells (rvOf {x with de := true} g ba bc bh bm))) (rs (Rv.cs (rvOf x g ba bc bh bm)) ([.bool true]) (Rv.cs (rvOf {x with de := true} g ba bc bh bm)) (HF.out.box 0 _ _ _ rfl) S4 (by simp [Value.oneCell', Sl.v])) ?_
             try simp only [pS]
             have HG : Hid (OwI (wk16.setRow r (Rv.cells (rvOf {x with de := true} g ba bc bh bm))) 0 g x.zs) := HG.out.kept (Kept.setRow _ _ _) (fun k h e => (HG.out.own.notBox (HF.out.box 0 _ _ _ rfl) (by decide)) ((show k = r from e) ▸ h))
             have HF : Hid (Fq J w (wk16.setRow r (Rv.cells (rvOf {x with de := true} g ba bc bh bm))) [(r, 56, Rv.cells (rvOf {x with de := true} g ba bc bh bm)), (ba, 4, (boL ((x.qa).set i true)).toArray), (bc, 4, (boL ((x.qc).set i true)).toArray), (bh, 39, (spL (x.qh)).toArray), (bm, 28, (cmL (x.qm)).toArray), (gk1, 47, Mg.cells m)]) := HF.out.set 0 rfl _
             generalize wk16.setRow r (Rv.cells (rvOf {x with de := true} g ba bc bh bm)) = wk17 at HF HG ⊢
             refine WL.nil ?_
             try simp only [pS]
             go_upto_region 39 with fail
             refine WL.start <| uK (pV r 0) <| uK (pV r 0) <| uK (pV r 0) <| uK (pV r 16) <| uL 28 ⟨r, 16, none⟩ (.agg (Cm.cells x.ch)) (run_load_part (cs := Rv.cs (rvOf {x with de := true} g ba bc bh bm)) (sub := Cm.cs x.ch) (HF.out.box 0 _ _ _ rfl) (part_of (by kernel_rfl)) U28 rfl S28) <| uK (pV r 0) <| uK (pV r 37) <| ?_
             try simp only [pS]
             refine uT 28 ⟨r, 37, none⟩ (.agg (Cm.cells x.ch)) (wk17.setRow r (Rv.cells (rvOf {x with de := true, dc := x.ch} g ba bc bh bm))) (rs (Rv.cs (rvOf {x with de := true} g ba bc bh bm)) (Cm.cs x.ch) (Rv.cs (rvOf {x with de := true, dc := x.ch} g ba bc bh bm)) (HF.out.box 0 _ _ _ rfl) S28 (Cm.oneL _)) ?_
             try simp only [pS]
             have HG : Hid (OwI (wk17.setRow r (Rv.cells (rvOf {x with de := true, dc := x.ch} g ba bc bh bm))) 0 g x.zs) := HG.out.kept (Kept.setRow _ _ _) (fun k h e => (HG.out.own.notBox (HF.out.box 0 _ _ _ rfl) (by decide)) ((show k = r from e) ▸ h))
             have HF : Hid (Fq J w (wk17.setRow r (Rv.cells (rvOf {x with de := true, dc := x.ch} g ba bc bh bm))) [(r, 56, Rv.cells (rvOf {x with de := true, dc := x.ch} g ba bc bh bm)), (ba, 4, (boL ((x.qa).set i true)).toArray), (bc, 4, (boL ((x.qc).set i true)).toArray), (bh, 39, (spL (x.qh)).toArray), (bm, 28, (cmL (x.qm)).toArray), (gk1, 47, Mg.cells m)]) := HF.out.set 0 rfl _
             generalize wk17.setRow r (Rv.cells (rvOf {x with de := true, dc := x.ch} g ba bc bh bm)) = wk18 at HF HG ⊢
             refine WL.nil ?_
             try simp only [pS]
             go_upto_region 40 with fail
             refine WL.start <| uK (pV r 0) <| uK (pV r 0) <| uK (pV r 28) <| ?_
             try simp only [pS]
             refine uT 3 ⟨r, 28, none⟩ (.int .i64 3) (wk18.setRow r (Rv.cells (rvOf {x with ph := 3, de := true, dc := x.ch} g ba bc bh bm))) (rs (Rv.cs (rvOf {x with de := true, dc := x.ch} g ba bc bh bm)) ([.int .i64 3]) (Rv.cs (rvOf {x with ph := 3, de := true, dc := x.ch} g ba bc bh bm)) (HF.out.box 0 _ _ _ rfl) S3 (by simp [Value.oneCell', Sl.v])) ?_
             try simp only [pS]
             have HG : Hid (OwI (wk18.setRow r (Rv.cells (rvOf {x with ph := 3, de := true, dc := x.ch} g ba bc bh bm))) 0 g x.zs) := HG.out.kept (Kept.setRow _ _ _) (fun k h e => (HG.out.own.notBox (HF.out.box 0 _ _ _ rfl) (by decide)) ((show k = r from e) ▸ h))
             have HF : Hid (Fq J w (wk18.setRow r (Rv.cells (rvOf {x with ph := 3, de := true, dc := x.ch} g ba bc bh bm))) [(r, 56, Rv.cells (rvOf {x with ph := 3, de := true, dc := x.ch} g ba bc bh bm)), (ba, 4, (boL ((x.qa).set i true)).toArray), (bc, 4, (boL ((x.qc).set i true)).toArray), (bh, 39, (spL (x.qh)).toArray), (bm, 28, (cmL (x.qm)).toArray), (gk1, 47, Mg.cells m)]) := HF.out.set 0 rfl _
             generalize wk18.setRow r (Rv.cells (rvOf {x with ph := 3, de := true, dc := x.ch} g ba bc bh bm)) = wk19 at HF HG ⊢
             refine WL.nil ?_
             try simp only [pS]
             go_upto_region 41 with fail
             refine WL.start <| uK (.slice none 0 0) <| WL.nil <| ?_
             try simp only [pS]
             go_upto_region 42 with fail
             refine WL.start <| uK (.int .i64 0) <| WL.nil <| ?_
             try simp only [pS]
             go_wp2
             go_loopw [7, 8] (fun v7 v8 wr => ∃ (j : Nat) (sa : Option Addr) (sn sc : Nat), v7 = .slice sa sn sc ∧ v8 = .int .i64 ((j : Nat) : Int) ∧ j ≤ g.l ∧ sn ≤ j ∧ Hid (OwM wr w.heap.size ⟨sa, sn, sc⟩ (lrnK x j)) ∧ Hid (¬ At sa gk1) ∧ Hid (OwI wr 0 g x.zs) ∧ Hid (Fq J w wr [(r, 56, Rv.cells (rvOf {x with ph := 3, de := true, dc := x.ch} g ba bc bh bm)), (ba, 4, (boL ((x.qa).set i true)).toArray), (bc, 4, (boL ((x.qc).set i true)).toArray), (bh, 39, (spL (x.qh)).toArray), (bm, 28, (cmL (x.qm)).toArray), (gk1, 47, Mg.cells m)])) (fun _ i _ => g.l - (intOf i).toNat)
             case atStart => exact ⟨0, none, 0, 0, rfl, by go_num, by omega, by omega, OwM.nil _ _, At.none, HG, HF⟩
             case round =>
               clear HF HG
               obtain ⟨j, sa, sn, sc, rfl, rfl, hj, hsn, HO, HNA, HG, HF⟩ := hrel
               by_cases hltj : j < g.l
               · skip
                 obtain ⟨gb, hga, hgc⟩ := HG.out.at hltj
                 have hsl : g.v = .slice (some ⟨gb, 0, none⟩) g.l g.k := by unfold Sl.v; rw [hga]
                 obtain ⟨z, hz⟩ : ∃ z, z = x.zs[j]?.getD 0 := ⟨_, rfl⟩
                 rw [← hz] at hgc
                 have HGc : Hid (wr.cell? ⟨gb, 0 + j * 1, none⟩ = some (.int .i64 z)) := hgc
                 have HNf : Hid (lrnK x (j + 1) = lrnK x j ++ [lrnG x z]) := by show List.map _ _ = _; rw [Gt.take_snoc (by omega), List.map_append, ← hz]; rfl
                 clear hgc hz
                 go_upto_region 43 with fail
                 refine WL.start <| uK (.int .i64 ((j : Nat) : Int)) <| uK (pV r 0) <| uK (pV r 0) <| uK (pV r 6) <| uL 24 ⟨r, 6, none⟩ (g.v) (load_one ((HF.out.box 0 _ _ _ rfl).cell 6 |>.trans (by kernel_rfl)) U24 rfl) <| uK (.int .i64 ((g.l : Nat) : Int)) <| uB .lss 3 (.int .i64 ((j : Nat) : Int)) (.int .i64 ((g.l : Nat) : Int)) (.bool true) (by rw [b_lss, decide_eq_true (by omega)]) <| WL.nil <| ?_
                 try simp only [pS]
                 go_upto_region 45 with fail
                 refine wp_region_held_drew (S := fun w' => Box w' r 56 (Rv.cells (rvOf {x with ph := 3, de := true, dc := x.ch} g ba bc bh bm)) ∧ w'.cell? ⟨gb, 0 + j * 1, none⟩ = some (.int .i64 z)) rfl ⟨HF.out.box 0 _ _ _ rfl, HGc.out⟩ (fun hH => ?_)
                 have HGc : Hid ((wr.drew).cell? ⟨gb, 0 + j * 1, none⟩ = some (.int .i64 z)) := HGc.out
                 have HG : Hid (OwI (wr.drew) 0 g x.zs) := HG.out.no (Kept.refl No _).drew
                 have HO : Hid (OwM (wr.drew) w.heap.size ⟨sa, sn, sc⟩ (lrnK x j)) := HO.out.no (Kept.refl No _).drew
                 have HF : Hid (Fq J w (wr.drew) [(r, 56, Rv.cells (rvOf {x with ph := 3, de := true, dc := x.ch} g ba bc bh bm)), (ba, 4, (boL ((x.qa).set i true)).toArray), (bc, 4, (boL ((x.qc).set i true)).toArray), (bh, 39, (spL (x.qh)).toArray), (bm, 28, (cmL (x.qm)).toArray), (gk1, 47, Mg.cells m)]) := HF.out.drew
                 generalize wr.drew = wk20 at HF HGc HG HO hH ⊢
                 refine xV 0 198 (.slice sa sn sc) hH <| xV 1 199 (pV r 0) hH <| xV 2 200 (pV r 0) hH <| xV 3 201 (pV r 0) hH <| xL 4 202 3 ⟨r, 0, none⟩ (.int .i64 x.cl) (fun _ hw => load_one ((hw.1).cell 0 |>.trans (by kernel_rfl)) U3 rfl) hH <| xU 5 203 (.agg (Ad.cells ⟨true, x.cl⟩)) (fun w' hw => exec_build 37 _ rfl (Ad.cells ⟨true, x.cl⟩) (by kernel_rfl)) hH <| ?_
                 try simp only [pS]
                 refine xV 6 204 (pV r 0) hH <| xV 7 205 (pV r 0) hH <| xV 8 206 (pV r 6) hH <| xL 9 207 24 ⟨r, 6, none⟩ g.v (fun _ hw => load_one ((hw.1).cell 6 |>.trans (by kernel_rfl)) U24 rfl) hH <| xV 10 208 (.int .i64 ((j : Nat) : Int)) hH <| xU 11 209 (pV gb (0 + j * 1)) (fun w' hw => exec_ixA 24 1 E24 F24 _ _ rfl gb 0 g.l g.k j (Eq.trans (b := g.v) (by kernel_rfl) hsl) (by kernel_rfl) (by omega)) hH <| ?_
                 try simp only [pS]
                 refine xL 12 210 3 ⟨gb, 0 + j * 1, none⟩ (.int .i64 z) (fun _ hw => load_one (hw.2) U3 rfl) hH <| xU 13 211 (.agg (Ad.cells ⟨false, z⟩)) (fun w' hw => exec_build 37 _ rfl (Ad.cells ⟨false, z⟩) (by kernel_rfl)) hH <| xV 14 212 (pV r 0) hH <| xV 15 213 (pV r 0) hH <| xV 16 214 (pV r 1) hH <| xL 17 215 3 ⟨r, 1, none⟩ (.int .i64 x.op) (fun _ hw => load_one ((hw.1).cell 1 |>.trans (by kernel_rfl)) U3 rfl) hH <| ?_
                 try simp only [pS]
                 refine xV 18 216 (pV r 0) hH <| xV 19 217 (pV r 0) hH <| xV 20 218 (pV r 26) hH <| xL 21 219 3 ⟨r, 26, none⟩ (.int .i64 x.rd) (fun _ hw => load_one ((hw.1).cell 26 |>.trans (by kernel_rfl)) U3 rfl) hH <| xV 22 220 (pV r 0) hH <| xV 23 221 (pV r 0) hH <| ?_
                 try simp only [pS]
                 refine xV 24 222 (pV r 2) hH <| xL 25 223 23 ⟨r, 2, none⟩ (.agg (Ky.cells x.ky)) (fun _ hw => run_load_part (cs := Rv.cs (rvOf {x with ph := 3, de := true, dc := x.ch} g ba bc bh bm)) (sub := Ky.cs x.ky) (hw.1) (part_of (by kernel_rfl)) U23 rfl S23) hH <| xV 26 224 (pV r 0) hH <| xV 27 225 (pV r 0) hH <| xV 28 226 (pV r 16) hH <| xL 29 227 28 ⟨r, 16, none⟩ (.agg (Cm.cells x.ch)) (fun _ hw => run_load_part (cs := Rv.cs (rvOf {x with ph := 3, de := true, dc := x.ch} g ba bc bh bm)) (sub := Cm.cs x.ch) (hw.1) (part_of (by kernel_rfl)) U28 rfl S28) hH <| ?_
                 try simp only [pS]
                 refine xU 30 228 (.agg (Mg.cells ⟨5, ⟨true, x.cl⟩, ⟨false, z⟩, x.op, x.rd, x.ky, spZ, spZ, slZ, x.ch, bvZ, slZ, false⟩)) (fun w' hw => exec_build 47 _ rfl (Mg.cells ⟨5, ⟨true, x.cl⟩, ⟨false, z⟩, x.op, x.rd, x.ky, spZ, spZ, slZ, x.ch, bvZ, slZ, false⟩) (by kernel_rfl)) hH ?_
                 try simp only [pS]
                 refine any_step (i := 31) (o := { dst := some 229, op := Op.buildSlice 66 1 #[(0, Operand.tmp 228)], type := 66, pos := "ref.go:175", after := #[{ on := 30, ground := Ground.data }], guard := none }) rfl (by kernel_rfl) (by kernel_rfl) (exec_slice2 66 47 _ rfl (Mg.cells ⟨5, ⟨true, x.cl⟩, ⟨false, z⟩, x.op, x.rd, x.ky, spZ, spZ, slZ, x.ch, bvZ, slZ, false⟩) (.agg (Mg.cells ⟨5, ⟨true, x.cl⟩, ⟨false, z⟩, x.op, x.rd, x.ky, spZ, spZ, slZ, x.ch, bvZ, slZ, false⟩)) (by kernel_rfl) (by kernel_rfl)) (⟨hH.1.alloc _, ((Kept.refl No _).alloc _).cell hH.2 (fun e => e)⟩) (fun hH => ?_)
                 try simp only [pS]
                 have HG : Hid (OwI (wk20.alloc (.cells (Mg.cells ⟨5, ⟨true, x.cl⟩, ⟨false, z⟩, x.op, x.rd, x.ky, spZ, spZ, slZ, x.ch, bvZ, slZ, false⟩) 47)) 0 g x.zs) := HG.out.no ((Kept.refl No _).alloc _)
                 have HO : Hid (OwM (wk20.alloc (.cells (Mg.cells ⟨5, ⟨true, x.cl⟩, ⟨false, z⟩, x.op, x.rd, x.ky, spZ, spZ, slZ, x.ch, bvZ, slZ, false⟩) 47)) w.heap.size ⟨sa, sn, sc⟩ (lrnK x j)) := HO.out.no ((Kept.refl No _).alloc _)
                 have HF : Hid (Fq J w (wk20.alloc (.cells (Mg.cells ⟨5, ⟨true, x.cl⟩, ⟨false, z⟩, x.op, x.rd, x.ky, spZ, spZ, slZ, x.ch, bvZ, slZ, false⟩) 47)) [(r, 56, Rv.cells (rvOf {x with ph := 3, de := true, dc := x.ch} g ba bc bh bm)), (ba, 4, (boL ((x.qa).set i true)).toArray), (bc, 4, (boL ((x.qc).set i true)).toArray), (bh, 39, (spL (x.qh)).toArray), (bm, 28, (cmL (x.qm)).toArray), (gk1, 47, Mg.cells m), (wk20.heap.size, 47, Mg.cells ⟨5, ⟨true, x.cl⟩, ⟨false, z⟩, x.op, x.rd, x.ky, spZ, spZ, slZ, x.ch, bvZ, slZ, false⟩)]) := HF.out.alloc _ _
                 generalize wk20.alloc (.cells (Mg.cells ⟨5, ⟨true, x.cl⟩, ⟨false, z⟩, x.op, x.rd, x.ky, spZ, spZ, slZ, x.ch, bvZ, slZ, false⟩) 47) = wk22 at HF HG HO hH ⊢
                 generalize wk20.heap.size = gk21 at HF ⊢
                 obtain ⟨sa2, cap2, w2, hrun, hown, hk2, hat2⟩ := run_appN (w := wk22) 66 66 47 30 312 (.agg mgZ.cells) U66 I47 rfl (by omega) w.heap.size sn sc sa (mgL (lrnK x j)) HO.out.own (some ⟨gk21, 0, none⟩) 1 1 (Mg.cs ⟨5, ⟨true, x.cl⟩, ⟨false, z⟩, x.op, x.rd, x.ky, spZ, spZ, slZ, x.ch, bvZ, slZ, false⟩) rfl (fun e => by cases e) (fun j u hj => ⟨_, rfl, by rw [addr_add, Nat.zero_add, (HF.out.box 6 _ _ _ rfl).cell]; simpa [Mg.cells] using hj⟩) (Mg.oneL _) (by omega) (by omega) (by have := HF.out.kept.size; omega)
                 have HO2 : Hid (OwM w2 w.heap.size ⟨sa2, sn + 1, cap2⟩ (lrnK x (j + 1))) := ⟨by rw [HNf.out, mgL_app, mgL_1]; exact hown, by rw [HNf.out]; simpa using HO.out.len⟩
                 have HF0 : Hid (Fq J w w2 [(r, 56, Rv.cells (rvOf {x with ph := 3, de := true, dc := x.ch} g ba bc bh bm)), (ba, 4, (boL ((x.qa).set i true)).toArray), (bc, 4, (boL ((x.qc).set i true)).toArray), (bh, 39, (spL (x.qh)).toArray), (bm, 28, (cmL (x.qm)).toArray), (gk1, 47, Mg.cells m)]) := (show Fq J w wk22 ([(r, 56, Rv.cells (rvOf {x with ph := 3, de := true, dc := x.ch} g ba bc bh bm)), (ba, 4, (boL ((x.qa).set i true)).toArray), (bc, 4, (boL ((x.qc).set i true)).toArray), (bh, 39, (spL (x.qh)).toArray), (bm, 28, (cmL (x.qm)).toArray), (gk1, 47, Mg.cells m)] ++ [(gk21, 47, Mg.cells ⟨5, ⟨true, x.cl⟩, ⟨false, z⟩, x.op, x.rd, x.ky, spZ, spZ, slZ, x.ch, bvZ, slZ, false⟩)]) from HF.out).front.app2 HO.out.own hk2 (by simp [HNA.out])
                 have HNA2 : Hid (¬ At sa2 gk1) := show ¬ At sa2 gk1 from fun e => (hat2 _ e).elim HNA.out (fun e2 => by have := (HF.out.box 5 _ _ _ rfl).lt; omega)
                 have HG2 : Hid (OwI w2 0 g x.zs) := HG.out.kept hk2 (fun k h e => HG.out.own.apart HO.out.own (by decide) h e)
                 have hc2 : w2.cell? ⟨gb, 0 + j * 1, none⟩ = some (.int .i64 z) := hk2.cell hH.2 (fun e => HG.out.own.apart HO.out.own (by decide) ⟨_, hga, rfl⟩ e)
                 have hb2 : Box w2 r 56 (Rv.cells (rvOf {x with ph := 3, de := true, dc := x.ch} g ba bc bh bm)) := HF0.out.box 0 _ _ _ rfl
                 refine xP 32 230 (.slice sa2 (sn + 1) cap2) (w' := w2) (exec_appN _ _ 66 66 rfl _ _ (by kernel_rfl) (by kernel_rfl) hrun) ⟨hb2, hc2⟩ (fun hH => ?_)
                 try simp only [pS]
                 clear hown hk2 hat2 hrun hc2 hb2
                 refine xV 33 7 (.slice sa2 (sn + 1) cap2) hH ?_
                 try simp only [pS]
                 refine wpAnyH_done (by kernel_rfl) ?_ _
                 try simp only [pS]
                 clear hH
                 have HF := HF0
                 have HG := HG2
                 go_upto_region 44 with fail
                 refine WL.start <| uK (.int .i64 ((j : Nat) : Int)) <| uB .add 3 (.int .i64 ((j : Nat) : Int)) (.int .i64 1) (.int .i64 (((j + 1) : Nat) : Int)) (b_addw _ _ _ (by rw [IntKind.wrap_i64]; omega) _) <| uK (.int .i64 (((j + 1) : Nat) : Int)) <| WL.nil <| ?_
                 try simp only [pS]
                 go_wp2
                 go_roundw
                 case rel => exact ⟨j + 1, sa2, sn + 1, cap2, rfl, by go_num, by omega, by omega, HO2, HNA2, HG2, HF0⟩
                 case measure => simp [intOf]; omega
               · skip
                 go_upto_region 43 with fail
                 refine WL.start <| uK (.int .i64 ((j : Nat) : Int)) <| uK (pV r 0) <| uK (pV r 0) <| uK (pV r 6) <| uL 24 ⟨r, 6, none⟩ (g.v) (load_one ((HF.out.box 0 _ _ _ rfl).cell 6 |>.trans (by kernel_rfl)) U24 rfl) <| uK (.int .i64 ((g.l : Nat) : Int)) <| uB .lss 3 (.int .i64 ((j : Nat) : Int)) (.int .i64 ((g.l : Nat) : Int)) (.bool false) (by rw [b_lss, decide_eq_false (by omega)]) <| WL.nil <| ?_
                 try simp only [pS]
                 go_upto_region 46 with fail
                 refine WL.start <| uK (.slice sa sn sc) <| uK (.slice sa sn sc) <| WL.nil <| ?_
                 try simp only [pS]
                 go_wp2
                 rw [HC.out, HT2.out]
                 exact ⟨⟨sa, sn, sc⟩, rfl, by rw [hzl, show g.l = j by omega]; exact HO.out, RfB.mk2 (x := { accR x i with de := true, dc := x.ch, ph := 3 }) (g := g) (ba := ba) (bc := bc) (bh := bh) (bm := bm) (Fq.front (m := [(gk1, 47, Mg.cells m)]) HF.out) HG.out HJ.out (by first | exact hla | simp [prmR, accR, hla]) (by first | exact hlc | simp [prmR, accR, hlc]) (by first | exact hlh | simp [prmR, accR, hlh]) (by first | exact hlm | simp [prmR, accR, hlm]) hnn, HF.out.kept⟩
            ·skip
             refine uB .lss 3 (.int .i64 ((cntB (x.qc.set i true) : Nat) : Int)) (.int .i64 ((x.zs.length / 2 + 1 : Nat) : Int)) (.bool true) (by rw [b_lss, q20]; try rfl) <| WL.nil <| ?_
             try simp only [pS]
             go_upto_region 37 with fail
             refine WL.start <| uK (.slice none 0 0) <| WL.nil <| ?_
             try simp only [pS]
             go_wp2
             rw [HC.out]
             have hx : takeR x m = (accR x i, []) := by rw [HT.out, if_pos (by have := of_decide_eq_true q20; omega)]
             rw [hx]
             exact ⟨slZ, rfl, OwM.nil _ _, RfB.mk2 (x := accR x i) (g := g) (ba := ba) (bc := bc) (bh := bh) (bm := bm) (Fq.front (m := [(gk1, 47, Mg.cells m)]) HF.out) HG.out HJ.out (by first | exact hla | simp [prmR, accR, hla]) (by first | exact hlc | simp [prmR, accR, hlc]) (by first | exact hlh | simp [prmR, accR, hlh]) (by first | exact hlm | simp [prmR, accR, hlm]) hnn, HF.out.kept⟩
         ·skip
          refine uB .eql 3 (.int .i64 m.k) (.int .i64 13) (.bool true) (by rw [b_eql, q17]; try rfl) <| uK (.bool true) <| uK (.bool true) <| uK (.bool true) <| uK (.bool true) <| uK (pV r 0) <| uK (pV r 0) <| uK (pV r 28) <| ?_
          try simp only [pS]
          refine uL 3 ⟨r, 28, none⟩ (.int .i64 x.ph) (load_one ((HF.out.box 0 _ _ _ rfl).cell 28 |>.trans (by kernel_rfl)) U3 rfl) ?_
          try simp only [pS]
          cases q21 : (x.ph == 1)
          ·skip
           refine uB .eql 3 (.int .i64 x.ph) (.int .i64 1) (.bool false) (by rw [b_eql, q21]; try rfl) <| uK (.bool false) <| WL.nil <| ?_
           try simp only [pS]
           go_upto_region 33 with fail
           refine WL.start <| uK (pV gk1 0) <| uL 3 ⟨gk1, 0, none⟩ (.int .i64 m.k) (load_one ((HF.out.box 5 _ _ _ rfl).cell 0 |>.trans (by kernel_rfl)) U3 rfl) <| ?_
           try simp only [pS]
           cases q22 : (m.k == 15)
           ·skip
            refine uB .eql 3 (.int .i64 m.k) (.int .i64 15) (.bool false) (by rw [b_eql, q22]; try rfl) <| uK (.bool false) <| uZ <| uK (.bool false) <| uK (.bool false) <| uZ <| uZ <| uZ <| ?_
            try simp only [pS]
            refine uZ <| uZ <| uK (.bool false) <| WL.nil <| ?_
            try simp only [pS]
            go_upto_region 47 with fail
            refine WL.start <| uK (.slice none 0 0) <| WL.nil <| ?_
            try simp only [pS]
            go_wp2
            rw [HC.out]
            have hx : takeR x m = (x, []) := by rw [HT.out]; unfold tk2R; simp [q4, q10, q16, q17, q21, q22]
            rw [hx]
            exact ⟨slZ, rfl, OwM.nil _ _, RfB.mk2 (x := x) (g := g) (ba := ba) (bc := bc) (bh := bh) (bm := bm) (Fq.front (m := [(gk1, 47, Mg.cells m)]) HF.out) HG.out HJ.out (by first | exact hla | simp [prmR, accR, hla]) (by first | exact hlc | simp [prmR, accR, hlc]) (by first | exact hlh | simp [prmR, accR, hlh]) (by first | exact hlm | simp [prmR, accR, hlm]) hnn, HF.out.kept⟩
           ·skip
            refine uB .eql 3 (.int .i64 m.k) (.int .i64 15) (.bool true) (by rw [b_eql, q22]; try rfl) <| uK (.bool true) <| uK (.bool true) <| uK (.bool true) <| uK (.bool true) <| uK (pV r 0) <| uK (pV r 0) <| uK (pV r 28) <| ?_
            try simp only [pS]
            refine uL 3 ⟨r, 28, none⟩ (.int .i64 x.ph) (load_one ((HF.out.box 0 _ _ _ rfl).cell 28 |>.trans (by kernel_rfl)) U3 rfl) ?_
            try simp only [pS]
            cases q23 : (x.ph == 2)
            ·skip
             refine uB .eql 3 (.int .i64 x.ph) (.int .i64 2) (.bool false) (by rw [b_eql, q23]; try rfl) <| uK (.bool false) <| WL.nil <| ?_
             try simp only [pS]
             go_upto_region 47 with fail
             refine WL.start <| uK (.slice none 0 0) <| WL.nil <| ?_
             try simp only [pS]
             go_wp2
             rw [HC.out]
             have hx : takeR x m = (x, []) := by rw [HT.out]; unfold tk2R; simp [q4, q10, q16, q17, q21, q22, q23]
             rw [hx]
             exact ⟨slZ, rfl, OwM.nil _ _, RfB.mk2 (x := x) (g := g) (ba := ba) (bc := bc) (bh := bh) (bm := bm) (Fq.front (m := [(gk1, 47, Mg.cells m)]) HF.out) HG.out HJ.out (by first | exact hla | simp [prmR, accR, hla]) (by first | exact hlc | simp [prmR, accR, hlc]) (by first | exact hlh | simp [prmR, accR, hlh]) (by first | exact hlm | simp [prmR, accR, hlm]) hnn, HF.out.kept⟩
            ·skip
             refine uB .eql 3 (.int .i64 x.ph) (.int .i64 2) (.bool true) (by rw [b_eql, q23]; try rfl) <| uK (.bool true) <| WL.nil <| ?_
             try simp only [pS]
             have HT : Hid (takeR x m = if cntB (x.qc.set i true) < x.zs.length / 2 + 1 then (accR x i, []) else ({ accR x i with de := true, dc := x.ch, ph := 3 }, lrnK x x.zs.length)) := by show _ = _; rw [HT.out]; unfold tk2R; simp [q4, q10, q16, q17, q21, q22, q23]
             clear q4 q10 q16 q17 q21 q22 q23
             go_upto_region 34 with fail
             refine WL.start <| uK (pV r 0) <| uK (pV r 0) <| uK (pV r 29) <| uL 53 ⟨r, 29, none⟩ (.slice (some ⟨ba, 0, none⟩) g.l g.l) (load_one ((HF.out.box 0 _ _ _ rfl).cell 29 |>.trans (by kernel_rfl)) U53 rfl) <| uK (.int .i64 ((i : Nat) : Int)) <| uW (pV ba (0 + i * 1)) (exec_ixA 53 1 E53 F53 _ _ rfl ba 0 g.l g.l i (by kernel_rfl) (by kernel_rfl) (by omega)) <| ?_
             try simp only [pS]
             refine uT 4 ⟨ba, 0 + i * 1, none⟩ (.bool true) (wk4.setRow ba ((boL ((x.qa).set i true)).toArray)) (st_bo true (HF.out.box 1 _ _ _ rfl) (by first | omega | (simp; omega))) ?_
             try simp only [pS]
             have HG : Hid (OwI (wk4.setRow ba ((boL ((x.qa).set i true)).toArray)) 0 g x.zs) := HG.out.kept (Kept.setRow _ _ _) (fun k h e => (HG.out.own.notBox (HF.out.box 1 _ _ _ rfl) (by decide)) ((show k = ba from e) ▸ h))
             have HF : Hid (Fq J w (wk4.setRow ba ((boL ((x.qa).set i true)).toArray)) [(r, 56, Rv.cells (rvOf x g ba bc bh bm)), (ba, 4, (boL ((x.qa).set i true)).toArray), (bc, 4, (boL (x.qc)).toArray), (bh, 39, (spL (x.qh)).toArray), (bm, 28, (cmL (x.qm)).toArray), (gk1, 47, Mg.cells m)]) := HF.out.set 1 rfl _
             generalize wk4.setRow ba ((boL ((x.qa).set i true)).toArray) = wk23 at HF HG ⊢
             refine WL.nil ?_
             try simp only [pS]
             go_upto_region 35 with fail
             refine WL.start <| uK (pV r 0) <| uK (pV r 0) <| uK (pV r 30) <| uL 53 ⟨r, 30, none⟩ (.slice (some ⟨bc, 0, none⟩) g.l g.l) (load_one ((HF.out.box 0 _ _ _ rfl).cell 30 |>.trans (by kernel_rfl)) U53 rfl) <| uK (.int .i64 ((i : Nat) : Int)) <| uW (pV bc (0 + i * 1)) (exec_ixA 53 1 E53 F53 _ _ rfl bc 0 g.l g.l i (by kernel_rfl) (by kernel_rfl) (by omega)) <| ?_
             try simp only [pS]
             refine uT 4 ⟨bc, 0 + i * 1, none⟩ (.bool true) (wk23.setRow bc ((boL ((x.qc).set i true)).toArray)) (st_bo true (HF.out.box 2 _ _ _ rfl) (by first | omega | (simp; omega))) ?_
             try simp only [pS]
             have HG : Hid (OwI (wk23.setRow bc ((boL ((x.qc).set i true)).toArray)) 0 g x.zs) := HG.out.kept (Kept.setRow _ _ _) (fun k h e => (HG.out.own.notBox (HF.out.box 2 _ _ _ rfl) (by decide)) ((show k = bc from e) ▸ h))
             have HF : Hid (Fq J w (wk23.setRow bc ((boL ((x.qc).set i true)).toArray)) [(r, 56, Rv.cells (rvOf x g ba bc bh bm)), (ba, 4, (boL ((x.qa).set i true)).toArray), (bc, 4, (boL ((x.qc).set i true)).toArray), (bh, 39, (spL (x.qh)).toArray), (bm, 28, (cmL (x.qm)).toArray), (gk1, 47, Mg.cells m)]) := HF.out.set 2 rfl _
             generalize wk23.setRow bc ((boL ((x.qc).set i true)).toArray) = wk24 at HF HG ⊢
             refine WL.nil ?_
             try simp only [pS]
             go_upto_region 36 with fail
             refine WL.start <| uK (pV r 0) <| ?_
             try simp only [pS]
             refine uC 64 #[pV r 0] (count_at (RfB.mk2 (x := accR x i) (g := g) (ba := ba) (bc := bc) (bh := bh) (bm := bm) (Fq.front (m := [(gk1, 47, Mg.cells m)]) HF.out) HG.out HJ.out (by first | exact hla | simp [prmR, accR, hla]) (by first | exact hlc | simp [prmR, accR, hlc]) (by first | exact hlh | simp [prmR, accR, hlh]) (by first | exact hlm | simp [prmR, accR, hlm]) hnn)) ?_
             rintro e wk25 ⟨rfl, hk⟩
             have HG : Hid (OwI (wk25) 0 g x.zs) := HG.out.no hk
             have HF : Hid (Fq J w (wk25) [(r, 56, Rv.cells (rvOf x g ba bc bh bm)), (ba, 4, (boL ((x.qa).set i true)).toArray), (bc, 4, (boL ((x.qc).set i true)).toArray), (bh, 39, (spL (x.qh)).toArray), (bm, 28, (cmL (x.qm)).toArray), (gk1, 47, Mg.cells m)]) := HF.out.no hk
             clear hk
             refine ⟨.int .i64 ((cntB (x.qc.set i true) : Nat) : Int), rfl, ?_⟩
             try simp only [pS]
             refine uK (pV r 0) ?_
             try simp only [pS]
             refine uC 65 #[pV r 0] (need_at (RfB.mk2 (x := accR x i) (g := g) (ba := ba) (bc := bc) (bh := bh) (bm := bm) (Fq.front (m := [(gk1, 47, Mg.cells m)]) HF.out) HG.out HJ.out (by first | exact hla | simp [prmR, accR, hla]) (by first | exact hlc | simp [prmR, accR, hlc]) (by first | exact hlh | simp [prmR, accR, hlh]) (by first | exact hlm | simp [prmR, accR, hlm]) hnn)) ?_
             rintro e wk26 ⟨rfl, hk⟩
             have HG : Hid (OwI (wk26) 0 g x.zs) := HG.out.no hk
             have HF : Hid (Fq J w (wk26) [(r, 56, Rv.cells (rvOf x g ba bc bh bm)), (ba, 4, (boL ((x.qa).set i true)).toArray), (bc, 4, (boL ((x.qc).set i true)).toArray), (bh, 39, (spL (x.qh)).toArray), (bm, 28, (cmL (x.qm)).toArray), (gk1, 47, Mg.cells m)]) := HF.out.no hk
             clear hk
             refine ⟨.int .i64 ((x.zs.length / 2 + 1 : Nat) : Int), rfl, ?_⟩
             try simp only [pS]
             cases q24 : (decide (((cntB (x.qc.set i true) : Nat) : Int) < ((x.zs.length / 2 + 1 : Nat) : Int)))
             ·skip
              refine uB .lss 3 (.int .i64 ((cntB (x.qc.set i true) : Nat) : Int)) (.int .i64 ((x.zs.length / 2 + 1 : Nat) : Int)) (.bool false) (by rw [b_lss, q24]; try rfl) <| WL.nil <| ?_
              try simp only [pS]
              have HT2 : Hid (takeR x m = ({ accR x i with de := true, dc := x.ch, ph := 3 }, lrnK x x.zs.length)) := by show _ = _; rw [HT.out, if_neg (by have := of_decide_eq_false q24; omega)]
              clear q24
              go_upto_region 38 with fail
              refine WL.start <| uK (pV r 0) <| uK (pV r 0) <| uK (pV r 34) <| ?_
              try simp only [pS]
              refine uT 4 ⟨r, 34, none⟩ (.bool true) (wk26.setRow r (Rv.cells (rvOf {x with de := true} g ba bc bh bm))) (rs (Rv.cs (rvOf x g ba bc bh bm)) ([.bool true]) (Rv.cs (rvOf {x with de := true} g ba bc bh bm)) (HF.out.box 0 _ _ _ rfl) S4 (by simp [Value.oneCell', Sl.v])) ?_
              try simp only [pS]
              have HG : Hid (OwI (wk26.setRow r (Rv.cells (rvOf {x with de := true} g ba bc bh bm))) 0 g x.zs) := HG.out.kept (Kept.setRow _ _ _) (fun k h e => (HG.out.own.notBox (HF.out.box 0 _ _ _ rfl) (by decide)) ((show k = r from e) ▸ h))
              have HF : Hid (Fq J w (wk26.setRow r (Rv.cells (rvOf {x with de := true} g ba bc bh bm))) [(r, 56, Rv.cells (rvOf {x with de := true} g ba bc bh bm)), (ba, 4, (boL ((x.qa).set i true)).toArray), (bc, 4, (boL ((x.qc).set i true)).toArray), (bh, 39, (spL (x.qh)).toArray), (bm, 28, (cmL (x.qm)).toArray), (gk1, 47, Mg.cells m)]) := HF.out.set 0 rfl _
              generalize wk26.setRow r (Rv.cells (rvOf {x with de := true} g ba bc bh bm)) = wk27 at HF HG ⊢
              refine WL.nil ?_
              try simp only [pS]
              go_upto_region 39 with fail
              refine WL.start <| uK (pV r 0) <| uK (pV r 0) <| uK (pV r 0) <| uK (pV r 16) <| uL 28 ⟨r, 16, none⟩ (.agg (Cm.cells x.ch)) (run_load_part (cs := Rv.cs (rvOf {x with de := true} g ba bc bh bm)) (sub := Cm.cs x.ch) (HF.out.box 0 _ _ _ rfl) (part_of (by kernel_rfl)) U28 rfl S28) <| uK (pV r 0) <| uK (pV r 37) <| ?_
              try simp only [pS]
              refine uT 28 ⟨r, 37, none⟩ (.agg (Cm.cells x.ch)) (wk27.setRow r (Rv.cells (rvOf {x with de := true, dc := x.ch} g ba bc bh bm))) (rs (Rv.cs (rvOf {x with de := true} g ba bc bh bm)) (Cm.cs x.ch) (Rv.cs (rvOf {x with de := true, dc := x.ch} g ba bc bh bm)) (HF.out.box 0 _ _ _ rfl) S28 (Cm.oneL _)) ?_
              try simp only [pS]
              have HG : Hid (OwI (wk27.setRow r (Rv.cells (rvOf {x with de := true, dc := x.ch} g ba bc bh bm))) 0 g x.zs) := HG.out.kept (Kept.setRow _ _ _) (fun k h e => (HG.out.own.notBox (HF.out.box 0 _ _ _ rfl) (by decide)) ((show k = r from e) ▸ h))
              have HF : Hid (Fq J w (wk27.setRow r (Rv.cells (rvOf {x with de := true, dc := x.ch} g ba bc bh bm))) [(r, 56, Rv.cells (rvOf {x with de := true, dc := x.ch} g ba bc bh bm)), (ba, 4, (boL ((x.qa).set i true)).toArray), (bc, 4, (boL ((x.qc).set i true)).toArray), (bh, 39, (spL (x.qh)).toArray), (bm, 28, (cmL (x.qm)).toArray), (gk1, 47, Mg.cells m)]) := HF.out.set 0 rfl _
              generalize wk27.setRow r (Rv.cells (rvOf {x with de := true, dc := x.ch} g ba bc bh bm)) = wk28 at HF HG ⊢
              refine WL.nil ?_
              try simp only [pS]
              go_upto_region 40 with fail
              refine WL.start <| uK (pV r 0) <| uK (pV r 0) <| uK (pV r 28) <| ?_
              try simp only [pS]
              refine uT 3 ⟨r, 28, none⟩ (.int .i64 3) (wk28.setRow r (Rv.cells (rvOf {x with ph := 3, de := true, dc := x.ch} g ba bc bh bm))) (rs (Rv.cs (rvOf {x with de := true, dc := x.ch} g ba bc bh bm)) ([.int .i64 3]) (Rv.cs (rvOf {x with ph := 3, de := true, dc := x.ch} g ba bc bh bm)) (HF.out.box 0 _ _ _ rfl) S3 (by simp [Value.oneCell', Sl.v])) ?_
              try simp only [pS]
              have HG : Hid (OwI (wk28.setRow r (Rv.cells (rvOf {x with ph := 3, de := true, dc := x.ch} g ba bc bh bm))) 0 g x.zs) := HG.out.kept (Kept.setRow _ _ _) (fun k h e => (HG.out.own.notBox (HF.out.box 0 _ _ _ rfl) (by decide)) ((show k = r from e) ▸ h))
              have HF : Hid (Fq J w (wk28.setRow r (Rv.cells (rvOf {x with ph := 3, de := true, dc := x.ch} g ba bc bh bm))) [(r, 56, Rv.cells (rvOf {x with ph := 3, de := true, dc := x.ch} g ba bc bh bm)), (ba, 4, (boL ((x.qa).set i true)).toArray), (bc, 4, (boL ((x.qc).set i true)).toArray), (bh, 39, (spL (x.qh)).toArray), (bm, 28, (cmL (x.qm)).toArray), (gk1, 47, Mg.cells m)]) := HF.out.set 0 rfl _
              generalize wk28.setRow r (Rv.cells (rvOf {x with ph := 3, de := true, dc := x.ch} g ba bc bh bm)) = wk29 at HF HG ⊢
              refine WL.nil ?_
              try simp only [pS]
              go_upto_region 41 with fail
              refine WL.start <| uK (.slice none 0 0) <| WL.nil <| ?_
              try simp only [pS]
              go_upto_region 42 with fail
              refine WL.start <| uK (.int .i64 0) <| WL.nil <| ?_
              try simp only [pS]
              go_wp2
              go_loopw [7, 8] (fun v7 v8 wr => ∃ (j : Nat) (sa : Option Addr) (sn sc : Nat), v7 = .slice sa sn sc ∧ v8 = .int .i64 ((j : Nat) : Int) ∧ j ≤ g.l ∧ sn ≤ j ∧ Hid (OwM wr w.heap.size ⟨sa, sn, sc⟩ (lrnK x j)) ∧ Hid (¬ At sa gk1) ∧ Hid (OwI wr 0 g x.zs) ∧ Hid (Fq J w wr [(r, 56, Rv.cells (rvOf {x with ph := 3, de := true, dc := x.ch} g ba bc bh bm)), (ba, 4, (boL ((x.qa).set i true)).toArray), (bc, 4, (boL ((x.qc).set i true)).toArray), (bh, 39, (spL (x.qh)).toArray), (bm, 28, (cmL (x.qm)).toArray), (gk1, 47, Mg.cells m)])) (fun _ i _ => g.l - (intOf i).toNat)
              case atStart => exact ⟨0, none, 0, 0, rfl, by go_num, by omega, by omega, OwM.nil _ _, At.none, HG, HF⟩
              case round =>
                clear HF HG
                obtain ⟨j, sa, sn, sc, rfl, rfl, hj, hsn, HO, HNA, HG, HF⟩ := hrel
                by_cases hltj : j < g.l
                · skip
                  obtain ⟨gb, hga, hgc⟩ := HG.out.at hltj
                  have hsl : g.v = .slice (some ⟨gb, 0, none⟩) g.l g.k := by unfold Sl.v; rw [hga]
                  obtain ⟨z, hz⟩ : ∃ z, z = x.zs[j]?.getD 0 := ⟨_, rfl⟩
                  rw [← hz] at hgc
                  have HGc : Hid (wr.cell? ⟨gb, 0 + j * 1, none⟩ = some (.int .i64 z)) := hgc
                  have HNf : Hid (lrnK x (j + 1) = lrnK x j ++ [lrnG x z]) := by show List.map _ _ = _; rw [Gt.take_snoc (by omega), List.map_append, ← hz]; rfl
                  clear hgc hz
                  go_upto_region 43 with fail
                  refine WL.start <| uK (.int .i64 ((j : Nat) : Int)) <| uK (pV r 0) <| uK (pV r 0) <| uK (pV r 6) <| uL 24 ⟨r, 6, none⟩ (g.v) (load_one ((HF.out.box 0 _ _ _ rfl).cell 6 |>.trans (by kernel_rfl)) U24 rfl) <| uK (.int .i64 ((g.l : Nat) : Int)) <| uB .lss 3 (.int .i64 ((j : Nat) : Int)) (.int .i64 ((g.l : Nat) : Int)) (.bool true) (by rw [b_lss, decide_eq_true (by omega)]) <| WL.nil <| ?_
                  try simp only [pS]
                  go_upto_region 45 with fail
                  refine wp_region_held_drew (S := fun w' => Box w' r 56 (Rv.cells (rvOf {x with ph := 3, de := true, dc := x.ch} g ba bc bh bm)) ∧ w'.cell? ⟨gb, 0 + j * 1, none⟩ = some (.int .i64 z)) rfl ⟨HF.out.box 0 _ _ _ rfl, HGc.out⟩ (fun hH => ?_)
                  have HGc : Hid ((wr.drew).cell? ⟨gb, 0 + j * 1, none⟩ = some (.int .i64 z)) := HGc.out
                  have HG : Hid (OwI (wr.drew) 0 g x.zs) := HG.out.no (Kept.refl No _).drew
                  have HO : Hid (OwM (wr.drew) w.heap.size ⟨sa, sn, sc⟩ (lrnK x j)) := HO.out.no (Kept.refl No _).drew
                  have HF : Hid (Fq J w (wr.drew) [(r, 56, Rv.cells (rvOf {x with ph := 3, de := true, dc := x.ch} g ba bc bh bm)), (ba, 4, (boL ((x.qa).set i true)).toArray), (bc, 4, (boL ((x.qc).set i true)).toArray), (bh, 39, (spL (x.qh)).toArray), (bm, 28, (cmL (x.qm)).toArray), (gk1, 47, Mg.cells m)]) := HF.out.drew
                  generalize wr.drew = wk30 at HF HGc HG HO hH ⊢
                  refine xV 0 198 (.slice sa sn sc) hH <| xV 1 199 (pV r 0) hH <| xV 2 200 (pV r 0) hH <| xV 3 201 (pV r 0) hH <| xL 4 202 3 ⟨r, 0, none⟩ (.int .i64 x.cl) (fun _ hw => load_one ((hw.1).cell 0 |>.trans (by kernel_rfl)) U3 rfl) hH <| xU 5 203 (.agg (Ad.cells ⟨true, x.cl⟩)) (fun w' hw => exec_build 37 _ rfl (Ad.cells ⟨true, x.cl⟩) (by kernel_rfl)) hH <| ?_
                  try simp only [pS]
                  refine xV 6 204 (pV r 0) hH <| xV 7 205 (pV r 0) hH <| xV 8 206 (pV r 6) hH <| xL 9 207 24 ⟨r, 6, none⟩ g.v (fun _ hw => load_one ((hw.1).cell 6 |>.trans (by kernel_rfl)) U24 rfl) hH <| xV 10 208 (.int .i64 ((j : Nat) : Int)) hH <| xU 11 209 (pV gb (0 + j * 1)) (fun w' hw => exec_ixA 24 1 E24 F24 _ _ rfl gb 0 g.l g.k j (Eq.trans (b := g.v) (by kernel_rfl) hsl) (by kernel_rfl) (by omega)) hH <| ?_
                  try simp only [pS]
                  refine xL 12 210 3 ⟨gb, 0 + j * 1, none⟩ (.int .i64 z) (fun _ hw => load_one (hw.2) U3 rfl) hH <| xU 13 211 (.agg (Ad.cells ⟨false, z⟩)) (fun w' hw => exec_build 37 _ rfl (Ad.cells ⟨false, z⟩) (by kernel_rfl)) hH <| xV 14 212 (pV r 0) hH <| xV 15 213 (pV r 0) hH <| xV 16 214 (pV r 1) hH <| xL 17 215 3 ⟨r, 1, none⟩ (.int .i64 x.op) (fun _ hw => load_one ((hw.1).cell 1 |>.trans (by kernel_rfl)) U3 rfl) hH <| ?_
                  try simp only [pS]
                  refine xV 18 216 (pV r 0) hH <| xV 19 217 (pV r 0) hH <| xV 20 218 (pV r 26) hH <| xL 21 219 3 ⟨r, 26, none⟩ (.int .i64 x.rd) (fun _ hw => load_one ((hw.1).cell 26 |>.trans (by kernel_rfl)) U3 rfl) hH <| xV 22 220 (pV r 0) hH <| xV 23 221 (pV r 0) hH <| ?_
                  try simp only [pS]
                  refine xV 24 222 (pV r 2) hH <| xL 25 223 23 ⟨r, 2, none⟩ (.agg (Ky.cells x.ky)) (fun _ hw => run_load_part (cs := Rv.cs (rvOf {x with ph := 3, de := true, dc := x.ch} g ba bc bh bm)) (sub := Ky.cs x.ky) (hw.1) (part_of (by kernel_rfl)) U23 rfl S23) hH <| xV 26 224 (pV r 0) hH <| xV 27 225 (pV r 0) hH <| xV 28 226 (pV r 16) hH <| xL 29 227 28 ⟨r, 16, none⟩ (.agg (Cm.cells x.ch)) (fun _ hw => run_load_part (cs := Rv.cs (rvOf {x with ph := 3, de := true, dc := x.ch} g ba bc bh bm)) (sub := Cm.cs x.ch) (hw.1) (part_of (by kernel_rfl)) U28 rfl S28) hH <| ?_
                  try simp only [pS]
                  refine xU 30 228 (.agg (Mg.cells ⟨5, ⟨true, x.cl⟩, ⟨false, z⟩, x.op, x.rd, x.ky, spZ, spZ, slZ, x.ch, bvZ, slZ, false⟩)) (fun w' hw => exec_build 47 _ rfl (Mg.cells ⟨5, ⟨true, x.cl⟩, ⟨false, z⟩, x.op, x.rd, x.ky, spZ, spZ, slZ, x.ch, bvZ, slZ, false⟩) (by kernel_rfl)) hH ?_
                  try simp only [pS]
                  refine any_step (i := 31) (o := { dst := some 229, op := Op.buildSlice 66 1 #[(0, Operand.tmp 228)], type := 66, pos := "ref.go:175", after := #[{ on := 30, ground := Ground.data }], guard := none }) rfl (by kernel_rfl) (by kernel_rfl) (exec_slice2 66 47 _ rfl (Mg.cells ⟨5, ⟨true, x.cl⟩, ⟨false, z⟩, x.op, x.rd, x.ky, spZ, spZ, slZ, x.ch, bvZ, slZ, false⟩) (.agg (Mg.cells ⟨5, ⟨true, x.cl⟩, ⟨false, z⟩, x.op, x.rd, x.ky, spZ, spZ, slZ, x.ch, bvZ, slZ, false⟩)) (by kernel_rfl) (by kernel_rfl)) (⟨hH.1.alloc _, ((Kept.refl No _).alloc _).cell hH.2 (fun e => e)⟩) (fun hH => ?_)
                  try simp only [pS]
                  have HG : Hid (OwI (wk30.alloc (.cells (Mg.cells ⟨5, ⟨true, x.cl⟩, ⟨false, z⟩, x.op, x.rd, x.ky, spZ, spZ, slZ, x.ch, bvZ, slZ, false⟩) 47)) 0 g x.zs) := HG.out.no ((Kept.refl No _).alloc _)
                  have HO : Hid (OwM (wk30.alloc (.cells (Mg.cells ⟨5, ⟨true, x.cl⟩, ⟨false, z⟩, x.op, x.rd, x.ky, spZ, spZ, slZ, x.ch, bvZ, slZ, false⟩) 47)) w.heap.size ⟨sa, sn, sc⟩ (lrnK x j)) := HO.out.no ((Kept.refl No _).alloc _)
                  have HF : Hid (Fq J w (wk30.alloc (.cells (Mg.cells ⟨5, ⟨true, x.cl⟩, ⟨false, z⟩, x.op, x.rd, x.ky, spZ, spZ, slZ, x.ch, bvZ, slZ, false⟩) 47)) [(r, 56, Rv.cells (rvOf {x with ph := 3, de := true, dc := x.ch} g ba bc bh bm)), (ba, 4, (boL ((x.qa).set i true)).toArray), (bc, 4, (boL ((x.qc).set i true)).toArray), (bh, 39, (spL (x.qh)).toArray), (bm, 28, (cmL (x.qm)).toArray), (gk1, 47, Mg.cells m), (wk30.heap.size, 47, Mg.cells ⟨5, ⟨true, x.cl⟩, ⟨false, z⟩, x.op, x.rd, x.ky, spZ, spZ, slZ, x.ch, bvZ, slZ, false⟩)]) := HF.out.alloc _ _
                  generalize wk30.alloc (.cells (Mg.cells ⟨5, ⟨true, x.cl⟩, ⟨false, z⟩, x.op, x.rd, x.ky, spZ, spZ, slZ, x.ch, bvZ, slZ, false⟩) 47) = wk32 at HF HG HO hH ⊢
                  generalize wk30.heap.size = gk31 at HF ⊢
                  obtain ⟨sa2, cap2, w2, hrun, hown, hk2, hat2⟩ := run_appN (w := wk32) 66 66 47 30 312 (.agg mgZ.cells) U66 I47 rfl (by omega) w.heap.size sn sc sa (mgL (lrnK x j)) HO.out.own (some ⟨gk31, 0, none⟩) 1 1 (Mg.cs ⟨5, ⟨true, x.cl⟩, ⟨false, z⟩, x.op, x.rd, x.ky, spZ, spZ, slZ, x.ch, bvZ, slZ, false⟩) rfl (fun e => by cases e) (fun j u hj => ⟨_, rfl, by rw [addr_add, Nat.zero_add, (HF.out.box 6 _ _ _ rfl).cell]; simpa [Mg.cells] using hj⟩) (Mg.oneL _) (by omega) (by omega) (by have := HF.out.kept.size; omega)
                  have HO2 : Hid (OwM w2 w.heap.size ⟨sa2, sn + 1, cap2⟩ (lrnK x (j + 1))) := ⟨by rw [HNf.out, mgL_app, mgL_1]; exact hown, by rw [HNf.out]; simpa using HO.out.len⟩
                  have HF0 : Hid (Fq J w w2 [(r, 56, Rv.cells (rvOf {x with ph := 3, de := true, dc := x.ch} g ba bc bh bm)), (ba, 4, (boL ((x.qa).set i true)).toArray), (bc, 4, (boL ((x.qc).set i true)).toArray), (bh, 39, (spL (x.qh)).toArray), (bm, 28, (cmL (x.qm)).toArray), (gk1, 47, Mg.cells m)]) := (show Fq J w wk32 ([(r, 56, Rv.cells (rvOf {x with ph := 3, de := true, dc := x.ch} g ba bc bh bm)), (ba, 4, (boL ((x.qa).set i true)).toArray), (bc, 4, (boL ((x.qc).set i true)).toArray), (bh, 39, (spL (x.qh)).toArray), (bm, 28, (cmL (x.qm)).toArray), (gk1, 47, Mg.cells m)] ++ [(gk31, 47, Mg.cells ⟨5, ⟨true, x.cl⟩, ⟨false, z⟩, x.op, x.rd, x.ky, spZ, spZ, slZ, x.ch, bvZ, slZ, false⟩)]) from HF.out).front.app2 HO.out.own hk2 (by simp [HNA.out])
                  have HNA2 : Hid (¬ At sa2 gk1) := show ¬ At sa2 gk1 from fun e => (hat2 _ e).elim HNA.out (fun e2 => by have := (HF.out.box 5 _ _ _ rfl).lt; omega)
                  have HG2 : Hid (OwI w2 0 g x.zs) := HG.out.kept hk2 (fun k h e => HG.out.own.apart HO.out.own (by decide) h e)
                  have hc2 : w2.cell? ⟨gb, 0 + j * 1, none⟩ = some (.int .i64 z) := hk2.cell hH.2 (fun e => HG.out.own.apart HO.out.own (by decide) ⟨_, hga, rfl⟩ e)
                  have hb2 : Box w2 r 56 (Rv.cells (rvOf {x with ph := 3, de := true, dc := x.ch} g ba bc bh bm)) := HF0.out.box 0 _ _ _ rfl
                  refine xP 32 230 (.slice sa2 (sn + 1) cap2) (w' := w2) (exec_appN _ _ 66 66 rfl _ _ (by kernel_rfl) (by kernel_rfl) hrun) ⟨hb2, hc2⟩ (fun hH => ?_)
                  try simp only [pS]
                  clear hown hk2 hat2 hrun hc2 hb2
                  refine xV 33 7 (.slice sa2 (sn + 1) cap2) hH ?_
                  try simp only [pS]
                  refine wpAnyH_done (by kernel_rfl) ?_ _
                  try simp only [pS]
                  clear hH
                  have HF := HF0
                  have HG := HG2
                  go_upto_region 44 with fail
                  refine WL.start <| uK (.int .i64 ((j : Nat) : Int)) <| uB .add 3 (.int .i64 ((j : Nat) : Int)) (.int .i64 1) (.int .i64 (((j + 1) : Nat) : Int)) (b_addw _ _ _ (by rw [IntKind.wrap_i64]; omega) _) <| uK (.int .i64 (((j + 1) : Nat) : Int)) <| WL.nil <| ?_
                  try simp only [pS]
                  go_wp2
                  go_roundw
                  case rel => exact ⟨j + 1, sa2, sn + 1, cap2, rfl, by go_num, by omega, by omega, HO2, HNA2, HG2, HF0⟩
                  case measure => simp [intOf]; omega
                · skip
                  go_upto_region 43 with fail
                  refine WL.start <| uK (.int .i64 ((j : Nat) : Int)) <| uK (pV r 0) <| uK (pV r 0) <| uK (pV r 6) <| uL 24 ⟨r, 6, none⟩ (g.v) (load_one ((HF.out.box 0 _ _ _ rfl).cell 6 |>.trans (by kernel_rfl)) U24 rfl) <| uK (.int .i64 ((g.l : Nat) : Int)) <| uB .lss 3 (.int .i64 ((j : Nat) : Int)) (.int .i64 ((g.l : Nat) : Int)) (.bool false) (by rw [b_lss, decide_eq_false (by omega)]) <| WL.nil <| ?_
                  try simp only [pS]
                  go_upto_region 46 with fail
                  refine WL.start <| uK (.slice sa sn sc) <| uK (.slice sa sn sc) <| WL.nil <| ?_
                  try simp only [pS]
                  go_wp2
                  rw [HC.out, HT2.out]
                  exact ⟨⟨sa, sn, sc⟩, rfl, by rw [hzl, show g.l = j by omega]; exact HO.out, RfB.mk2 (x := { accR x i with de := true, dc := x.ch, ph := 3 }) (g := g) (ba := ba) (bc := bc) (bh := bh) (bm := bm) (Fq.front (m := [(gk1, 47, Mg.cells m)]) HF.out) HG.out HJ.out (by first | exact hla | simp [prmR, accR, hla]) (by first | exact hlc | simp [prmR, accR, hlc]) (by first | exact hlh | simp [prmR, accR, hlh]) (by first | exact hlm | simp [prmR, accR, hlm]) hnn, HF.out.kept⟩
             ·skip
              refine uB .lss 3 (.int .i64 ((cntB (x.qc.set i true) : Nat) : Int)) (.int .i64 ((x.zs.length / 2 + 1 : Nat) : Int)) (.bool true) (by rw [b_lss, q24]; try rfl) <| WL.nil <| ?_
              try simp only [pS]
              go_upto_region 37 with fail
              refine WL.start <| uK (.slice none 0 0) <| WL.nil <| ?_
              try simp only [pS]
              go_wp2
              rw [HC.out]
              have hx : takeR x m = (accR x i, []) := by rw [HT.out, if_pos (by have := of_decide_eq_true q24; omega)]
              rw [hx]
              exact ⟨slZ, rfl, OwM.nil _ _, RfB.mk2 (x := accR x i) (g := g) (ba := ba) (bc := bc) (bh := bh) (bm := bm) (Fq.front (m := [(gk1, 47, Mg.cells m)]) HF.out) HG.out HJ.out (by first | exact hla | simp [prmR, accR, hla]) (by first | exact hlc | simp [prmR, accR, hlc]) (by first | exact hlh | simp [prmR, accR, hlh]) (by first | exact hlm | simp [prmR, accR, hlm]) hnn, HF.out.kept⟩
          ·skip
           refine uB .eql 3 (.int .i64 x.ph) (.int .i64 1) (.bool true) (by rw [b_eql, q21]; try rfl) <| uK (.bool true) <| WL.nil <| ?_
           try simp only [pS]
           have HT : Hid (takeR x m = if cntB (x.qc.set i true) < x.zs.length / 2 + 1 then (prmR x m i, []) else nextR { chooseR (prmR x m i) with ph := 2 }) := by show _ = _; rw [HT.out]; unfold tk2R; rw [if_neg (by rw [q16]; simp), if_pos (by simp [q4, q10, q17, q21])]
           clear q4 q10 q16 q17 q21
           go_upto_region 24 with fail
           refine WL.start <| uK (pV r 0) <| uK (pV r 0) <| uK (pV r 29) <| uL 53 ⟨r, 29, none⟩ (.slice (some ⟨ba, 0, none⟩) g.l g.l) (load_one ((HF.out.box 0 _ _ _ rfl).cell 29 |>.trans (by kernel_rfl)) U53 rfl) <| uK (.int .i64 ((i : Nat) : Int)) <| uW (pV ba (0 + i * 1)) (exec_ixA 53 1 E53 F53 _ _ rfl ba 0 g.l g.l i (by kernel_rfl) (by kernel_rfl) (by omega)) <| ?_
           try simp only [pS]
           refine uT 4 ⟨ba, 0 + i * 1, none⟩ (.bool true) (wk4.setRow ba ((boL ((x.qa).set i true)).toArray)) (st_bo true (HF.out.box 1 _ _ _ rfl) (by first | omega | (simp; omega))) ?_
           try simp only [pS]
           have HG : Hid (OwI (wk4.setRow ba ((boL ((x.qa).set i true)).toArray)) 0 g x.zs) := HG.out.kept (Kept.setRow _ _ _) (fun k h e => (HG.out.own.notBox (HF.out.box 1 _ _ _ rfl) (by decide)) ((show k = ba from e) ▸ h))
           have HF : Hid (Fq J w (wk4.setRow ba ((boL ((x.qa).set i true)).toArray)) [(r, 56, Rv.cells (rvOf x g ba bc bh bm)), (ba, 4, (boL ((x.qa).set i true)).toArray), (bc, 4, (boL (x.qc)).toArray), (bh, 39, (spL (x.qh)).toArray), (bm, 28, (cmL (x.qm)).toArray), (gk1, 47, Mg.cells m)]) := HF.out.set 1 rfl _
           generalize wk4.setRow ba ((boL ((x.qa).set i true)).toArray) = wk33 at HF HG ⊢
           refine WL.nil ?_
           try simp only [pS]
           go_upto_region 25 with fail
           refine WL.start <| uK (pV r 0) <| uK (pV r 0) <| uK (pV r 30) <| uL 53 ⟨r, 30, none⟩ (.slice (some ⟨bc, 0, none⟩) g.l g.l) (load_one ((HF.out.box 0 _ _ _ rfl).cell 30 |>.trans (by kernel_rfl)) U53 rfl) <| uK (.int .i64 ((i : Nat) : Int)) <| uW (pV bc (0 + i * 1)) (exec_ixA 53 1 E53 F53 _ _ rfl bc 0 g.l g.l i (by kernel_rfl) (by kernel_rfl) (by omega)) <| ?_
           try simp only [pS]
           refine uT 4 ⟨bc, 0 + i * 1, none⟩ (.bool true) (wk33.setRow bc ((boL ((x.qc).set i true)).toArray)) (st_bo true (HF.out.box 2 _ _ _ rfl) (by first | omega | (simp; omega))) ?_
           try simp only [pS]
           have HG : Hid (OwI (wk33.setRow bc ((boL ((x.qc).set i true)).toArray)) 0 g x.zs) := HG.out.kept (Kept.setRow _ _ _) (fun k h e => (HG.out.own.notBox (HF.out.box 2 _ _ _ rfl) (by decide)) ((show k = bc from e) ▸ h))
           have HF : Hid (Fq J w (wk33.setRow bc ((boL ((x.qc).set i true)).toArray)) [(r, 56, Rv.cells (rvOf x g ba bc bh bm)), (ba, 4, (boL ((x.qa).set i true)).toArray), (bc, 4, (boL ((x.qc).set i true)).toArray), (bh, 39, (spL (x.qh)).toArray), (bm, 28, (cmL (x.qm)).toArray), (gk1, 47, Mg.cells m)]) := HF.out.set 2 rfl _
           generalize wk33.setRow bc ((boL ((x.qc).set i true)).toArray) = wk34 at HF HG ⊢
           refine WL.nil ?_
           try simp only [pS]
           go_upto_region 26 with fail
           refine wp_region_held_drew (S := fun w' => Box w' r 56 (Rv.cells (rvOf x g ba bc bh bm)) ∧ Box w' gk1 47 (Mg.cells m)) rfl ⟨HF.out.box 0 _ _ _ rfl, HF.out.box 5 _ _ _ rfl⟩ (fun hH => ?_)
           have HG : Hid (OwI (wk34.drew) 0 g x.zs) := HG.out.no (Kept.refl No _).drew
           have HF : Hid (Fq J w (wk34.drew) [(r, 56, Rv.cells (rvOf x g ba bc bh bm)), (ba, 4, (boL ((x.qa).set i true)).toArray), (bc, 4, (boL ((x.qc).set i true)).toArray), (bh, 39, (spL (x.qh)).toArray), (bm, 28, (cmL (x.qm)).toArray), (gk1, 47, Mg.cells m)]) := HF.out.drew
           generalize wk34.drew = wk35 at HF HG hH ⊢
           refine xV 0 118 (pV r 0) hH <| xV 1 119 (pV r 0) hH <| xV 2 120 (pV r 31) hH <| xL 3 121 54 ⟨r, 31, none⟩ (.slice (some ⟨bh, 0, none⟩) g.l g.l) (fun _ hw => load_one ((hw.1).cell 31 |>.trans (by kernel_rfl)) U54 rfl) hH <| xV 4 122 (.int .i64 ((i : Nat) : Int)) hH <| xV 5 123 (pV gk1 13) hH <| ?_
           try simp only [pS]
           refine xL 6 124 39 ⟨gk1, 13, none⟩ (.agg (Sp.cells m.hd)) (fun _ hw => run_load_part (cs := Mg.cs m) (sub := Sp.cs m.hd) (hw.2) (part_of (by kernel_rfl)) U39 rfl S39) hH <| xU 7 125 (pV bh (0 + i * 2)) (fun w' hw => exec_ixA 54 2 E54 F54 _ _ rfl bh 0 g.l g.l i (by kernel_rfl) (by kernel_rfl) (by omega)) hH <| ?_
           try simp only [pS]
           refine xS 8 39 ⟨bh, 0 + i * 2, none⟩ (.agg (Sp.cells m.hd)) (w' := wk35.setRow bh ((spL ((x.qh).set i m.hd)).toArray)) (st_sp m.hd (HF.out.box 3 _ _ _ rfl) (by first | omega | (simp; omega))) (⟨hH.1.rowNe (HF.out.ne 0 3 rfl rfl (by simp)) _, hH.2.rowNe (HF.out.ne 5 3 rfl rfl (by simp)) _⟩) (fun hH => ?_)
           try simp only [pS]
           have HG : Hid (OwI (wk35.setRow bh ((spL ((x.qh).set i m.hd)).toArray)) 0 g x.zs) := HG.out.kept (Kept.setRow _ _ _) (fun k h e => (HG.out.own.notBox (HF.out.box 3 _ _ _ rfl) (by decide)) ((show k = bh from e) ▸ h))
           have HF : Hid (Fq J w (wk35.setRow bh ((spL ((x.qh).set i m.hd)).toArray)) [(r, 56, Rv.cells (rvOf x g ba bc bh bm)), (ba, 4, (boL ((x.qa).set i true)).toArray), (bc, 4, (boL ((x.qc).set i true)).toArray), (bh, 39, (spL ((x.qh).set i m.hd)).toArray), (bm, 28, (cmL (x.qm)).toArray), (gk1, 47, Mg.cells m)]) := HF.out.set 3 rfl _
           generalize wk35.setRow bh ((spL ((x.qh).set i m.hd)).toArray) = wk36 at HF HG hH ⊢
           refine wpAnyH_done (by kernel_rfl) ?_ _
           try simp only [pS]
           clear hH
           go_upto_region 27 with fail
           refine wp_region_held_drew (S := fun w' => Box w' r 56 (Rv.cells (rvOf x g ba bc bh bm)) ∧ Box w' gk1 47 (Mg.cells m)) rfl ⟨HF.out.box 0 _ _ _ rfl, HF.out.box 5 _ _ _ rfl⟩ (fun hH => ?_)
           have HG : Hid (OwI (wk36.drew) 0 g x.zs) := HG.out.no (Kept.refl No _).drew
           have HF : Hid (Fq J w (wk36.drew) [(r, 56, Rv.cells (rvOf x g ba bc bh bm)), (ba, 4, (boL ((x.qa).set i true)).toArray), (bc, 4, (boL ((x.qc).set i true)).toArray), (bh, 39, (spL ((x.qh).set i m.hd)).toArray), (bm, 28, (cmL (x.qm)).toArray), (gk1, 47, Mg.cells m)]) := HF.out.drew
           generalize wk36.drew = wk37 at HF HG hH ⊢
           refine xV 0 126 (pV r 0) hH <| xV 1 127 (pV r 0) hH <| xV 2 128 (pV r 32) hH <| xL 3 129 45 ⟨r, 32, none⟩ (.slice (some ⟨bm, 0, none⟩) g.l g.l) (fun _ hw => load_one ((hw.1).cell 32 |>.trans (by kernel_rfl)) U45 rfl) hH <| xV 4 130 (.int .i64 ((i : Nat) : Int)) hH <| xV 5 131 (pV gk1 16) hH <| ?_
           try simp only [pS]
           refine xL 6 132 28 ⟨gk1, 16, none⟩ (.agg (Cm.cells m.c)) (fun _ hw => run_load_part (cs := Mg.cs m) (sub := Cm.cs m.c) (hw.2) (part_of (by kernel_rfl)) U28 rfl S28) hH <| xU 7 133 (pV bm (0 + i * 9)) (fun w' hw => exec_ixA 45 9 E45 F45 _ _ rfl bm 0 g.l g.l i (by kernel_rfl) (by kernel_rfl) (by omega)) hH <| ?_
           try simp only [pS]
           refine xS 8 28 ⟨bm, 0 + i * 9, none⟩ (.agg (Cm.cells m.c)) (w' := wk37.setRow bm ((cmL ((x.qm).set i m.c)).toArray)) (st_C m.c (HF.out.box 4 _ _ _ rfl) (by first | omega | (simp; omega))) (⟨hH.1.rowNe (HF.out.ne 0 4 rfl rfl (by simp)) _, hH.2.rowNe (HF.out.ne 5 4 rfl rfl (by simp)) _⟩) (fun hH => ?_)
           try simp only [pS]
           have HG : Hid (OwI (wk37.setRow bm ((cmL ((x.qm).set i m.c)).toArray)) 0 g x.zs) := HG.out.kept (Kept.setRow _ _ _) (fun k h e => (HG.out.own.notBox (HF.out.box 4 _ _ _ rfl) (by decide)) ((show k = bm from e) ▸ h))
           have HF : Hid (Fq J w (wk37.setRow bm ((cmL ((x.qm).set i m.c)).toArray)) [(r, 56, Rv.cells (rvOf x g ba bc bh bm)), (ba, 4, (boL ((x.qa).set i true)).toArray), (bc, 4, (boL ((x.qc).set i true)).toArray), (bh, 39, (spL ((x.qh).set i m.hd)).toArray), (bm, 28, (cmL ((x.qm).set i m.c)).toArray), (gk1, 47, Mg.cells m)]) := HF.out.set 4 rfl _
           generalize wk37.setRow bm ((cmL ((x.qm).set i m.c)).toArray) = wk38 at HF HG hH ⊢
           refine wpAnyH_done (by kernel_rfl) ?_ _
           try simp only [pS]
           clear hH
           go_upto_region 28 with fail
           refine WL.start <| uK (pV r 0) <| ?_
           try simp only [pS]
           refine uC 64 #[pV r 0] (count_at (RfB.mk2 (x := prmR x m i) (g := g) (ba := ba) (bc := bc) (bh := bh) (bm := bm) (Fq.front (m := [(gk1, 47, Mg.cells m)]) HF.out) HG.out HJ.out (by first | exact hla | simp [prmR, accR, hla]) (by first | exact hlc | simp [prmR, accR, hlc]) (by first | exact hlh | simp [prmR, accR, hlh]) (by first | exact hlm | simp [prmR, accR, hlm]) hnn)) ?_
           rintro e wk39 ⟨rfl, hk⟩
           have HG : Hid (OwI (wk39) 0 g x.zs) := HG.out.no hk
           have HF : Hid (Fq J w (wk39) [(r, 56, Rv.cells (rvOf x g ba bc bh bm)), (ba, 4, (boL ((x.qa).set i true)).toArray), (bc, 4, (boL ((x.qc).set i true)).toArray), (bh, 39, (spL ((x.qh).set i m.hd)).toArray), (bm, 28, (cmL ((x.qm).set i m.c)).toArray), (gk1, 47, Mg.cells m)]) := HF.out.no hk
           clear hk
           refine ⟨.int .i64 ((cntB (x.qc.set i true) : Nat) : Int), rfl, ?_⟩
           try simp only [pS]
           refine uK (pV r 0) ?_
           try simp only [pS]
           refine uC 65 #[pV r 0] (need_at (RfB.mk2 (x := prmR x m i) (g := g) (ba := ba) (bc := bc) (bh := bh) (bm := bm) (Fq.front (m := [(gk1, 47, Mg.cells m)]) HF.out) HG.out HJ.out (by first | exact hla | simp [prmR, accR, hla]) (by first | exact hlc | simp [prmR, accR, hlc]) (by first | exact hlh | simp [prmR, accR, hlh]) (by first | exact hlm | simp [prmR, accR, hlm]) hnn)) ?_
           rintro e wk40 ⟨rfl, hk⟩
           have HG : Hid (OwI (wk40) 0 g x.zs) := HG.out.no hk
           have HF : Hid (Fq J w (wk40) [(r, 56, Rv.cells (rvOf x g ba bc bh bm)), (ba, 4, (boL ((x.qa).set i true)).toArray), (bc, 4, (boL ((x.qc).set i true)).toArray), (bh, 39, (spL ((x.qh).set i m.hd)).toArray), (bm, 28, (cmL ((x.qm).set i m.c)).toArray), (gk1, 47, Mg.cells m)]) := HF.out.no hk
           clear hk
           refine ⟨.int .i64 ((x.zs.length / 2 + 1 : Nat) : Int), rfl, ?_⟩
           try simp only [pS]
           cases q25 : (decide (((cntB (x.qc.set i true) : Nat) : Int) < ((x.zs.length / 2 + 1 : Nat) : Int)))
           ·skip
            refine uB .lss 3 (.int .i64 ((cntB (x.qc.set i true) : Nat) : Int)) (.int .i64 ((x.zs.length / 2 + 1 : Nat) : Int)) (.bool false) (by rw [b_lss, q25]; try rfl) <| WL.nil <| ?_
            try simp only [pS]
            have HT : Hid (takeR x m = nextR { chooseR (prmR x m i) with ph := 2 }) := by show _ = _; rw [HT.out, if_neg (by have := of_decide_eq_false q25; omega)]
            clear q25
            go_upto_region 30 with fail
            refine WL.start <| uK (pV r 0) <| ?_
            try simp only [pS]
            have hAt : RfAt wk40 (Jn J w) r (prmR x m i) := RfB.mk2 (x := prmR x m i) (g := g) (ba := ba) (bc := bc) (bh := bh) (bm := bm) (Fq.front (m := [(gk1, 47, Mg.cells m)]) HF.out) HG.out HJ.out (by first | exact hla | simp [prmR, accR, hla]) (by first | exact hlc | simp [prmR, accR, hlc]) (by first | exact hlh | simp [prmR, accR, hlh]) (by first | exact hlm | simp [prmR, accR, hlm]) hnn
            have hkw := HF.out.kept
            refine uC 66 #[pV r 0] (choose_at hAt) ?_
            rintro e w2 ⟨rfl, hR2, hk2⟩
            have hkk : Kept J w w2 := kept_jn hkw hk2
            have hR3 : RfAt w2 (Jn J w) r (chooseR (prmR x m i)) := hR2.wide (fun k e => Jn.sub hkw.size e)
            obtain ⟨z, hz⟩ : ∃ z, z = chooseR (prmR x m i) := ⟨_, rfl⟩
            rw [← hz] at hR3
            have HT : Hid (takeR x m = nextR { z with ph := 2 }) := by show _ = _; rw [HT.out, hz]
            clear hAt hR2 hk2 hkw HF HG HJ hla hlc hlh hlm hnn hzl hz HPl HN HI
            obtain ⟨g, ba, bc, bh, bm, hB2⟩ := hR3
            have HF : Hid (Fq J w w2 [(r, 56, Rv.cells (rvOf z g ba bc bh bm)), (ba, 4, (boL (z.qa)).toArray), (bc, 4, (boL (z.qc)).toArray), (bh, 39, (spL (z.qh)).toArray), (bm, 28, (cmL (z.qm)).toArray)]) := hB2.frame hkk
            have HG : Hid (OwI w2 0 g z.zs) := hB2.gr
            have HJ : Hid (∀ k, At g.a k → Jn J w k) := hB2.gj
            have hla := hB2.la
            have hlc := hB2.lc
            have hlh := hB2.lh
            have hlm := hB2.lm
            have hnn := hB2.hn
            clear hB2 hkk
            refine ⟨.tuple #[], rfl, ?_⟩
            try simp only [pS]
            refine WL.nil ?_
            try simp only [pS]
            go_upto_region 31 with fail
            refine WL.start <| uK (pV r 0) <| uK (pV r 0) <| uK (pV r 28) <| ?_
            try simp only [pS]
            refine uT 3 ⟨r, 28, none⟩ (.int .i64 2) (w2.setRow r (Rv.cells (rvOf {x with cl := z.cl, op := z.op, ky := z.ky, mine := z.mine, ch := z.ch, n := z.n, rd := z.rd, nt := z.nt, ph := 2, nk := z.nk, de := z.de, tr := z.tr, wo := z.wo, dc := z.dc, bk := z.bk} g ba bc bh bm))) (rs (Rv.cs (rvOf z g ba bc bh bm)) ([.int .i64 2]) (Rv.cs (rvOf {x with cl := z.cl, op := z.op, ky := z.ky, mine := z.mine, ch := z.ch, n := z.n, rd := z.rd, nt := z.nt, ph := 2, nk := z.nk, de := z.de, tr := z.tr, wo := z.wo, dc := z.dc, bk := z.bk} g ba bc bh bm)) (HF.out.box 0 _ _ _ rfl) S3 (by simp [Value.oneCell', Sl.v])) ?_
            try simp only [pS]
            have HG : Hid (OwI (w2.setRow r (Rv.cells (rvOf {x with cl := z.cl, op := z.op, ky := z.ky, mine := z.mine, ch := z.ch, n := z.n, rd := z.rd, nt := z.nt, ph := 2, nk := z.nk, de := z.de, tr := z.tr, wo := z.wo, dc := z.dc, bk := z.bk} g ba bc bh bm))) 0 g z.zs) := HG.out.kept (Kept.setRow _ _ _) (fun k h e => (HG.out.own.notBox (HF.out.box 0 _ _ _ rfl) (by decide)) ((show k = r from e) ▸ h))
            have HF : Hid (Fq J w (w2.setRow r (Rv.cells (rvOf {x with cl := z.cl, op := z.op, ky := z.ky, mine := z.mine, ch := z.ch, n := z.n, rd := z.rd, nt := z.nt, ph := 2, nk := z.nk, de := z.de, tr := z.tr, wo := z.wo, dc := z.dc, bk := z.bk} g ba bc bh bm))) [(r, 56, Rv.cells (rvOf {x with cl := z.cl, op := z.op, ky := z.ky, mine := z.mine, ch := z.ch, n := z.n, rd := z.rd, nt := z.nt, ph := 2, nk := z.nk, de := z.de, tr := z.tr, wo := z.wo, dc := z.dc, bk := z.bk} g ba bc bh bm)), (ba, 4, (boL (z.qa)).toArray), (bc, 4, (boL (z.qc)).toArray), (bh, 39, (spL (z.qh)).toArray), (bm, 28, (cmL (z.qm)).toArray)]) := HF.out.set 0 rfl _
            generalize w2.setRow r (Rv.cells (rvOf {x with cl := z.cl, op := z.op, ky := z.ky, mine := z.mine, ch := z.ch, n := z.n, rd := z.rd, nt := z.nt, ph := 2, nk := z.nk, de := z.de, tr := z.tr, wo := z.wo, dc := z.dc, bk := z.bk} g ba bc bh bm)) = wk41 at HF HG ⊢
            refine WL.nil ?_
            try simp only [pS]
            go_upto_region 32 with fail
            refine WL.start <| uK (pV r 0) <| ?_
            try simp only [pS]
            have hAt : RfAt wk41 (Jn J w) r ({ z with ph := 2 }) := RfB.mk2 (x := { z with ph := 2 }) (g := g) (ba := ba) (bc := bc) (bh := bh) (bm := bm) (HF.out) HG.out HJ.out (by first | exact hla | simp [prmR, accR, hla]) (by first | exact hlc | simp [prmR, accR, hlc]) (by first | exact hlh | simp [prmR, accR, hlh]) (by first | exact hlm | simp [prmR, accR, hlm]) hnn
            have hkw := HF.out.kept
            refine uC 62 #[pV r 0] (next_at hAt) ?_
            rintro e wz hz
            have hz2 := RfOut.behind hkw hz
            have HZ : Hid (RfOut w J r (takeR x m) e wz) := by
              show RfOut w J r (takeR x m) e wz
              rw [HT.out]
              exact hz2
            obtain ⟨sz, rfl, _⟩ := hz
            clear hz2
            refine ⟨sz.v, rfl, ?_⟩
            try simp only [pS]
            refine uK sz.v <| WL.nil <| ?_
            try simp only [pS]
            go_wp2
            rw [HC.out]
            exact HZ.out
           ·skip
            refine uB .lss 3 (.int .i64 ((cntB (x.qc.set i true) : Nat) : Int)) (.int .i64 ((x.zs.length / 2 + 1 : Nat) : Int)) (.bool true) (by rw [b_lss, q25]; try rfl) <| WL.nil <| ?_
            try simp only [pS]
            go_upto_region 29 with fail
            refine WL.start <| uK (.slice none 0 0) <| WL.nil <| ?_
            try simp only [pS]
            go_wp2
            rw [HC.out]
            have hx : takeR x m = (prmR x m i, []) := by rw [HT.out, if_pos (by have := of_decide_eq_true q25; omega)]
            rw [hx]
            exact ⟨slZ, rfl, OwM.nil _ _, RfB.mk2 (x := prmR x m i) (g := g) (ba := ba) (bc := bc) (bh := bh) (bm := bm) (Fq.front (m := [(gk1, 47, Mg.cells m)]) HF.out) HG.out HJ.out (by first | exact hla | simp [prmR, accR, hla]) (by first | exact hlc | simp [prmR, accR, hlc]) (by first | exact hlh | simp [prmR, accR, hlh]) (by first | exact hlm | simp [prmR, accR, hlm]) hnn, HF.out.kept⟩
        ·skip
         refine uB .eql 3 (.int .i64 m.k) (.int .i64 14) (.bool true) (by rw [b_eql, q16]; try rfl) <| WL.nil <| ?_
         try simp only [pS]
         go_upto_region 18 with fail
         refine WL.start <| uK (pV r 0) <| uK (pV r 0) <| uK (pV r 29) <| uL 53 ⟨r, 29, none⟩ (.slice (some ⟨ba, 0, none⟩) g.l g.l) (load_one ((HF.out.box 0 _ _ _ rfl).cell 29 |>.trans (by kernel_rfl)) U53 rfl) <| uK (.int .i64 ((i : Nat) : Int)) <| uW (pV ba (0 + i * 1)) (exec_ixA 53 1 E53 F53 _ _ rfl ba 0 g.l g.l i (by kernel_rfl) (by kernel_rfl) (by omega)) <| ?_
         try simp only [pS]
         refine uT 4 ⟨ba, 0 + i * 1, none⟩ (.bool true) (wk4.setRow ba ((boL ((x.qa).set i true)).toArray)) (st_bo true (HF.out.box 1 _ _ _ rfl) (by first | omega | (simp; omega))) ?_
         try simp only [pS]
         have HG : Hid (OwI (wk4.setRow ba ((boL ((x.qa).set i true)).toArray)) 0 g x.zs) := HG.out.kept (Kept.setRow _ _ _) (fun k h e => (HG.out.own.notBox (HF.out.box 1 _ _ _ rfl) (by decide)) ((show k = ba from e) ▸ h))
         have HF : Hid (Fq J w (wk4.setRow ba ((boL ((x.qa).set i true)).toArray)) [(r, 56, Rv.cells (rvOf x g ba bc bh bm)), (ba, 4, (boL ((x.qa).set i true)).toArray), (bc, 4, (boL (x.qc)).toArray), (bh, 39, (spL (x.qh)).toArray), (bm, 28, (cmL (x.qm)).toArray), (gk1, 47, Mg.cells m)]) := HF.out.set 1 rfl _
         generalize wk4.setRow ba ((boL ((x.qa).set i true)).toArray) = wk42 at HF HG ⊢
         refine WL.nil ?_
         try simp only [pS]
         go_upto_region 19 with fail
         refine WL.start <| uK (pV r 0) <| uK (pV r 0) <| uK (pV r 33) <| ?_
         try simp only [pS]
         refine uT 4 ⟨r, 33, none⟩ (.bool true) (wk42.setRow r (Rv.cells (rvOf {x with nk := true} g ba bc bh bm))) (rs (Rv.cs (rvOf x g ba bc bh bm)) ([.bool true]) (Rv.cs (rvOf {x with nk := true} g ba bc bh bm)) (HF.out.box 0 _ _ _ rfl) S4 (by simp [Value.oneCell', Sl.v])) ?_
         try simp only [pS]
         have HG : Hid (OwI (wk42.setRow r (Rv.cells (rvOf {x with nk := true} g ba bc bh bm))) 0 g x.zs) := HG.out.kept (Kept.setRow _ _ _) (fun k h e => (HG.out.own.notBox (HF.out.box 0 _ _ _ rfl) (by decide)) ((show k = r from e) ▸ h))
         have HF : Hid (Fq J w (wk42.setRow r (Rv.cells (rvOf {x with nk := true} g ba bc bh bm))) [(r, 56, Rv.cells (rvOf {x with nk := true} g ba bc bh bm)), (ba, 4, (boL ((x.qa).set i true)).toArray), (bc, 4, (boL (x.qc)).toArray), (bh, 39, (spL (x.qh)).toArray), (bm, 28, (cmL (x.qm)).toArray), (gk1, 47, Mg.cells m)]) := HF.out.set 0 rfl _
         generalize wk42.setRow r (Rv.cells (rvOf {x with nk := true} g ba bc bh bm)) = wk43 at HF HG ⊢
         refine WL.nil ?_
         try simp only [pS]
         go_upto_region 20 with fail
         refine wp_region_held_drew (S := fun w' => Box w' r 56 (Rv.cells (rvOf {x with nk := true} g ba bc bh bm)) ∧ Box w' gk1 47 (Mg.cells m)) rfl ⟨HF.out.box 0 _ _ _ rfl, HF.out.box 5 _ _ _ rfl⟩ (fun hH => ?_)
         have HG : Hid (OwI (wk43.drew) 0 g x.zs) := HG.out.no (Kept.refl No _).drew
         have HF : Hid (Fq J w (wk43.drew) [(r, 56, Rv.cells (rvOf {x with nk := true} g ba bc bh bm)), (ba, 4, (boL ((x.qa).set i true)).toArray), (bc, 4, (boL (x.qc)).toArray), (bh, 39, (spL (x.qh)).toArray), (bm, 28, (cmL (x.qm)).toArray), (gk1, 47, Mg.cells m)]) := HF.out.drew
         generalize wk43.drew = wk44 at HF HG hH ⊢
         refine xV 0 79 (pV gk1 11) hH <| xV 1 80 (pV gk1 11) hH <| xL 2 81 3 ⟨gk1, 11, none⟩ (.int .i64 m.st.n) (fun _ hw => load_one ((hw.2).cell 11 |>.trans (by kernel_rfl)) U3 rfl) hH <| xV 3 82 (pV r 0) hH <| xV 4 83 (pV r 0) hH <| xV 5 84 (pV r 27) hH <| ?_
         try simp only [pS]
         refine xL 6 85 3 ⟨r, 27, none⟩ (.int .i64 x.nt) (fun _ hw => load_one ((hw.1).cell 27 |>.trans (by kernel_rfl)) U3 rfl) hH ?_
         try simp only [pS]
         cases q26 : (decide (x.nt < m.st.n))
         ·skip
          refine xB 7 86 .gtr 3 (.int .i64 m.st.n) (.int .i64 x.nt) (.bool false) (fun _ _ => by rw [b_gtr, q26]; try rfl) hH ?_
          try simp only [pS]
          refine wpAnyH_done (by kernel_rfl) ?_ _
          try simp only [pS]
          clear hH
          go_upto_region 22 with fail
          refine WL.start <| uK (.slice none 0 0) <| WL.nil <| ?_
          try simp only [pS]
          go_wp2
          rw [HC.out]
          have hx : takeR x m = ({ x with qa := x.qa.set i true, nk := true, nt := x.nt }, []) := by rw [HT.out]; unfold tk2R; rw [if_pos q16, if_neg (of_decide_eq_false q26)]
          rw [hx]
          exact ⟨slZ, rfl, OwM.nil _ _, RfB.mk2 (x := { x with qa := x.qa.set i true, nk := true, nt := x.nt }) (g := g) (ba := ba) (bc := bc) (bh := bh) (bm := bm) (Fq.front (m := [(gk1, 47, Mg.cells m)]) HF.out) HG.out HJ.out (by first | exact hla | simp [prmR, accR, hla]) (by first | exact hlc | simp [prmR, accR, hlc]) (by first | exact hlh | simp [prmR, accR, hlh]) (by first | exact hlm | simp [prmR, accR, hlm]) hnn, HF.out.kept⟩
         ·skip
          refine xB 7 86 .gtr 3 (.int .i64 m.st.n) (.int .i64 x.nt) (.bool true) (fun _ _ => by rw [b_gtr, q26]; try rfl) hH ?_
          try simp only [pS]
          refine wpAnyH_done (by kernel_rfl) ?_ _
          try simp only [pS]
          clear hH
          go_upto_region 21 with fail
          refine WL.start <| uK (pV r 0) <| uK (pV gk1 11) <| uK (pV gk1 11) <| uL 3 ⟨gk1, 11, none⟩ (.int .i64 m.st.n) (load_one ((HF.out.box 5 _ _ _ rfl).cell 11 |>.trans (by kernel_rfl)) U3 rfl) <| uK (pV r 0) <| uK (pV r 27) <| ?_
          try simp only [pS]
          refine uT 3 ⟨r, 27, none⟩ (.int .i64 m.st.n) (wk44.setRow r (Rv.cells (rvOf {x with nt := m.st.n, nk := true} g ba bc bh bm))) (rs (Rv.cs (rvOf {x with nk := true} g ba bc bh bm)) ([.int .i64 m.st.n]) (Rv.cs (rvOf {x with nt := m.st.n, nk := true} g ba bc bh bm)) (HF.out.box 0 _ _ _ rfl) S3 (by simp [Value.oneCell', Sl.v])) ?_
          try simp only [pS]
          have HG : Hid (OwI (wk44.setRow r (Rv.cells (rvOf {x with nt := m.st.n, nk := true} g ba bc bh bm))) 0 g x.zs) := HG.out.kept (Kept.setRow _ _ _) (fun k h e => (HG.out.own.notBox (HF.out.box 0 _ _ _ rfl) (by decide)) ((show k = r from e) ▸ h))
          have HF : Hid (Fq J w (wk44.setRow r (Rv.cells (rvOf {x with nt := m.st.n, nk := true} g ba bc bh bm))) [(r, 56, Rv.cells (rvOf {x with nt := m.st.n, nk := true} g ba bc bh bm)), (ba, 4, (boL ((x.qa).set i true)).toArray), (bc, 4, (boL (x.qc)).toArray), (bh, 39, (spL (x.qh)).toArray), (bm, 28, (cmL (x.qm)).toArray), (gk1, 47, Mg.cells m)]) := HF.out.set 0 rfl _
          generalize wk44.setRow r (Rv.cells (rvOf {x with nt := m.st.n, nk := true} g ba bc bh bm)) = wk45 at HF HG ⊢
          refine WL.nil ?_
          try simp only [pS]
          go_upto_region 22 with fail
          refine WL.start <| uK (.slice none 0 0) <| WL.nil <| ?_
          try simp only [pS]
          go_wp2
          rw [HC.out]
          have hx : takeR x m = ({ x with qa := x.qa.set i true, nk := true, nt := m.st.n }, []) := by rw [HT.out]; unfold tk2R; rw [if_pos q16, if_pos (of_decide_eq_true q26)]
          rw [hx]
          exact ⟨slZ, rfl, OwM.nil _ _, RfB.mk2 (x := { x with qa := x.qa.set i true, nk := true, nt := m.st.n }) (g := g) (ba := ba) (bc := bc) (bh := bh) (bm := bm) (Fq.front (m := [(gk1, 47, Mg.cells m)]) HF.out) HG.out HJ.out (by first | exact hla | simp [prmR, accR, hla]) (by first | exact hlc | simp [prmR, accR, hlc]) (by first | exact hlh | simp [prmR, accR, hlh]) (by first | exact hlm | simp [prmR, accR, hlm]) hnn, HF.out.kept⟩
     ·skip
      go_upto_region 14 with fail
      refine WL.start <| uK (pV r 0) <| uK (pV r 0) <| uK (pV r 29) <| uL 53 ⟨r, 29, none⟩ (.slice (some ⟨ba, 0, none⟩) g.l g.l) (load_one ((HF.out.box 0 _ _ _ rfl).cell 29 |>.trans (by kernel_rfl)) U53 rfl) <| uK (.int .i64 ((i : Nat) : Int)) <| uW (pV ba (0 + i * 1)) (exec_ixA 53 1 E53 F53 _ _ rfl ba 0 g.l g.l i (by kernel_rfl) (by kernel_rfl) (by omega)) <| uL 4 ⟨ba, 0 + i * 1, none⟩ (.bool true) (ld_bo (HF.out.box 1 _ _ _ rfl) (by rw [hbb])) <| WL.nil <| ?_
      try simp only [pS]
      go_upto_region 15 with fail
      refine WL.start <| uK (.slice none 0 0) <| WL.nil <| ?_
      try simp only [pS]
      go_wp2
      rw [HC.out]
      have hx : takeR x m = (x, []) := by rw [HT.out]; rfl
      rw [hx]
      exact ⟨slZ, rfl, OwM.nil _ _, RfB.mk2 (x := x) (g := g) (ba := ba) (bc := bc) (bh := bh) (bm := bm) (Fq.front (m := [(gk1, 47, Mg.cells m)]) HF.out) HG.out HJ.out (by first | exact hla | simp [prmR, accR, hla]) (by first | exact hlc | simp [prmR, accR, hlc]) (by first | exact hlh | simp [prmR, accR, hlh]) (by first | exact hlm | simp [prmR, accR, hlm]) hnn, HF.out.kept⟩
    ·skip
     refine uB .eql 3 (.int .i64 m.k) (.int .i64 17) (.bool true) (by rw [b_eql, q3]; try rfl) <| WL.nil <| ?_
     try simp only [pS]
     go_upto_region 10 with fail
     refine WL.start <| uK (pV r 0) <| uK (pV r 0) <| uK (pV r 35) <| ?_
     try simp only [pS]
     refine uT 4 ⟨r, 35, none⟩ (.bool true) (wk3.setRow r (Rv.cells (rvOf {x with tr := true} g ba bc bh bm))) (rs (Rv.cs (rvOf x g ba bc bh bm)) ([.bool true]) (Rv.cs (rvOf {x with tr := true} g ba bc bh bm)) (HF.out.box 0 _ _ _ rfl) S4 (by simp [Value.oneCell', Sl.v])) ?_
     try simp only [pS]
     have HG : Hid (OwI (wk3.setRow r (Rv.cells (rvOf {x with tr := true} g ba bc bh bm))) 0 g x.zs) := HG.out.kept (Kept.setRow _ _ _) (fun k h e => (HG.out.own.notBox (HF.out.box 0 _ _ _ rfl) (by decide)) ((show k = r from e) ▸ h))
     have HF : Hid (Fq J w (wk3.setRow r (Rv.cells (rvOf {x with tr := true} g ba bc bh bm))) [(r, 56, Rv.cells (rvOf {x with tr := true} g ba bc bh bm)), (ba, 4, (boL (x.qa)).toArray), (bc, 4, (boL (x.qc)).toArray), (bh, 39, (spL (x.qh)).toArray), (bm, 28, (cmL (x.qm)).toArray), (gk1, 47, Mg.cells m)]) := HF.out.set 0 rfl _
     generalize wk3.setRow r (Rv.cells (rvOf {x with tr := true} g ba bc bh bm)) = wk46 at HF HG ⊢
     refine WL.nil ?_
     try simp only [pS]
     go_upto_region 11 with fail
     refine WL.start <| uK (pV r 0) <| uK (pV gk1 25) <| uL 44 ⟨gk1, 25, none⟩ (.agg (Bv.cells m.bk)) (run_load_part (cs := Mg.cs m) (sub := Bv.cs m.bk) (HF.out.box 5 _ _ _ rfl) (part_of (by kernel_rfl)) U44 rfl S44) <| uK (pV r 0) <| uK (pV r 46) <| ?_
     try simp only [pS]
     refine uT 44 ⟨r, 46, none⟩ (.agg (Bv.cells m.bk)) (wk46.setRow r (Rv.cells (rvOf {x with tr := true, bk := m.bk} g ba bc bh bm))) (rs (Rv.cs (rvOf {x with tr := true} g ba bc bh bm)) (Bv.cs m.bk) (Rv.cs (rvOf {x with tr := true, bk := m.bk} g ba bc bh bm)) (HF.out.box 0 _ _ _ rfl) S44 (Bv.oneL _)) ?_
     try simp only [pS]
     have HG : Hid (OwI (wk46.setRow r (Rv.cells (rvOf {x with tr := true, bk := m.bk} g ba bc bh bm))) 0 g x.zs) := HG.out.kept (Kept.setRow _ _ _) (fun k h e => (HG.out.own.notBox (HF.out.box 0 _ _ _ rfl) (by decide)) ((show k = r from e) ▸ h))
     have HF : Hid (Fq J w (wk46.setRow r (Rv.cells (rvOf {x with tr := true, bk := m.bk} g ba bc bh bm))) [(r, 56, Rv.cells (rvOf {x with tr := true, bk := m.bk} g ba bc bh bm)), (ba, 4, (boL (x.qa)).toArray), (bc, 4, (boL (x.qc)).toArray), (bh, 39, (spL (x.qh)).toArray), (bm, 28, (cmL (x.qm)).toArray), (gk1, 47, Mg.cells m)]) := HF.out.set 0 rfl _
     generalize wk46.setRow r (Rv.cells (rvOf {x with tr := true, bk := m.bk} g ba bc bh bm)) = wk47 at HF HG ⊢
     refine WL.nil ?_
     try simp only [pS]
     go_upto_region 12 with fail
     refine WL.start <| uK (pV r 0) <| uK (pV r 0) <| uK (pV r 28) <| ?_
     try simp only [pS]
     refine uT 3 ⟨r, 28, none⟩ (.int .i64 3) (wk47.setRow r (Rv.cells (rvOf {x with ph := 3, tr := true, bk := m.bk} g ba bc bh bm))) (rs (Rv.cs (rvOf {x with tr := true, bk := m.bk} g ba bc bh bm)) ([.int .i64 3]) (Rv.cs (rvOf {x with ph := 3, tr := true, bk := m.bk} g ba bc bh bm)) (HF.out.box 0 _ _ _ rfl) S3 (by simp [Value.oneCell', Sl.v])) ?_
     try simp only [pS]
     have HG : Hid (OwI (wk47.setRow r (Rv.cells (rvOf {x with ph := 3, tr := true, bk := m.bk} g ba bc bh bm))) 0 g x.zs) := HG.out.kept (Kept.setRow _ _ _) (fun k h e => (HG.out.own.notBox (HF.out.box 0 _ _ _ rfl) (by decide)) ((show k = r from e) ▸ h))
     have HF : Hid (Fq J w (wk47.setRow r (Rv.cells (rvOf {x with ph := 3, tr := true, bk := m.bk} g ba bc bh bm))) [(r, 56, Rv.cells (rvOf {x with ph := 3, tr := true, bk := m.bk} g ba bc bh bm)), (ba, 4, (boL (x.qa)).toArray), (bc, 4, (boL (x.qc)).toArray), (bh, 39, (spL (x.qh)).toArray), (bm, 28, (cmL (x.qm)).toArray), (gk1, 47, Mg.cells m)]) := HF.out.set 0 rfl _
     generalize wk47.setRow r (Rv.cells (rvOf {x with ph := 3, tr := true, bk := m.bk} g ba bc bh bm)) = wk48 at HF HG ⊢
     refine WL.nil ?_
     try simp only [pS]
     go_upto_region 13 with fail
     refine WL.start <| uK (.slice none 0 0) <| WL.nil <| ?_
     try simp only [pS]
     go_wp2
     rw [HC.out]
     have hx : takeR x m = ({ x with tr := true, bk := m.bk, ph := 3 }, []) := by unfold takeR; rw [if_neg (by have := HN.out; omega), if_neg (by rw [q2]; simp), if_pos q3]
     rw [hx]
     exact ⟨slZ, rfl, OwM.nil _ _, RfB.mk2 (x := { x with tr := true, bk := m.bk, ph := 3 }) (g := g) (ba := ba) (bc := bc) (bh := bh) (bm := bm) (Fq.front (m := [(gk1, 47, Mg.cells m)]) HF.out) HG.out HJ.out (by first | exact hla | simp [prmR, accR, hla]) (by first | exact hlc | simp [prmR, accR, hlc]) (by first | exact hlh | simp [prmR, accR, hlh]) (by first | exact hlm | simp [prmR, accR, hlm]) hnn, HF.out.kept⟩
   ·skip
    refine uB .eql 3 (.int .i64 m.k) (.int .i64 16) (.bool true) (by rw [b_eql, q2]; try rfl) <| WL.nil <| ?_
    try simp only [pS]
    go_upto_region 5 with fail
    refine WL.start <| uK (pV r 0) <| uK (pV r 0) <| uK (pV r 34) <| ?_
    try simp only [pS]
    refine uT 4 ⟨r, 34, none⟩ (.bool true) (wk3.setRow r (Rv.cells (rvOf {x with de := true} g ba bc bh bm))) (rs (Rv.cs (rvOf x g ba bc bh bm)) ([.bool true]) (Rv.cs (rvOf {x with de := true} g ba bc bh bm)) (HF.out.box 0 _ _ _ rfl) S4 (by simp [Value.oneCell', Sl.v])) ?_
    try simp only [pS]
    have HG : Hid (OwI (wk3.setRow r (Rv.cells (rvOf {x with de := true} g ba bc bh bm))) 0 g x.zs) := HG.out.kept (Kept.setRow _ _ _) (fun k h e => (HG.out.own.notBox (HF.out.box 0 _ _ _ rfl) (by decide)) ((show k = r from e) ▸ h))
    have HF : Hid (Fq J w (wk3.setRow r (Rv.cells (rvOf {x with de := true} g ba bc bh bm))) [(r, 56, Rv.cells (rvOf {x with de := true} g ba bc bh bm)), (ba, 4, (boL (x.qa)).toArray), (bc, 4, (boL (x.qc)).toArray), (bh, 39, (spL (x.qh)).toArray), (bm, 28, (cmL (x.qm)).toArray), (gk1, 47, Mg.cells m)]) := HF.out.set 0 rfl _
    generalize wk3.setRow r (Rv.cells (rvOf {x with de := true} g ba bc bh bm)) = wk49 at HF HG ⊢
    refine WL.nil ?_
    try simp only [pS]
    go_upto_region 6 with fail
    refine WL.start <| uK (pV r 0) <| uK (pV gk1 16) <| uL 28 ⟨gk1, 16, none⟩ (.agg (Cm.cells m.c)) (run_load_part (cs := Mg.cs m) (sub := Cm.cs m.c) (HF.out.box 5 _ _ _ rfl) (part_of (by kernel_rfl)) U28 rfl S28) <| uK (pV r 0) <| uK (pV r 37) <| ?_
    try simp only [pS]
    refine uT 28 ⟨r, 37, none⟩ (.agg (Cm.cells m.c)) (wk49.setRow r (Rv.cells (rvOf {x with de := true, dc := m.c} g ba bc bh bm))) (rs (Rv.cs (rvOf {x with de := true} g ba bc bh bm)) (Cm.cs m.c) (Rv.cs (rvOf {x with de := true, dc := m.c} g ba bc bh bm)) (HF.out.box 0 _ _ _ rfl) S28 (Cm.oneL _)) ?_
    try simp only [pS]
    have HG : Hid (OwI (wk49.setRow r (Rv.cells (rvOf {x with de := true, dc := m.c} g ba bc bh bm))) 0 g x.zs) := HG.out.kept (Kept.setRow _ _ _) (fun k h e => (HG.out.own.notBox (HF.out.box 0 _ _ _ rfl) (by decide)) ((show k = r from e) ▸ h))
    have HF : Hid (Fq J w (wk49.setRow r (Rv.cells (rvOf {x with de := true, dc := m.c} g ba bc bh bm))) [(r, 56, Rv.cells (rvOf {x with de := true, dc := m.c} g ba bc bh bm)), (ba, 4, (boL (x.qa)).toArray), (bc, 4, (boL (x.qc)).toArray), (bh, 39, (spL (x.qh)).toArray), (bm, 28, (cmL (x.qm)).toArray), (gk1, 47, Mg.cells m)]) := HF.out.set 0 rfl _
    generalize wk49.setRow r (Rv.cells (rvOf {x with de := true, dc := m.c} g ba bc bh bm)) = wk50 at HF HG ⊢
    refine WL.nil ?_
    try simp only [pS]
    go_upto_region 7 with fail
    refine WL.start <| uK (pV r 0) <| uK (pV r 0) <| uK (pV r 28) <| ?_
    try simp only [pS]
    refine uT 3 ⟨r, 28, none⟩ (.int .i64 3) (wk50.setRow r (Rv.cells (rvOf {x with ph := 3, de := true, dc := m.c} g ba bc bh bm))) (rs (Rv.cs (rvOf {x with de := true, dc := m.c} g ba bc bh bm)) ([.int .i64 3]) (Rv.cs (rvOf {x with ph := 3, de := true, dc := m.c} g ba bc bh bm)) (HF.out.box 0 _ _ _ rfl) S3 (by simp [Value.oneCell', Sl.v])) ?_
    try simp only [pS]
    have HG : Hid (OwI (wk50.setRow r (Rv.cells (rvOf {x with ph := 3, de := true, dc := m.c} g ba bc bh bm))) 0 g x.zs) := HG.out.kept (Kept.setRow _ _ _) (fun k h e => (HG.out.own.notBox (HF.out.box 0 _ _ _ rfl) (by decide)) ((show k = r from e) ▸ h))
    have HF : Hid (Fq J w (wk50.setRow r (Rv.cells (rvOf {x with ph := 3, de := true, dc := m.c} g ba bc bh bm))) [(r, 56, Rv.cells (rvOf {x with ph := 3, de := true, dc := m.c} g ba bc bh bm)), (ba, 4, (boL (x.qa)).toArray), (bc, 4, (boL (x.qc)).toArray), (bh, 39, (spL (x.qh)).toArray), (bm, 28, (cmL (x.qm)).toArray), (gk1, 47, Mg.cells m)]) := HF.out.set 0 rfl _
    generalize wk50.setRow r (Rv.cells (rvOf {x with ph := 3, de := true, dc := m.c} g ba bc bh bm)) = wk51 at HF HG ⊢
    refine WL.nil ?_
    try simp only [pS]
    go_upto_region 8 with fail
    refine WL.start <| uK (.slice none 0 0) <| WL.nil <| ?_
    try simp only [pS]
    go_wp2
    rw [HC.out]
    have hx : takeR x m = ({ x with de := true, dc := m.c, ph := 3 }, []) := by unfold takeR; rw [if_neg (by have := HN.out; omega), if_pos q2]
    rw [hx]
    exact ⟨slZ, rfl, OwM.nil _ _, RfB.mk2 (x := { x with de := true, dc := m.c, ph := 3 }) (g := g) (ba := ba) (bc := bc) (bh := bh) (bm := bm) (Fq.front (m := [(gk1, 47, Mg.cells m)]) HF.out) HG.out HJ.out (by first | exact hla | simp [prmR, accR, hla]) (by first | exact hlc | simp [prmR, accR, hlc]) (by first | exact hlh | simp [prmR, accR, hlh]) (by first | exact hlm | simp [prmR, accR, hlm]) hnn, HF.out.kept⟩
  ·skip
   refine uB .lss 3 (.int .i64 pl) (.int .i64 0) (.bool true) (by rw [b_lss, q1]; try rfl) <| WL.nil <| ?_
   try simp only [pS]
   go_upto_region 3 with fail
   refine WL.start <| uK (.slice none 0 0) <| WL.nil <| ?_
   try simp only [pS]
   go_wp2
   rw [HC.out]
   have hx : takeR x m = (x, []) := by unfold takeR; rw [if_pos (by rw [← HPl.out]; exact of_decide_eq_true q1)]
   rw [hx]
   exact ⟨slZ, rfl, OwM.nil _ _, RfB.mk2 (x := x) (g := g) (ba := ba) (bc := bc) (bh := bh) (bm := bm) (Fq.front (m := [(gk1, 47, Mg.cells m)]) HF.out) HG.out HJ.out (by first | exact hla | simp [prmR, accR, hla]) (by first | exact hlc | simp [prmR, accR, hlc]) (by first | exact hlh | simp [prmR, accR, hlh]) (by first | exact hlm | simp [prmR, accR, hlm]) hnn, HF.out.kept⟩
theorem take_at {J : Nat → Prop} {w : World} {r : Nat} {x : Rs} (hB : RfAt w J r x) (m : Mg) : Calls Try.prog 40 #[.pointer (some ⟨r, 0, none⟩), .agg (Mg.cells m)] w (RfOut w J r (takeR x m)) := by
  obtain ⟨g, ba, bc, bh, bm, h⟩ := hB
  exact rTake_any J r x g ba bc bh bm m w h
theorem begin_at {J : Nat → Prop} {w : World} {r : Nat} {x : Rs} (hB : RfAt w J r x) : Calls Try.prog 37 #[.pointer (some ⟨r, 0, none⟩)] w (RfOut w J r (begR x)) := by
  obtain ⟨g, ba, bc, bh, bm, h⟩ := hB
  exact rBegin_any J r x g ba bc bh bm w h
theorem tick_at {J : Nat → Prop} {w : World} {r : Nat} {x : Rs} (hB : RfAt w J r x) : Calls Try.prog 38 #[.pointer (some ⟨r, 0, none⟩)] w (RfOut w J r (tickR x)) := by
  obtain ⟨g, ba, bc, bh, bm, h⟩ := hB
  exact rTick_any J r x g ba bc bh bm w h

end Go.Proofs.Ytpabpeppgpeaoaa.Md
