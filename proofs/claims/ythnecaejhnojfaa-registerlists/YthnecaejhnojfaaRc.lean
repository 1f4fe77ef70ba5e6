import Derived.Test.YthnecaejhnojfaaRb
namespace Go.Proofs.Ythnecaejhnojfaa.Md
open Go.RowKit
set_option linter.unusedVariables false
set_option linter.unusedSimpArgs false

/-- Whether a message fits what is asked; the place of its sender. -/
def plcB (x : Rx) (m : Mg) : Bool := (x.ph == 1 || x.ph == 2) && ((m.k == if x.ph == 2 then 12 else 11) && (!m.fr.cl && (eqA m.too ⟨true, x.cl⟩ && ((m.op == x.op) && ((m.rd == x.rd) && eqK m.ky x.ky)))))
def hitJ (x : Rx) (m : Mg) (j : Nat) : Bool := (x.zs[j]?.getD 0 == m.fr.id) && !(x.qa[j]?.getD false)
def PlcIs (x : Rx) (m : Mg) (e : Int) : Prop := (e = -1 ∧ (plcB x m = false ∨ ∀ j, j < x.zs.length → hitJ x m j = false)) ∨ ∃ i : Nat, e = (i : Int) ∧ i < x.zs.length ∧ plcB x m = true ∧ hitJ x m i = true ∧ ∀ j, j < i → hitJ x m j = false
set_option maxRecDepth 100000 in
set_option maxHeartbeats 4000000 in
theorem rPlace (r : Nat) (x : Rx) (g : Sl) (ba bv : Nat) (m : Mg) (w : World) (hB : RfL w r x g ba bv) : Calls Try.prog 28 #[.pointer (some ⟨r, 0, none⟩), .agg (Mg.cells m)] w (fun e w' => (∃ o : Int, e = .returned (.int .i64 o) ∧ PlcIs x m o) ∧ Kept No w w') := by
  obtain ⟨C, hC⟩ : ∃ C : Ending → World → Prop, C = (fun e w' => (∃ o : Int, e = .returned (.int .i64 o) ∧ PlcIs x m o) ∧ Kept No w w') := ⟨_, rfl⟩
  have HC : Hid (C = (fun e w' => (∃ o : Int, e = .returned (.int .i64 o) ∧ PlcIs x m o) ∧ Kept No w w')) := hC
  rw [← hC]
  clear hC
  have HBr : Hid (Box w r 62 (rvL x g ba bv).cells) := hB.box
  have HG : Hid (OwI w 0 g x.zs) := hB.gr
  have hzl := hB.gr.len
  have hnn := hB.hn
  have HBa : Hid (Box w ba 4 (boL x.qa).toArray) := hB.ba
  have HBv : Hid (Box w bv 52 (mgL x.vs).toArray) := hB.bv
  have hla := hB.la
  have hlv := hB.lv
  clear hB
  have HF : Hid (Fq No w w []) := Fq.start _ _
  go_enter Try.func28, Try.ntmps28
  go_upto_region 0 with fail
  refine WL.start ?_
  refine uR (.pointer (some ⟨w.heap.size, 0, none⟩)) (w.alloc (.cells (Mg.cells m) 52)) (exec_box 52 _ rfl (Mg.cells m) (by kernel_rfl)) ?_
  try simp only [pS]
  have HF : Hid (Fq No w (w.alloc (.cells (Mg.cells m) 52)) [(w.heap.size, 52, Mg.cells m)]) := HF.out.alloc _ _
  generalize w.alloc (.cells (Mg.cells m) 52) = wk2 at HF ⊢
  generalize w.heap.size = gk1 at HF ⊢
  refine uK (.int .i64 0) <| WL.nil <| ?_
  try simp only [pS]
  go_upto_region 1 with fail
  refine WL.start <| uK (.int .i64 11) <| WL.nil <| ?_
  try simp only [pS]
  go_upto_region 2 with fail
  refine WL.start <| uK (.pointer (some ⟨r, 0, none⟩)) <| uK (.pointer (some ⟨r, 0, none⟩)) <| uK (.pointer (some ⟨r, 11, none⟩)) <| uL 3 ⟨r, 11, none⟩ (.int .i64 x.ph) (load_one ((HBr.out.kept HF.out.kept (fun e => e)).cell 11 |>.trans (by kernel_rfl)) U3 rfl) <| ?_
  try simp only [pS]
  cases q1 : (x.ph == 2)
  ·skip
   refine uB .eql 3 (.int .i64 x.ph) (.int .i64 2) (.bool false) (by rw [b_eql, q1]; try rfl) <| WL.nil <| ?_
   try simp only [pS]
   go_upto_region 4 with fail
   refine wp_region_held_drew (S := fun w' => Fq No w w' [(gk1, 52, Mg.cells m)]) rfl (HF.out.drew) (fun hH => ?_)
   have HF : Hid (Fq No w (wk2.drew) [(gk1, 52, Mg.cells m)]) := HF.out.drew
   generalize wk2.drew = wk3 at HF hH ⊢
   refine xV 0 12 (.pointer (some ⟨r, 0, none⟩)) hH <| xV 1 13 (.pointer (some ⟨r, 0, none⟩)) hH <| xV 2 14 (.pointer (some ⟨r, 11, none⟩)) hH <| xL 3 15 3 ⟨r, 11, none⟩ (.int .i64 x.ph) (fun _ hw => load_one ((HBr.out.kept hw.kept (fun e => e)).cell 11 |>.trans (by kernel_rfl)) U3 rfl) hH <| ?_
   try simp only [pS]
   cases q2 : (x.ph == 1)
   ·skip
    refine xB 4 16 .neq 3 (.int .i64 x.ph) (.int .i64 1) (.bool true) (fun _ _ => by rw [b_neq, q2]; try rfl) hH <| xV 5 17 (.bool true) hH <| xV 6 18 (.pointer (some ⟨r, 0, none⟩)) hH <| xV 7 19 (.pointer (some ⟨r, 0, none⟩)) hH <| xV 8 20 (.pointer (some ⟨r, 11, none⟩)) hH <| xL 9 21 3 ⟨r, 11, none⟩ (.int .i64 x.ph) (fun _ hw => load_one ((HBr.out.kept hw.kept (fun e => e)).cell 11 |>.trans (by kernel_rfl)) U3 rfl) hH <| ?_
    try simp only [pS]
    refine xB 10 22 .neq 3 (.int .i64 x.ph) (.int .i64 2) (.bool true) (fun _ _ => by rw [b_neq, q1]; try rfl) hH <| xV 11 23 (.bool true) hH <| xV 12 24 (.bool true) hH <| xZ 13 25 hH <| xZ 14 26 hH <| xZ 15 27 hH <| ?_
    try simp only [pS]
    refine xZ 16 28 hH <| xV 17 29 (.bool true) hH <| xV 18 30 (.bool true) hH <| xZ 19 31 hH <| xZ 20 32 hH <| xZ 21 33 hH <| ?_
    try simp only [pS]
    refine xV 22 34 (.bool true) hH <| xV 23 35 (.bool true) hH <| xZ 24 36 hH <| xZ 25 37 hH <| xZ 26 38 hH <| xZ 27 39 hH <| ?_
    try simp only [pS]
    refine xZ 28 40 hH <| xZ 29 41 hH <| xZ 30 42 hH <| xZ 31 43 hH <| xV 32 44 (.bool true) hH <| xV 33 45 (.bool true) hH <| ?_
    try simp only [pS]
    refine xZ 34 46 hH <| xZ 35 47 hH <| xZ 36 48 hH <| xZ 37 49 hH <| xZ 38 50 hH <| xZ 39 51 hH <| ?_
    try simp only [pS]
    refine xZ 40 52 hH <| xV 41 53 (.bool true) hH <| xV 42 54 (.bool true) hH <| xZ 43 55 hH <| xZ 44 56 hH <| xZ 45 57 hH <| ?_
    try simp only [pS]
    refine xZ 46 58 hH <| xZ 47 59 hH <| xZ 48 60 hH <| xZ 49 61 hH <| xV 50 62 (.bool true) hH <| xV 51 63 (.bool true) hH <| ?_
    try simp only [pS]
    refine xZ 52 64 hH <| xZ 53 65 hH <| xZ 54 66 hH <| xZ 55 67 hH <| xZ 56 68 hH <| xZ 57 69 hH <| ?_
    try simp only [pS]
    refine xZ 58 70 hH <| xV 59 71 (.bool true) hH <| ?_
    try simp only [pS]
    refine wpAnyH_done (by kernel_rfl) ?_ _
    try simp only [pS]
    clear hH
    go_upto_region 5 with fail
    refine WL.start <| uK (.int .i64 (-1)) <| WL.nil <| ?_
    try simp only [pS]
    go_wp2
    rw [HC.out]
    exact ⟨⟨-1, rfl, .inl ⟨rfl, .inl (by simp [plcB, q1, q2])⟩⟩, HF.out.kept⟩
   ·skip
    refine xB 4 16 .neq 3 (.int .i64 x.ph) (.int .i64 1) (.bool false) (fun _ _ => by rw [b_neq, q2]; try rfl) hH <| xV 5 17 (.bool false) hH <| xZ 6 18 hH <| xZ 7 19 hH <| xZ 8 20 hH <| xZ 9 21 hH <| ?_
    try simp only [pS]
    refine xZ 10 22 hH <| xV 11 23 (.bool false) hH <| xV 12 24 (.bool false) hH <| xV 13 25 (.pointer (some ⟨gk1, 0, none⟩)) hH <| xL 14 26 3 ⟨gk1, 0, none⟩ (.int .i64 m.k) (fun _ hw => load_one ((hw.box 0 _ _ _ rfl).cell 0 |>.trans (by kernel_rfl)) U3 rfl) hH <| xV 15 27 (.int .i64 11) hH <| ?_
    try simp only [pS]
    cases q3 : (m.k == 11)
    ·skip
     refine xB 16 28 .neq 3 (.int .i64 m.k) (.int .i64 11) (.bool true) (fun _ _ => by rw [b_neq, q3]; try rfl) hH <| xV 17 29 (.bool true) hH <| xV 18 30 (.bool true) hH <| xZ 19 31 hH <| xZ 20 32 hH <| xZ 21 33 hH <| ?_
     try simp only [pS]
     refine xV 22 34 (.bool true) hH <| xV 23 35 (.bool true) hH <| xZ 24 36 hH <| xZ 25 37 hH <| xZ 26 38 hH <| xZ 27 39 hH <| ?_
     try simp only [pS]
     refine xZ 28 40 hH <| xZ 29 41 hH <| xZ 30 42 hH <| xZ 31 43 hH <| xV 32 44 (.bool true) hH <| xV 33 45 (.bool true) hH <| ?_
     try simp only [pS]
     refine xZ 34 46 hH <| xZ 35 47 hH <| xZ 36 48 hH <| xZ 37 49 hH <| xZ 38 50 hH <| xZ 39 51 hH <| ?_
     try simp only [pS]
     refine xZ 40 52 hH <| xV 41 53 (.bool true) hH <| xV 42 54 (.bool true) hH <| xZ 43 55 hH <| xZ 44 56 hH <| xZ 45 57 hH <| ?_
     try simp only [pS]
     refine xZ 46 58 hH <| xZ 47 59 hH <| xZ 48 60 hH <| xZ 49 61 hH <| xV 50 62 (.bool true) hH <| xV 51 63 (.bool true) hH <| ?_
     try simp only [pS]
     refine xZ 52 64 hH <| xZ 53 65 hH <| xZ 54 66 hH <| xZ 55 67 hH <| xZ 56 68 hH <| xZ 57 69 hH <| ?_
     try simp only [pS]
     refine xZ 58 70 hH <| xV 59 71 (.bool true) hH <| ?_
     try simp only [pS]
     refine wpAnyH_done (by kernel_rfl) ?_ _
     try simp only [pS]
     clear hH
     go_upto_region 5 with fail
     refine WL.start <| uK (.int .i64 (-1)) <| WL.nil <| ?_
     try simp only [pS]
     go_wp2
     rw [HC.out]
     exact ⟨⟨-1, rfl, .inl ⟨rfl, .inl (by simp [plcB, q1, q2, q3])⟩⟩, HF.out.kept⟩
    ·skip
     refine xB 16 28 .neq 3 (.int .i64 m.k) (.int .i64 11) (.bool false) (fun _ _ => by rw [b_neq, q3]; try rfl) hH <| xV 17 29 (.bool false) hH <| xV 18 30 (.bool false) hH <| xV 19 31 (.pointer (some ⟨gk1, 1, none⟩)) hH <| xV 20 32 (.pointer (some ⟨gk1, 1, none⟩)) hH <| xL 21 33 4 ⟨gk1, 1, none⟩ (.bool m.fr.cl) (fun _ hw => load_one ((hw.box 0 _ _ _ rfl).cell 1 |>.trans (by kernel_rfl)) U4 rfl) hH <| ?_
     try simp only [pS]
     refine xV 22 34 (.bool m.fr.cl) hH <| xV 23 35 (.bool m.fr.cl) hH <| ?_
     try simp only [pS]
     cases q4 : (m.fr.cl)
     ·skip
      try simp only [q4]
      refine xV 24 36 (.pointer (some ⟨gk1, 3, none⟩)) hH <| xL 25 37 39 ⟨gk1, 3, none⟩ (.agg (Ad.cells m.too)) (fun _ hw => run_load_part (cs := Mg.cs m) (sub := Ad.cs m.too) (hw.box 0 _ _ _ rfl) (part_of (by kernel_rfl)) U39 rfl S39) hH <| xV 26 38 (.pointer (some ⟨r, 0, none⟩)) hH <| xV 27 39 (.pointer (some ⟨r, 0, none⟩)) hH <| xV 28 40 (.pointer (some ⟨r, 1, none⟩)) hH <| xL 29 41 3 ⟨r, 1, none⟩ (.int .i64 x.cl) (fun _ hw => load_one ((HBr.out.kept hw.kept (fun e => e)).cell 1 |>.trans (by kernel_rfl)) U3 rfl) hH <| ?_
      try simp only [pS]
      refine xU 30 42 (.agg (Ad.cells ⟨true, x.cl⟩)) (fun w' hw => exec_build 39 _ rfl (Ad.cells ⟨true, x.cl⟩) (by kernel_rfl)) hH ?_
      try simp only [pS]
      cases q5 : (eqA m.too ⟨true, x.cl⟩)
      ·skip
       refine xB 31 43 .neq 39 (.agg (Ad.cells m.too)) (.agg (Ad.cells ⟨true, x.cl⟩)) (.bool true) (fun _ _ => by rw [eqA_neq, q5]; try rfl) hH <| xV 32 44 (.bool true) hH <| xV 33 45 (.bool true) hH <| xZ 34 46 hH <| xZ 35 47 hH <| xZ 36 48 hH <| ?_
       try simp only [pS]
       refine xZ 37 49 hH <| xZ 38 50 hH <| xZ 39 51 hH <| xZ 40 52 hH <| xV 41 53 (.bool true) hH <| xV 42 54 (.bool true) hH <| ?_
       try simp only [pS]
       refine xZ 43 55 hH <| xZ 44 56 hH <| xZ 45 57 hH <| xZ 46 58 hH <| xZ 47 59 hH <| xZ 48 60 hH <| ?_
       try simp only [pS]
       refine xZ 49 61 hH <| xV 50 62 (.bool true) hH <| xV 51 63 (.bool true) hH <| xZ 52 64 hH <| xZ 53 65 hH <| xZ 54 66 hH <| ?_
       try simp only [pS]
       refine xZ 55 67 hH <| xZ 56 68 hH <| xZ 57 69 hH <| xZ 58 70 hH <| xV 59 71 (.bool true) hH <| ?_
       try simp only [pS]
       refine wpAnyH_done (by kernel_rfl) ?_ _
       try simp only [pS]
       clear hH
       go_upto_region 5 with fail
       refine WL.start <| uK (.int .i64 (-1)) <| WL.nil <| ?_
       try simp only [pS]
       go_wp2
       rw [HC.out]
       exact ⟨⟨-1, rfl, .inl ⟨rfl, .inl (by simp [plcB, q1, q2, q3, q4, q5])⟩⟩, HF.out.kept⟩
      ·skip
       refine xB 31 43 .neq 39 (.agg (Ad.cells m.too)) (.agg (Ad.cells ⟨true, x.cl⟩)) (.bool false) (fun _ _ => by rw [eqA_neq, q5]; try rfl) hH <| xV 32 44 (.bool false) hH <| xV 33 45 (.bool false) hH <| xV 34 46 (.pointer (some ⟨gk1, 5, none⟩)) hH <| xL 35 47 3 ⟨gk1, 5, none⟩ (.int .i64 m.op) (fun _ hw => load_one ((hw.box 0 _ _ _ rfl).cell 5 |>.trans (by kernel_rfl)) U3 rfl) hH <| xV 36 48 (.pointer (some ⟨r, 0, none⟩)) hH <| ?_
       try simp only [pS]
       refine xV 37 49 (.pointer (some ⟨r, 0, none⟩)) hH <| xV 38 50 (.pointer (some ⟨r, 2, none⟩)) hH <| xL 39 51 3 ⟨r, 2, none⟩ (.int .i64 x.op) (fun _ hw => load_one ((HBr.out.kept hw.kept (fun e => e)).cell 2 |>.trans (by kernel_rfl)) U3 rfl) hH <| ?_
       try simp only [pS]
       cases q6 : (m.op == x.op)
       ·skip
        refine xB 40 52 .neq 3 (.int .i64 m.op) (.int .i64 x.op) (.bool true) (fun _ _ => by rw [b_neq, q6]; try rfl) hH <| xV 41 53 (.bool true) hH <| xV 42 54 (.bool true) hH <| xZ 43 55 hH <| xZ 44 56 hH <| xZ 45 57 hH <| ?_
        try simp only [pS]
        refine xZ 46 58 hH <| xZ 47 59 hH <| xZ 48 60 hH <| xZ 49 61 hH <| xV 50 62 (.bool true) hH <| xV 51 63 (.bool true) hH <| ?_
        try simp only [pS]
        refine xZ 52 64 hH <| xZ 53 65 hH <| xZ 54 66 hH <| xZ 55 67 hH <| xZ 56 68 hH <| xZ 57 69 hH <| ?_
        try simp only [pS]
        refine xZ 58 70 hH <| xV 59 71 (.bool true) hH <| ?_
        try simp only [pS]
        refine wpAnyH_done (by kernel_rfl) ?_ _
        try simp only [pS]
        clear hH
        go_upto_region 5 with fail
        refine WL.start <| uK (.int .i64 (-1)) <| WL.nil <| ?_
        try simp only [pS]
        go_wp2
        rw [HC.out]
        exact ⟨⟨-1, rfl, .inl ⟨rfl, .inl (by simp [plcB, q1, q2, q3, q4, q5, q6])⟩⟩, HF.out.kept⟩
       ·skip
        refine xB 40 52 .neq 3 (.int .i64 m.op) (.int .i64 x.op) (.bool false) (fun _ _ => by rw [b_neq, q6]; try rfl) hH <| xV 41 53 (.bool false) hH <| xV 42 54 (.bool false) hH <| xV 43 55 (.pointer (some ⟨gk1, 6, none⟩)) hH <| xL 44 56 3 ⟨gk1, 6, none⟩ (.int .i64 m.rd) (fun _ hw => load_one ((hw.box 0 _ _ _ rfl).cell 6 |>.trans (by kernel_rfl)) U3 rfl) hH <| xV 45 57 (.pointer (some ⟨r, 0, none⟩)) hH <| ?_
        try simp only [pS]
        refine xV 46 58 (.pointer (some ⟨r, 0, none⟩)) hH <| xV 47 59 (.pointer (some ⟨r, 8, none⟩)) hH <| xL 48 60 3 ⟨r, 8, none⟩ (.int .i64 x.rd) (fun _ hw => load_one ((HBr.out.kept hw.kept (fun e => e)).cell 8 |>.trans (by kernel_rfl)) U3 rfl) hH <| ?_
        try simp only [pS]
        cases q7 : (m.rd == x.rd)
        ·skip
         refine xB 49 61 .neq 3 (.int .i64 m.rd) (.int .i64 x.rd) (.bool true) (fun _ _ => by rw [b_neq, q7]; try rfl) hH <| xV 50 62 (.bool true) hH <| xV 51 63 (.bool true) hH <| xZ 52 64 hH <| xZ 53 65 hH <| xZ 54 66 hH <| ?_
         try simp only [pS]
         refine xZ 55 67 hH <| xZ 56 68 hH <| xZ 57 69 hH <| xZ 58 70 hH <| xV 59 71 (.bool true) hH <| ?_
         try simp only [pS]
         refine wpAnyH_done (by kernel_rfl) ?_ _
         try simp only [pS]
         clear hH
         go_upto_region 5 with fail
         refine WL.start <| uK (.int .i64 (-1)) <| WL.nil <| ?_
         try simp only [pS]
         go_wp2
         rw [HC.out]
         exact ⟨⟨-1, rfl, .inl ⟨rfl, .inl (by simp [plcB, q1, q2, q3, q4, q5, q6, q7])⟩⟩, HF.out.kept⟩
        ·skip
         refine xB 49 61 .neq 3 (.int .i64 m.rd) (.int .i64 x.rd) (.bool false) (fun _ _ => by rw [b_neq, q7]; try rfl) hH <| xV 50 62 (.bool false) hH <| xV 51 63 (.bool false) hH <| xV 52 64 (.pointer (some ⟨gk1, 7, none⟩)) hH <| xL 53 65 23 ⟨gk1, 7, none⟩ (.agg (Ky.cells m.ky)) (fun _ hw => run_load_part (cs := Mg.cs m) (sub := Ky.cs m.ky) (hw.box 0 _ _ _ rfl) (part_of (by kernel_rfl)) U23 rfl S23) hH <| xV 54 66 (.pointer (some ⟨r, 0, none⟩)) hH <| ?_
         try simp only [pS]
         refine xV 55 67 (.pointer (some ⟨r, 0, none⟩)) hH <| xV 56 68 (.pointer (some ⟨r, 3, none⟩)) hH <| xL 57 69 23 ⟨r, 3, none⟩ (.agg (Ky.cells x.ky)) (fun _ hw => run_load_part (cs := Rv.cs (rvL x g ba bv)) (sub := Ky.cs x.ky) (HBr.out.kept hw.kept (fun e => e)) (part_of (by kernel_rfl)) U23 rfl S23) hH <| ?_
         try simp only [pS]
         cases q8 : (eqK m.ky x.ky)
         ·skip
          refine xB 58 70 .neq 23 (.agg (Ky.cells m.ky)) (.agg (Ky.cells x.ky)) (.bool true) (fun _ _ => by rw [eqK_neq, q8]; try rfl) hH <| xV 59 71 (.bool true) hH <| ?_
          try simp only [pS]
          refine wpAnyH_done (by kernel_rfl) ?_ _
          try simp only [pS]
          clear hH
          go_upto_region 5 with fail
          refine WL.start <| uK (.int .i64 (-1)) <| WL.nil <| ?_
          try simp only [pS]
          go_wp2
          rw [HC.out]
          exact ⟨⟨-1, rfl, .inl ⟨rfl, .inl (by simp [plcB, q1, q2, q3, q4, q5, q6, q7, q8])⟩⟩, HF.out.kept⟩
         ·skip
          refine xB 58 70 .neq 23 (.agg (Ky.cells m.ky)) (.agg (Ky.cells x.ky)) (.bool false) (fun _ _ => by rw [eqK_neq, q8]; try rfl) hH <| xV 59 71 (.bool false) hH <| ?_
          try simp only [pS]
          refine wpAnyH_done (by kernel_rfl) ?_ _
          try simp only [pS]
          clear hH
          have HA : Hid (plcB x m = true) := by show plcB x m = true; simp [plcB, q1, q2, q3, q4, q5, q6, q7, q8]
          clear q1 q2 q3 q4 q5 q6 q7 q8
          go_upto_region 6 with fail
          refine WL.start <| uK (.int .i64 0) <| WL.nil <| ?_
          try simp only [pS]
          go_wp2
          go_loopw [6] (fun v5 wr => ∃ (i : Nat), v5 = .int .i64 ((i : Nat) : Int) ∧ i ≤ g.l ∧ Hid (∀ j, j < i → hitJ x m j = false) ∧ Hid (Fq No w wr [(gk1, 52, Mg.cells m)])) (fun i _ => g.l - (intOf i).toNat)
          case atStart => exact ⟨0, by go_num, by omega, show ∀ j, j < 0 → hitJ x m j = false from fun j hj => absurd hj (Nat.not_lt_zero _), HF⟩
          case round =>
            clear HF
            obtain ⟨i, rfl, hi, HP, HF⟩ := hrel
            by_cases hlt : i < g.l
            · skip
              obtain ⟨bb, hbb⟩ := at_b hla hlt
              obtain ⟨gb, hga, hgc⟩ := HG.out.at (i := i) (by omega)
              have hsl : g.v = .slice (some ⟨gb, 0, none⟩) g.l g.k := by unfold Sl.v; rw [hga]
              have HGc : Hid (w.cell? ⟨gb, 0 + i * 1, none⟩ = some (.int .i64 (x.zs[i]?.getD 0))) := hgc
              clear hga hgc
              obtain ⟨z, hzz⟩ : ∃ z, z = x.zs[i]?.getD 0 := ⟨_, rfl⟩
              rw [← hzz] at HGc
              cases bb
              ·skip
               go_upto_region 7 with fail
               refine WL.start <| uK (.int .i64 ((i : Nat) : Int)) <| uK (.pointer (some ⟨r, 0, none⟩)) <| uK (.pointer (some ⟨r, 0, none⟩)) <| uK (.pointer (some ⟨r, 7, none⟩)) <| uL 24 ⟨r, 7, none⟩ (g.v) (load_one ((HBr.out.kept HF.out.kept (fun e => e)).cell 7 |>.trans (by kernel_rfl)) U24 rfl) <| uK (.int .i64 ((g.l : Nat) : Int)) <| uB .lss 3 (.int .i64 ((i : Nat) : Int)) (.int .i64 ((g.l : Nat) : Int)) (.bool true) (by rw [b_lss, decide_eq_true (by omega)]) <| WL.nil <| ?_
               try simp only [pS]
               go_upto_region 9 with fail
               refine wp_region_held_drew (S := fun w' => Fq No w w' [(gk1, 52, Mg.cells m)]) rfl (HF.out.drew) (fun hH => ?_)
               have HF : Hid (Fq No w (wr.drew) [(gk1, 52, Mg.cells m)]) := HF.out.drew
               generalize wr.drew = wk4 at HF hH ⊢
               refine xV 0 81 (.pointer (some ⟨r, 0, none⟩)) hH <| xV 1 82 (.pointer (some ⟨r, 0, none⟩)) hH <| xV 2 83 (.pointer (some ⟨r, 7, none⟩)) hH <| xL 3 84 24 ⟨r, 7, none⟩ g.v (fun _ hw => load_one ((HBr.out.kept hw.kept (fun e => e)).cell 7 |>.trans (by kernel_rfl)) U24 rfl) hH <| xV 4 85 (.int .i64 ((i : Nat) : Int)) hH <| xU 5 86 (.pointer (some ⟨gb, 0 + i * 1, none⟩)) (fun w' hw => exec_ixA 24 1 E24 F24 _ _ rfl gb 0 g.l g.k i (Eq.trans (b := g.v) (by kernel_rfl) hsl) (by kernel_rfl) (by omega)) hH <| ?_
               try simp only [pS]
               refine xL 6 87 3 ⟨gb, 0 + i * 1, none⟩ (.int .i64 z) (fun _ hw => load_one (hw.kept.cell HGc.out (fun e => e)) U3 rfl) hH <| xV 7 88 (.pointer (some ⟨gk1, 1, none⟩)) hH <| xV 8 89 (.pointer (some ⟨gk1, 2, none⟩)) hH <| xL 9 90 3 ⟨gk1, 2, none⟩ (.int .i64 m.fr.id) (fun _ hw => load_one ((hw.box 0 _ _ _ rfl).cell 2 |>.trans (by kernel_rfl)) U3 rfl) hH <| ?_
               try simp only [pS]
               cases q9 : (z == m.fr.id)
               ·skip
                refine xB 10 91 .eql 3 (.int .i64 z) (.int .i64 m.fr.id) (.bool false) (fun _ _ => by rw [b_eql, q9]; try rfl) hH <| xV 11 92 (.bool false) hH <| xZ 12 93 hH <| xZ 13 94 hH <| xZ 14 95 hH <| xZ 15 96 hH <| ?_
                try simp only [pS]
                refine xZ 16 97 hH <| xZ 17 98 hH <| xZ 18 99 hH <| xZ 19 100 hH <| xV 20 101 (.bool false) hH <| ?_
                try simp only [pS]
                refine wpAnyH_done (by kernel_rfl) ?_ _
                try simp only [pS]
                clear hH
                have HP2 : Hid (∀ j, j < i + 1 → hitJ x m j = false) := show ∀ j, j < i + 1 → hitJ x m j = false from fun j hj => by
                  rcases Nat.lt_or_ge j i with h | h
                  · exact HP.out j h
                  · obtain rfl : i = j := by omega
                    unfold hitJ; rw [← hzz, hbb, q9]; rfl
                go_upto_region 8 with fail
                refine WL.start <| uK (.int .i64 ((i : Nat) : Int)) <| uB .add 3 (.int .i64 ((i : Nat) : Int)) (.int .i64 1) (.int .i64 (((i + 1) : Nat) : Int)) (b_addw _ _ _ (by rw [IntKind.wrap_i64]; omega) _) <| uK (.int .i64 (((i + 1) : Nat) : Int)) <| WL.nil <| ?_
                try simp only [pS]
                go_wp2
                go_roundw
                case rel => exact ⟨i + 1, by go_num, by omega, HP2, HF⟩
                case measure => simp [intOf]; omega
               ·skip
                refine xB 10 91 .eql 3 (.int .i64 z) (.int .i64 m.fr.id) (.bool true) (fun _ _ => by rw [b_eql, q9]; try rfl) hH <| xV 11 92 (.bool true) hH <| xV 12 93 (.pointer (some ⟨r, 0, none⟩)) hH <| xV 13 94 (.pointer (some ⟨r, 0, none⟩)) hH <| xV 14 95 (.pointer (some ⟨r, 12, none⟩)) hH <| xL 15 96 60 ⟨r, 12, none⟩ (.slice (some ⟨ba, 0, none⟩) g.l g.l) (fun _ hw => load_one ((HBr.out.kept hw.kept (fun e => e)).cell 12 |>.trans (by kernel_rfl)) U70 rfl) hH <| ?_
                try simp only [pS]
                refine xV 16 97 (.int .i64 ((i : Nat) : Int)) hH <| xU 17 98 (.pointer (some ⟨ba, 0 + i * 1, none⟩)) (fun w' hw => exec_ixA 60 1 E70 F70 _ _ rfl ba 0 g.l g.l i (by kernel_rfl) (by kernel_rfl) (by omega)) hH <| xL 18 99 4 ⟨ba, 0 + i * 1, none⟩ (.bool false) (fun _ hw => ld_bo (HBa.out.kept hw.kept (fun e => e)) (by rw [hbb])) hH <| xV 19 100 (.bool true) hH <| xV 20 101 (.bool true) hH <| ?_
                try simp only [pS]
                refine wpAnyH_done (by kernel_rfl) ?_ _
                try simp only [pS]
                clear hH
                go_upto_region 10 with fail
                refine WL.start <| uK (.int .i64 ((i : Nat) : Int)) <| uK (.int .i64 ((i : Nat) : Int)) <| WL.nil <| ?_
                try simp only [pS]
                go_wp2
                rw [HC.out]
                exact ⟨⟨_, rfl, .inr ⟨i, rfl, by omega, HA.out, by unfold hitJ; rw [← hzz, hbb, q9]; rfl, HP.out⟩⟩, HF.out.kept⟩
              ·skip
               go_upto_region 7 with fail
               refine WL.start <| uK (.int .i64 ((i : Nat) : Int)) <| uK (.pointer (some ⟨r, 0, none⟩)) <| uK (.pointer (some ⟨r, 0, none⟩)) <| uK (.pointer (some ⟨r, 7, none⟩)) <| uL 24 ⟨r, 7, none⟩ (g.v) (load_one ((HBr.out.kept HF.out.kept (fun e => e)).cell 7 |>.trans (by kernel_rfl)) U24 rfl) <| uK (.int .i64 ((g.l : Nat) : Int)) <| uB .lss 3 (.int .i64 ((i : Nat) : Int)) (.int .i64 ((g.l : Nat) : Int)) (.bool true) (by rw [b_lss, decide_eq_true (by omega)]) <| WL.nil <| ?_
               try simp only [pS]
               go_upto_region 9 with fail
               refine wp_region_held_drew (S := fun w' => Fq No w w' [(gk1, 52, Mg.cells m)]) rfl (HF.out.drew) (fun hH => ?_)
               have HF : Hid (Fq No w (wr.drew) [(gk1, 52, Mg.cells m)]) := HF.out.drew
               generalize wr.drew = wk5 at HF hH ⊢
               refine xV 0 81 (.pointer (some ⟨r, 0, none⟩)) hH <| xV 1 82 (.pointer (some ⟨r, 0, none⟩)) hH <| xV 2 83 (.pointer (some ⟨r, 7, none⟩)) hH <| xL 3 84 24 ⟨r, 7, none⟩ g.v (fun _ hw => load_one ((HBr.out.kept hw.kept (fun e => e)).cell 7 |>.trans (by kernel_rfl)) U24 rfl) hH <| xV 4 85 (.int .i64 ((i : Nat) : Int)) hH <| xU 5 86 (.pointer (some ⟨gb, 0 + i * 1, none⟩)) (fun w' hw => exec_ixA 24 1 E24 F24 _ _ rfl gb 0 g.l g.k i (Eq.trans (b := g.v) (by kernel_rfl) hsl) (by kernel_rfl) (by omega)) hH <| ?_
               try simp only [pS]
               refine xL 6 87 3 ⟨gb, 0 + i * 1, none⟩ (.int .i64 z) (fun _ hw => load_one (hw.kept.cell HGc.out (fun e => e)) U3 rfl) hH <| xV 7 88 (.pointer (some ⟨gk1, 1, none⟩)) hH <| xV 8 89 (.pointer (some ⟨gk1, 2, none⟩)) hH <| xL 9 90 3 ⟨gk1, 2, none⟩ (.int .i64 m.fr.id) (fun _ hw => load_one ((hw.box 0 _ _ _ rfl).cell 2 |>.trans (by kernel_rfl)) U3 rfl) hH <| ?_
               try simp only [pS]
               cases q10 : (z == m.fr.id)
               ·skip
                refine xB 10 91 .eql 3 (.int .i64 z) (.int .i64 m.fr.id) (.bool false) (fun _ _ => by rw [b_eql, q10]; try rfl) hH <| xV 11 92 (.bool false) hH <| xZ 12 93 hH <| xZ 13 94 hH <| xZ 14 95 hH <| xZ 15 96 hH <| ?_
                try simp only [pS]
                refine xZ 16 97 hH <| xZ 17 98 hH <| xZ 18 99 hH <| xZ 19 100 hH <| xV 20 101 (.bool false) hH <| ?_
                try simp only [pS]
                refine wpAnyH_done (by kernel_rfl) ?_ _
                try simp only [pS]
                clear hH
                have HP2 : Hid (∀ j, j < i + 1 → hitJ x m j = false) := show ∀ j, j < i + 1 → hitJ x m j = false from fun j hj => by
                  rcases Nat.lt_or_ge j i with h | h
                  · exact HP.out j h
                  · obtain rfl : i = j := by omega
                    unfold hitJ; rw [← hzz, hbb, q10]; rfl
                go_upto_region 8 with fail
                refine WL.start <| uK (.int .i64 ((i : Nat) : Int)) <| uB .add 3 (.int .i64 ((i : Nat) : Int)) (.int .i64 1) (.int .i64 (((i + 1) : Nat) : Int)) (b_addw _ _ _ (by rw [IntKind.wrap_i64]; omega) _) <| uK (.int .i64 (((i + 1) : Nat) : Int)) <| WL.nil <| ?_
                try simp only [pS]
                go_wp2
                go_roundw
                case rel => exact ⟨i + 1, by go_num, by omega, HP2, HF⟩
                case measure => simp [intOf]; omega
               ·skip
                refine xB 10 91 .eql 3 (.int .i64 z) (.int .i64 m.fr.id) (.bool true) (fun _ _ => by rw [b_eql, q10]; try rfl) hH <| xV 11 92 (.bool true) hH <| xV 12 93 (.pointer (some ⟨r, 0, none⟩)) hH <| xV 13 94 (.pointer (some ⟨r, 0, none⟩)) hH <| xV 14 95 (.pointer (some ⟨r, 12, none⟩)) hH <| xL 15 96 60 ⟨r, 12, none⟩ (.slice (some ⟨ba, 0, none⟩) g.l g.l) (fun _ hw => load_one ((HBr.out.kept hw.kept (fun e => e)).cell 12 |>.trans (by kernel_rfl)) U70 rfl) hH <| ?_
                try simp only [pS]
                refine xV 16 97 (.int .i64 ((i : Nat) : Int)) hH <| xU 17 98 (.pointer (some ⟨ba, 0 + i * 1, none⟩)) (fun w' hw => exec_ixA 60 1 E70 F70 _ _ rfl ba 0 g.l g.l i (by kernel_rfl) (by kernel_rfl) (by omega)) hH <| xL 18 99 4 ⟨ba, 0 + i * 1, none⟩ (.bool true) (fun _ hw => ld_bo (HBa.out.kept hw.kept (fun e => e)) (by rw [hbb])) hH <| xV 19 100 (.bool false) hH <| xV 20 101 (.bool false) hH <| ?_
                try simp only [pS]
                refine wpAnyH_done (by kernel_rfl) ?_ _
                try simp only [pS]
                clear hH
                have HP2 : Hid (∀ j, j < i + 1 → hitJ x m j = false) := show ∀ j, j < i + 1 → hitJ x m j = false from fun j hj => by
                  rcases Nat.lt_or_ge j i with h | h
                  · exact HP.out j h
                  · obtain rfl : i = j := by omega
                    unfold hitJ; rw [← hzz, hbb, q10]; rfl
                go_upto_region 8 with fail
                refine WL.start <| uK (.int .i64 ((i : Nat) : Int)) <| uB .add 3 (.int .i64 ((i : Nat) : Int)) (.int .i64 1) (.int .i64 (((i + 1) : Nat) : Int)) (b_addw _ _ _ (by rw [IntKind.wrap_i64]; omega) _) <| uK (.int .i64 (((i + 1) : Nat) : Int)) <| WL.nil <| ?_
                try simp only [pS]
                go_wp2
                go_roundw
                case rel => exact ⟨i + 1, by go_num, by omega, HP2, HF⟩
                case measure => simp [intOf]; omega
            · skip
              go_upto_region 7 with fail
              refine WL.start <| uK (.int .i64 ((i : Nat) : Int)) <| uK (.pointer (some ⟨r, 0, none⟩)) <| uK (.pointer (some ⟨r, 0, none⟩)) <| uK (.pointer (some ⟨r, 7, none⟩)) <| uL 24 ⟨r, 7, none⟩ (g.v) (load_one ((HBr.out.kept HF.out.kept (fun e => e)).cell 7 |>.trans (by kernel_rfl)) U24 rfl) <| uK (.int .i64 ((g.l : Nat) : Int)) <| uB .lss 3 (.int .i64 ((i : Nat) : Int)) (.int .i64 ((g.l : Nat) : Int)) (.bool false) (by rw [b_lss, decide_eq_false (by omega)]) <| WL.nil <| ?_
              try simp only [pS]
              go_upto_region 11 with fail
              refine WL.start <| uK (.int .i64 (-1)) <| WL.nil <| ?_
              try simp only [pS]
              go_wp2
              rw [HC.out]
              exact ⟨⟨-1, rfl, .inl ⟨rfl, .inr (fun j hj => HP.out j (by omega))⟩⟩, HF.out.kept⟩
     ·skip
      try simp only [q4]
      refine xZ 24 36 hH <| xZ 25 37 hH <| xZ 26 38 hH <| xZ 27 39 hH <| xZ 28 40 hH <| xZ 29 41 hH <| ?_
      try simp only [pS]
      refine xZ 30 42 hH <| xZ 31 43 hH <| xV 32 44 (.bool true) hH <| xV 33 45 (.bool true) hH <| xZ 34 46 hH <| xZ 35 47 hH <| ?_
      try simp only [pS]
      refine xZ 36 48 hH <| xZ 37 49 hH <| xZ 38 50 hH <| xZ 39 51 hH <| xZ 40 52 hH <| xV 41 53 (.bool true) hH <| ?_
      try simp only [pS]
      refine xV 42 54 (.bool true) hH <| xZ 43 55 hH <| xZ 44 56 hH <| xZ 45 57 hH <| xZ 46 58 hH <| xZ 47 59 hH <| ?_
      try simp only [pS]
      refine xZ 48 60 hH <| xZ 49 61 hH <| xV 50 62 (.bool true) hH <| xV 51 63 (.bool true) hH <| xZ 52 64 hH <| xZ 53 65 hH <| ?_
      try simp only [pS]
      refine xZ 54 66 hH <| xZ 55 67 hH <| xZ 56 68 hH <| xZ 57 69 hH <| xZ 58 70 hH <| xV 59 71 (.bool true) hH <| ?_
      try simp only [pS]
      refine wpAnyH_done (by kernel_rfl) ?_ _
      try simp only [pS]
      clear hH
      go_upto_region 5 with fail
      refine WL.start <| uK (.int .i64 (-1)) <| WL.nil <| ?_
      try simp only [pS]
      go_wp2
      rw [HC.out]
      exact ⟨⟨-1, rfl, .inl ⟨rfl, .inl (by simp [plcB, q1, q2, q3, q4])⟩⟩, HF.out.kept⟩
  ·skip
   refine uB .eql 3 (.int .i64 x.ph) (.int .i64 2) (.bool true) (by rw [b_eql, q1]; try rfl) <| WL.nil <| ?_
   try simp only [pS]
   go_upto_region 3 with fail
   refine WL.start <| uK (.int .i64 12) <| WL.nil <| ?_
   try simp only [pS]
   go_upto_region 4 with fail
   refine wp_region_held_drew (S := fun w' => Fq No w w' [(gk1, 52, Mg.cells m)]) rfl (HF.out.drew) (fun hH => ?_)
   have HF : Hid (Fq No w (wk2.drew) [(gk1, 52, Mg.cells m)]) := HF.out.drew
   generalize wk2.drew = wk6 at HF hH ⊢
   refine xV 0 12 (.pointer (some ⟨r, 0, none⟩)) hH <| xV 1 13 (.pointer (some ⟨r, 0, none⟩)) hH <| xV 2 14 (.pointer (some ⟨r, 11, none⟩)) hH <| xL 3 15 3 ⟨r, 11, none⟩ (.int .i64 x.ph) (fun _ hw => load_one ((HBr.out.kept hw.kept (fun e => e)).cell 11 |>.trans (by kernel_rfl)) U3 rfl) hH <| ?_
   try simp only [pS]
   cases q11 : (x.ph == 1)
   ·skip
    refine xB 4 16 .neq 3 (.int .i64 x.ph) (.int .i64 1) (.bool true) (fun _ _ => by rw [b_neq, q11]; try rfl) hH <| xV 5 17 (.bool true) hH <| xV 6 18 (.pointer (some ⟨r, 0, none⟩)) hH <| xV 7 19 (.pointer (some ⟨r, 0, none⟩)) hH <| xV 8 20 (.pointer (some ⟨r, 11, none⟩)) hH <| xL 9 21 3 ⟨r, 11, none⟩ (.int .i64 x.ph) (fun _ hw => load_one ((HBr.out.kept hw.kept (fun e => e)).cell 11 |>.trans (by kernel_rfl)) U3 rfl) hH <| ?_
    try simp only [pS]
    refine xB 10 22 .neq 3 (.int .i64 x.ph) (.int .i64 2) (.bool false) (fun _ _ => by rw [b_neq, q1]; try rfl) hH <| xV 11 23 (.bool false) hH <| xV 12 24 (.bool false) hH <| xV 13 25 (.pointer (some ⟨gk1, 0, none⟩)) hH <| xL 14 26 3 ⟨gk1, 0, none⟩ (.int .i64 m.k) (fun _ hw => load_one ((hw.box 0 _ _ _ rfl).cell 0 |>.trans (by kernel_rfl)) U3 rfl) hH <| xV 15 27 (.int .i64 12) hH <| ?_
    try simp only [pS]
    cases q12 : (m.k == 12)
    ·skip
     refine xB 16 28 .neq 3 (.int .i64 m.k) (.int .i64 12) (.bool true) (fun _ _ => by rw [b_neq, q12]; try rfl) hH <| xV 17 29 (.bool true) hH <| xV 18 30 (.bool true) hH <| xZ 19 31 hH <| xZ 20 32 hH <| xZ 21 33 hH <| ?_
     try simp only [pS]
     refine xV 22 34 (.bool true) hH <| xV 23 35 (.bool true) hH <| xZ 24 36 hH <| xZ 25 37 hH <| xZ 26 38 hH <| xZ 27 39 hH <| ?_
     try simp only [pS]
     refine xZ 28 40 hH <| xZ 29 41 hH <| xZ 30 42 hH <| xZ 31 43 hH <| xV 32 44 (.bool true) hH <| xV 33 45 (.bool true) hH <| ?_
     try simp only [pS]
     refine xZ 34 46 hH <| xZ 35 47 hH <| xZ 36 48 hH <| xZ 37 49 hH <| xZ 38 50 hH <| xZ 39 51 hH <| ?_
     try simp only [pS]
     refine xZ 40 52 hH <| xV 41 53 (.bool true) hH <| xV 42 54 (.bool true) hH <| xZ 43 55 hH <| xZ 44 56 hH <| xZ 45 57 hH <| ?_
     try simp only [pS]
     refine xZ 46 58 hH <| xZ 47 59 hH <| xZ 48 60 hH <| xZ 49 61 hH <| xV 50 62 (.bool true) hH <| xV 51 63 (.bool true) hH <| ?_
     try simp only [pS]
     refine xZ 52 64 hH <| xZ 53 65 hH <| xZ 54 66 hH <| xZ 55 67 hH <| xZ 56 68 hH <| xZ 57 69 hH <| ?_
     try simp only [pS]
     refine xZ 58 70 hH <| xV 59 71 (.bool true) hH <| ?_
     try simp only [pS]
     refine wpAnyH_done (by kernel_rfl) ?_ _
     try simp only [pS]
     clear hH
     go_upto_region 5 with fail
     refine WL.start <| uK (.int .i64 (-1)) <| WL.nil <| ?_
     try simp only [pS]
     go_wp2
     rw [HC.out]
     exact ⟨⟨-1, rfl, .inl ⟨rfl, .inl (by simp [plcB, q1, q11, q12])⟩⟩, HF.out.kept⟩
    ·skip
     refine xB 16 28 .neq 3 (.int .i64 m.k) (.int .i64 12) (.bool false) (fun _ _ => by rw [b_neq, q12]; try rfl) hH <| xV 17 29 (.bool false) hH <| xV 18 30 (.bool false) hH <| xV 19 31 (.pointer (some ⟨gk1, 1, none⟩)) hH <| xV 20 32 (.pointer (some ⟨gk1, 1, none⟩)) hH <| xL 21 33 4 ⟨gk1, 1, none⟩ (.bool m.fr.cl) (fun _ hw => load_one ((hw.box 0 _ _ _ rfl).cell 1 |>.trans (by kernel_rfl)) U4 rfl) hH <| ?_
     try simp only [pS]
     refine xV 22 34 (.bool m.fr.cl) hH <| xV 23 35 (.bool m.fr.cl) hH <| ?_
     try simp only [pS]
     cases q13 : (m.fr.cl)
     ·skip
      try simp only [q13]
      refine xV 24 36 (.pointer (some ⟨gk1, 3, none⟩)) hH <| xL 25 37 39 ⟨gk1, 3, none⟩ (.agg (Ad.cells m.too)) (fun _ hw => run_load_part (cs := Mg.cs m) (sub := Ad.cs m.too) (hw.box 0 _ _ _ rfl) (part_of (by kernel_rfl)) U39 rfl S39) hH <| xV 26 38 (.pointer (some ⟨r, 0, none⟩)) hH <| xV 27 39 (.pointer (some ⟨r, 0, none⟩)) hH <| xV 28 40 (.pointer (some ⟨r, 1, none⟩)) hH <| xL 29 41 3 ⟨r, 1, none⟩ (.int .i64 x.cl) (fun _ hw => load_one ((HBr.out.kept hw.kept (fun e => e)).cell 1 |>.trans (by kernel_rfl)) U3 rfl) hH <| ?_
      try simp only [pS]
      refine xU 30 42 (.agg (Ad.cells ⟨true, x.cl⟩)) (fun w' hw => exec_build 39 _ rfl (Ad.cells ⟨true, x.cl⟩) (by kernel_rfl)) hH ?_
      try simp only [pS]
      cases q14 : (eqA m.too ⟨true, x.cl⟩)
      ·skip
       refine xB 31 43 .neq 39 (.agg (Ad.cells m.too)) (.agg (Ad.cells ⟨true, x.cl⟩)) (.bool true) (fun _ _ => by rw [eqA_neq, q14]; try rfl) hH <| xV 32 44 (.bool true) hH <| xV 33 45 (.bool true) hH <| xZ 34 46 hH <| xZ 35 47 hH <| xZ 36 48 hH <| ?_
       try simp only [pS]
       refine xZ 37 49 hH <| xZ 38 50 hH <| xZ 39 51 hH <| xZ 40 52 hH <| xV 41 53 (.bool true) hH <| xV 42 54 (.bool true) hH <| ?_
       try simp only [pS]
       refine xZ 43 55 hH <| xZ 44 56 hH <| xZ 45 57 hH <| xZ 46 58 hH <| xZ 47 59 hH <| xZ 48 60 hH <| ?_
       try simp only [pS]
       refine xZ 49 61 hH <| xV 50 62 (.bool true) hH <| xV 51 63 (.bool true) hH <| xZ 52 64 hH <| xZ 53 65 hH <| xZ 54 66 hH <| ?_
       try simp only [pS]
       refine xZ 55 67 hH <| xZ 56 68 hH <| xZ 57 69 hH <| xZ 58 70 hH <| xV 59 71 (.bool true) hH <| ?_
       try simp only [pS]
       refine wpAnyH_done (by kernel_rfl) ?_ _
       try simp only [pS]
       clear hH
       go_upto_region 5 with fail
       refine WL.start <| uK (.int .i64 (-1)) <| WL.nil <| ?_
       try simp only [pS]
       go_wp2
       rw [HC.out]
       exact ⟨⟨-1, rfl, .inl ⟨rfl, .inl (by simp [plcB, q1, q11, q12, q13, q14])⟩⟩, HF.out.kept⟩
      ·skip
       refine xB 31 43 .neq 39 (.agg (Ad.cells m.too)) (.agg (Ad.cells ⟨true, x.cl⟩)) (.bool false) (fun _ _ => by rw [eqA_neq, q14]; try rfl) hH <| xV 32 44 (.bool false) hH <| xV 33 45 (.bool false) hH <| xV 34 46 (.pointer (some ⟨gk1, 5, none⟩)) hH <| xL 35 47 3 ⟨gk1, 5, none⟩ (.int .i64 m.op) (fun _ hw => load_one ((hw.box 0 _ _ _ rfl).cell 5 |>.trans (by kernel_rfl)) U3 rfl) hH <| xV 36 48 (.pointer (some ⟨r, 0, none⟩)) hH <| ?_
       try simp only [pS]
       refine xV 37 49 (.pointer (some ⟨r, 0, none⟩)) hH <| xV 38 50 (.pointer (some ⟨r, 2, none⟩)) hH <| xL 39 51 3 ⟨r, 2, none⟩ (.int .i64 x.op) (fun _ hw => load_one ((HBr.out.kept hw.kept (fun e => e)).cell 2 |>.trans (by kernel_rfl)) U3 rfl) hH <| ?_
       try simp only [pS]
       cases q15 : (m.op == x.op)
       ·skip
        refine xB 40 52 .neq 3 (.int .i64 m.op) (.int .i64 x.op) (.bool true) (fun _ _ => by rw [b_neq, q15]; try rfl) hH <| xV 41 53 (.bool true) hH <| xV 42 54 (.bool true) hH <| xZ 43 55 hH <| xZ 44 56 hH <| xZ 45 57 hH <| ?_
        try simp only [pS]
        refine xZ 46 58 hH <| xZ 47 59 hH <| xZ 48 60 hH <| xZ 49 61 hH <| xV 50 62 (.bool true) hH <| xV 51 63 (.bool true) hH <| ?_
        try simp only [pS]
        refine xZ 52 64 hH <| xZ 53 65 hH <| xZ 54 66 hH <| xZ 55 67 hH <| xZ 56 68 hH <| xZ 57 69 hH <| ?_
        try simp only [pS]
        refine xZ 58 70 hH <| xV 59 71 (.bool true) hH <| ?_
        try simp only [pS]
        refine wpAnyH_done (by kernel_rfl) ?_ _
        try simp only [pS]
        clear hH
        go_upto_region 5 with fail
        refine WL.start <| uK (.int .i64 (-1)) <| WL.nil <| ?_
        try simp only [pS]
        go_wp2
        rw [HC.out]
        exact ⟨⟨-1, rfl, .inl ⟨rfl, .inl (by simp [plcB, q1, q11, q12, q13, q14, q15])⟩⟩, HF.out.kept⟩
       ·skip
        refine xB 40 52 .neq 3 (.int .i64 m.op) (.int .i64 x.op) (.bool false) (fun _ _ => by rw [b_neq, q15]; try rfl) hH <| xV 41 53 (.bool false) hH <| xV 42 54 (.bool false) hH <| xV 43 55 (.pointer (some ⟨gk1, 6, none⟩)) hH <| xL 44 56 3 ⟨gk1, 6, none⟩ (.int .i64 m.rd) (fun _ hw => load_one ((hw.box 0 _ _ _ rfl).cell 6 |>.trans (by kernel_rfl)) U3 rfl) hH <| xV 45 57 (.pointer (some ⟨r, 0, none⟩)) hH <| ?_
        try simp only [pS]
        refine xV 46 58 (.pointer (some ⟨r, 0, none⟩)) hH <| xV 47 59 (.pointer (some ⟨r, 8, none⟩)) hH <| xL 48 60 3 ⟨r, 8, none⟩ (.int .i64 x.rd) (fun _ hw => load_one ((HBr.out.kept hw.kept (fun e => e)).cell 8 |>.trans (by kernel_rfl)) U3 rfl) hH <| ?_
        try simp only [pS]
        cases q16 : (m.rd == x.rd)
        ·skip
         refine xB 49 61 .neq 3 (.int .i64 m.rd) (.int .i64 x.rd) (.bool true) (fun _ _ => by rw [b_neq, q16]; try rfl) hH <| xV 50 62 (.bool true) hH <| xV 51 63 (.bool true) hH <| xZ 52 64 hH <| xZ 53 65 hH <| xZ 54 66 hH <| ?_
         try simp only [pS]
         refine xZ 55 67 hH <| xZ 56 68 hH <| xZ 57 69 hH <| xZ 58 70 hH <| xV 59 71 (.bool true) hH <| ?_
         try simp only [pS]
         refine wpAnyH_done (by kernel_rfl) ?_ _
         try simp only [pS]
         clear hH
         go_upto_region 5 with fail
         refine WL.start <| uK (.int .i64 (-1)) <| WL.nil <| ?_
         try simp only [pS]
         go_wp2
         rw [HC.out]
         exact ⟨⟨-1, rfl, .inl ⟨rfl, .inl (by simp [plcB, q1, q11, q12, q13, q14, q15, q16])⟩⟩, HF.out.kept⟩
        ·skip
         refine xB 49 61 .neq 3 (.int .i64 m.rd) (.int .i64 x.rd) (.bool false) (fun _ _ => by rw [b_neq, q16]; try rfl) hH <| xV 50 62 (.bool false) hH <| xV 51 63 (.bool false) hH <| xV 52 64 (.pointer (some ⟨gk1, 7, none⟩)) hH <| xL 53 65 23 ⟨gk1, 7, none⟩ (.agg (Ky.cells m.ky)) (fun _ hw => run_load_part (cs := Mg.cs m) (sub := Ky.cs m.ky) (hw.box 0 _ _ _ rfl) (part_of (by kernel_rfl)) U23 rfl S23) hH <| xV 54 66 (.pointer (some ⟨r, 0, none⟩)) hH <| ?_
         try simp only [pS]
         refine xV 55 67 (.pointer (some ⟨r, 0, none⟩)) hH <| xV 56 68 (.pointer (some ⟨r, 3, none⟩)) hH <| xL 57 69 23 ⟨r, 3, none⟩ (.agg (Ky.cells x.ky)) (fun _ hw => run_load_part (cs := Rv.cs (rvL x g ba bv)) (sub := Ky.cs x.ky) (HBr.out.kept hw.kept (fun e => e)) (part_of (by kernel_rfl)) U23 rfl S23) hH <| ?_
         try simp only [pS]
         cases q17 : (eqK m.ky x.ky)
         ·skip
          refine xB 58 70 .neq 23 (.agg (Ky.cells m.ky)) (.agg (Ky.cells x.ky)) (.bool true) (fun _ _ => by rw [eqK_neq, q17]; try rfl) hH <| xV 59 71 (.bool true) hH <| ?_
          try simp only [pS]
          refine wpAnyH_done (by kernel_rfl) ?_ _
          try simp only [pS]
          clear hH
          go_upto_region 5 with fail
          refine WL.start <| uK (.int .i64 (-1)) <| WL.nil <| ?_
          try simp only [pS]
          go_wp2
          rw [HC.out]
          exact ⟨⟨-1, rfl, .inl ⟨rfl, .inl (by simp [plcB, q1, q11, q12, q13, q14, q15, q16, q17])⟩⟩, HF.out.kept⟩
         ·skip
          refine xB 58 70 .neq 23 (.agg (Ky.cells m.ky)) (.agg (Ky.cells x.ky)) (.bool false) (fun _ _ => by rw [eqK_neq, q17]; try rfl) hH <| xV 59 71 (.bool false) hH <| ?_
          try simp only [pS]
          refine wpAnyH_done (by kernel_rfl) ?_ _
          try simp only [pS]
          clear hH
          have HA : Hid (plcB x m = true) := by show plcB x m = true; simp [plcB, q1, q11, q12, q13, q14, q15, q16, q17]
          clear q1 q11 q12 q13 q14 q15 q16 q17
          go_upto_region 6 with fail
          refine WL.start <| uK (.int .i64 0) <| WL.nil <| ?_
          try simp only [pS]
          go_wp2
          go_loopw [6] (fun v5 wr => ∃ (i : Nat), v5 = .int .i64 ((i : Nat) : Int) ∧ i ≤ g.l ∧ Hid (∀ j, j < i → hitJ x m j = false) ∧ Hid (Fq No w wr [(gk1, 52, Mg.cells m)])) (fun i _ => g.l - (intOf i).toNat)
          case atStart => exact ⟨0, by go_num, by omega, show ∀ j, j < 0 → hitJ x m j = false from fun j hj => absurd hj (Nat.not_lt_zero _), HF⟩
          case round =>
            clear HF
            obtain ⟨i, rfl, hi, HP, HF⟩ := hrel
            by_cases hlt : i < g.l
            · skip
              obtain ⟨bb, hbb⟩ := at_b hla hlt
              obtain ⟨gb, hga, hgc⟩ := HG.out.at (i := i) (by omega)
              have hsl : g.v = .slice (some ⟨gb, 0, none⟩) g.l g.k := by unfold Sl.v; rw [hga]
              have HGc : Hid (w.cell? ⟨gb, 0 + i * 1, none⟩ = some (.int .i64 (x.zs[i]?.getD 0))) := hgc
              clear hga hgc
              obtain ⟨z, hzz⟩ : ∃ z, z = x.zs[i]?.getD 0 := ⟨_, rfl⟩
              rw [← hzz] at HGc
              cases bb
              ·skip
               go_upto_region 7 with fail
               refine WL.start <| uK (.int .i64 ((i : Nat) : Int)) <| uK (.pointer (some ⟨r, 0, none⟩)) <| uK (.pointer (some ⟨r, 0, none⟩)) <| uK (.pointer (some ⟨r, 7, none⟩)) <| uL 24 ⟨r, 7, none⟩ (g.v) (load_one ((HBr.out.kept HF.out.kept (fun e => e)).cell 7 |>.trans (by kernel_rfl)) U24 rfl) <| uK (.int .i64 ((g.l : Nat) : Int)) <| uB .lss 3 (.int .i64 ((i : Nat) : Int)) (.int .i64 ((g.l : Nat) : Int)) (.bool true) (by rw [b_lss, decide_eq_true (by omega)]) <| WL.nil <| ?_
               try simp only [pS]
               go_upto_region 9 with fail
               refine wp_region_held_drew (S := fun w' => Fq No w w' [(gk1, 52, Mg.cells m)]) rfl (HF.out.drew) (fun hH => ?_)
               have HF : Hid (Fq No w (wr.drew) [(gk1, 52, Mg.cells m)]) := HF.out.drew
               generalize wr.drew = wk7 at HF hH ⊢
               refine xV 0 81 (.pointer (some ⟨r, 0, none⟩)) hH <| xV 1 82 (.pointer (some ⟨r, 0, none⟩)) hH <| xV 2 83 (.pointer (some ⟨r, 7, none⟩)) hH <| xL 3 84 24 ⟨r, 7, none⟩ g.v (fun _ hw => load_one ((HBr.out.kept hw.kept (fun e => e)).cell 7 |>.trans (by kernel_rfl)) U24 rfl) hH <| xV 4 85 (.int .i64 ((i : Nat) : Int)) hH <| xU 5 86 (.pointer (some ⟨gb, 0 + i * 1, none⟩)) (fun w' hw => exec_ixA 24 1 E24 F24 _ _ rfl gb 0 g.l g.k i (Eq.trans (b := g.v) (by kernel_rfl) hsl) (by kernel_rfl) (by omega)) hH <| ?_
               try simp only [pS]
               refine xL 6 87 3 ⟨gb, 0 + i * 1, none⟩ (.int .i64 z) (fun _ hw => load_one (hw.kept.cell HGc.out (fun e => e)) U3 rfl) hH <| xV 7 88 (.pointer (some ⟨gk1, 1, none⟩)) hH <| xV 8 89 (.pointer (some ⟨gk1, 2, none⟩)) hH <| xL 9 90 3 ⟨gk1, 2, none⟩ (.int .i64 m.fr.id) (fun _ hw => load_one ((hw.box 0 _ _ _ rfl).cell 2 |>.trans (by kernel_rfl)) U3 rfl) hH <| ?_
               try simp only [pS]
               cases q18 : (z == m.fr.id)
               ·skip
                refine xB 10 91 .eql 3 (.int .i64 z) (.int .i64 m.fr.id) (.bool false) (fun _ _ => by rw [b_eql, q18]; try rfl) hH <| xV 11 92 (.bool false) hH <| xZ 12 93 hH <| xZ 13 94 hH <| xZ 14 95 hH <| xZ 15 96 hH <| ?_
                try simp only [pS]
                refine xZ 16 97 hH <| xZ 17 98 hH <| xZ 18 99 hH <| xZ 19 100 hH <| xV 20 101 (.bool false) hH <| ?_
                try simp only [pS]
                refine wpAnyH_done (by kernel_rfl) ?_ _
                try simp only [pS]
                clear hH
                have HP2 : Hid (∀ j, j < i + 1 → hitJ x m j = false) := show ∀ j, j < i + 1 → hitJ x m j = false from fun j hj => by
                  rcases Nat.lt_or_ge j i with h | h
                  · exact HP.out j h
                  · obtain rfl : i = j := by omega
                    unfold hitJ; rw [← hzz, hbb, q18]; rfl
                go_upto_region 8 with fail
                refine WL.start <| uK (.int .i64 ((i : Nat) : Int)) <| uB .add 3 (.int .i64 ((i : Nat) : Int)) (.int .i64 1) (.int .i64 (((i + 1) : Nat) : Int)) (b_addw _ _ _ (by rw [IntKind.wrap_i64]; omega) _) <| uK (.int .i64 (((i + 1) : Nat) : Int)) <| WL.nil <| ?_
                try simp only [pS]
                go_wp2
                go_roundw
                case rel => exact ⟨i + 1, by go_num, by omega, HP2, HF⟩
                case measure => simp [intOf]; omega
               ·skip
                refine xB 10 91 .eql 3 (.int .i64 z) (.int .i64 m.fr.id) (.bool true) (fun _ _ => by rw [b_eql, q18]; try rfl) hH <| xV 11 92 (.bool true) hH <| xV 12 93 (.pointer (some ⟨r, 0, none⟩)) hH <| xV 13 94 (.pointer (some ⟨r, 0, none⟩)) hH <| xV 14 95 (.pointer (some ⟨r, 12, none⟩)) hH <| xL 15 96 60 ⟨r, 12, none⟩ (.slice (some ⟨ba, 0, none⟩) g.l g.l) (fun _ hw => load_one ((HBr.out.kept hw.kept (fun e => e)).cell 12 |>.trans (by kernel_rfl)) U70 rfl) hH <| ?_
                try simp only [pS]
                refine xV 16 97 (.int .i64 ((i : Nat) : Int)) hH <| xU 17 98 (.pointer (some ⟨ba, 0 + i * 1, none⟩)) (fun w' hw => exec_ixA 60 1 E70 F70 _ _ rfl ba 0 g.l g.l i (by kernel_rfl) (by kernel_rfl) (by omega)) hH <| xL 18 99 4 ⟨ba, 0 + i * 1, none⟩ (.bool false) (fun _ hw => ld_bo (HBa.out.kept hw.kept (fun e => e)) (by rw [hbb])) hH <| xV 19 100 (.bool true) hH <| xV 20 101 (.bool true) hH <| ?_
                try simp only [pS]
                refine wpAnyH_done (by kernel_rfl) ?_ _
                try simp only [pS]
                clear hH
                go_upto_region 10 with fail
                refine WL.start <| uK (.int .i64 ((i : Nat) : Int)) <| uK (.int .i64 ((i : Nat) : Int)) <| WL.nil <| ?_
                try simp only [pS]
                go_wp2
                rw [HC.out]
                exact ⟨⟨_, rfl, .inr ⟨i, rfl, by omega, HA.out, by unfold hitJ; rw [← hzz, hbb, q18]; rfl, HP.out⟩⟩, HF.out.kept⟩
              ·skip
               go_upto_region 7 with fail
               refine WL.start <| uK (.int .i64 ((i : Nat) : Int)) <| uK (.pointer (some ⟨r, 0, none⟩)) <| uK (.pointer (some ⟨r, 0, none⟩)) <| uK (.pointer (some ⟨r, 7, none⟩)) <| uL 24 ⟨r, 7, none⟩ (g.v) (load_one ((HBr.out.kept HF.out.kept (fun e => e)).cell 7 |>.trans (by kernel_rfl)) U24 rfl) <| uK (.int .i64 ((g.l : Nat) : Int)) <| uB .lss 3 (.int .i64 ((i : Nat) : Int)) (.int .i64 ((g.l : Nat) : Int)) (.bool true) (by rw [b_lss, decide_eq_true (by omega)]) <| WL.nil <| ?_
               try simp only [pS]
               go_upto_region 9 with fail
               refine wp_region_held_drew (S := fun w' => Fq No w w' [(gk1, 52, Mg.cells m)]) rfl (HF.out.drew) (fun hH => ?_)
               have HF : Hid (Fq No w (wr.drew) [(gk1, 52, Mg.cells m)]) := HF.out.drew
               generalize wr.drew = wk8 at HF hH ⊢
               refine xV 0 81 (.pointer (some ⟨r, 0, none⟩)) hH <| xV 1 82 (.pointer (some ⟨r, 0, none⟩)) hH <| xV 2 83 (.pointer (some ⟨r, 7, none⟩)) hH <| xL 3 84 24 ⟨r, 7, none⟩ g.v (fun _ hw => load_one ((HBr.out.kept hw.kept (fun e => e)).cell 7 |>.trans (by kernel_rfl)) U24 rfl) hH <| xV 4 85 (.int .i64 ((i : Nat) : Int)) hH <| xU 5 86 (.pointer (some ⟨gb, 0 + i * 1, none⟩)) (fun w' hw => exec_ixA 24 1 E24 F24 _ _ rfl gb 0 g.l g.k i (Eq.trans (b := g.v) (by kernel_rfl) hsl) (by kernel_rfl) (by omega)) hH <| ?_
               try simp only [pS]
               refine xL 6 87 3 ⟨gb, 0 + i * 1, none⟩ (.int .i64 z) (fun _ hw => load_one (hw.kept.cell HGc.out (fun e => e)) U3 rfl) hH <| xV 7 88 (.pointer (some ⟨gk1, 1, none⟩)) hH <| xV 8 89 (.pointer (some ⟨gk1, 2, none⟩)) hH <| xL 9 90 3 ⟨gk1, 2, none⟩ (.int .i64 m.fr.id) (fun _ hw => load_one ((hw.box 0 _ _ _ rfl).cell 2 |>.trans (by kernel_rfl)) U3 rfl) hH <| ?_
               try simp only [pS]
               cases q19 : (z == m.fr.id)
               ·skip
                refine xB 10 91 .eql 3 (.int .i64 z) (.int .i64 m.fr.id) (.bool false) (fun _ _ => by rw [b_eql, q19]; try rfl) hH <| xV 11 92 (.bool false) hH <| xZ 12 93 hH <| xZ 13 94 hH <| xZ 14 95 hH <| xZ 15 96 hH <| ?_
                try simp only [pS]
                refine xZ 16 97 hH <| xZ 17 98 hH <| xZ 18 99 hH <| xZ 19 100 hH <| xV 20 101 (.bool false) hH <| ?_
                try simp only [pS]
                refine wpAnyH_done (by kernel_rfl) ?_ _
                try simp only [pS]
                clear hH
                have HP2 : Hid (∀ j, j < i + 1 → hitJ x m j = false) := show ∀ j, j < i + 1 → hitJ x m j = false from fun j hj => by
                  rcases Nat.lt_or_ge j i with h | h
                  · exact HP.out j h
                  · obtain rfl : i = j := by omega
                    unfold hitJ; rw [← hzz, hbb, q19]; rfl
                go_upto_region 8 with fail
                refine WL.start <| uK (.int .i64 ((i : Nat) : Int)) <| uB .add 3 (.int .i64 ((i : Nat) : Int)) (.int .i64 1) (.int .i64 (((i + 1) : Nat) : Int)) (b_addw _ _ _ (by rw [IntKind.wrap_i64]; omega) _) <| uK (.int .i64 (((i + 1) : Nat) : Int)) <| WL.nil <| ?_
                try simp only [pS]
                go_wp2
                go_roundw
                case rel => exact ⟨i + 1, by go_num, by omega, HP2, HF⟩
                case measure => simp [intOf]; omega
               ·skip
                refine xB 10 91 .eql 3 (.int .i64 z) (.int .i64 m.fr.id) (.bool true) (fun _ _ => by rw [b_eql, q19]; try rfl) hH <| xV 11 92 (.bool true) hH <| xV 12 93 (.pointer (some ⟨r, 0, none⟩)) hH <| xV 13 94 (.pointer (some ⟨r, 0, none⟩)) hH <| xV 14 95 (.pointer (some ⟨r, 12, none⟩)) hH <| xL 15 96 60 ⟨r, 12, none⟩ (.slice (some ⟨ba, 0, none⟩) g.l g.l) (fun _ hw => load_one ((HBr.out.kept hw.kept (fun e => e)).cell 12 |>.trans (by kernel_rfl)) U70 rfl) hH <| ?_
                try simp only [pS]
                refine xV 16 97 (.int .i64 ((i : Nat) : Int)) hH <| xU 17 98 (.pointer (some ⟨ba, 0 + i * 1, none⟩)) (fun w' hw => exec_ixA 60 1 E70 F70 _ _ rfl ba 0 g.l g.l i (by kernel_rfl) (by kernel_rfl) (by omega)) hH <| xL 18 99 4 ⟨ba, 0 + i * 1, none⟩ (.bool true) (fun _ hw => ld_bo (HBa.out.kept hw.kept (fun e => e)) (by rw [hbb])) hH <| xV 19 100 (.bool false) hH <| xV 20 101 (.bool false) hH <| ?_
                try simp only [pS]
                refine wpAnyH_done (by kernel_rfl) ?_ _
                try simp only [pS]
                clear hH
                have HP2 : Hid (∀ j, j < i + 1 → hitJ x m j = false) := show ∀ j, j < i + 1 → hitJ x m j = false from fun j hj => by
                  rcases Nat.lt_or_ge j i with h | h
                  · exact HP.out j h
                  · obtain rfl : i = j := by omega
                    unfold hitJ; rw [← hzz, hbb, q19]; rfl
                go_upto_region 8 with fail
                refine WL.start <| uK (.int .i64 ((i : Nat) : Int)) <| uB .add 3 (.int .i64 ((i : Nat) : Int)) (.int .i64 1) (.int .i64 (((i + 1) : Nat) : Int)) (b_addw _ _ _ (by rw [IntKind.wrap_i64]; omega) _) <| uK (.int .i64 (((i + 1) : Nat) : Int)) <| WL.nil <| ?_
                try simp only [pS]
                go_wp2
                go_roundw
                case rel => exact ⟨i + 1, by go_num, by omega, HP2, HF⟩
                case measure => simp [intOf]; omega
            · skip
              go_upto_region 7 with fail
              refine WL.start <| uK (.int .i64 ((i : Nat) : Int)) <| uK (.pointer (some ⟨r, 0, none⟩)) <| uK (.pointer (some ⟨r, 0, none⟩)) <| uK (.pointer (some ⟨r, 7, none⟩)) <| uL 24 ⟨r, 7, none⟩ (g.v) (load_one ((HBr.out.kept HF.out.kept (fun e => e)).cell 7 |>.trans (by kernel_rfl)) U24 rfl) <| uK (.int .i64 ((g.l : Nat) : Int)) <| uB .lss 3 (.int .i64 ((i : Nat) : Int)) (.int .i64 ((g.l : Nat) : Int)) (.bool false) (by rw [b_lss, decide_eq_false (by omega)]) <| WL.nil <| ?_
              try simp only [pS]
              go_upto_region 11 with fail
              refine WL.start <| uK (.int .i64 (-1)) <| WL.nil <| ?_
              try simp only [pS]
              go_wp2
              rw [HC.out]
              exact ⟨⟨-1, rfl, .inl ⟨rfl, .inr (fun j hj => HP.out j (by omega))⟩⟩, HF.out.kept⟩
     ·skip
      try simp only [q13]
      refine xZ 24 36 hH <| xZ 25 37 hH <| xZ 26 38 hH <| xZ 27 39 hH <| xZ 28 40 hH <| xZ 29 41 hH <| ?_
      try simp only [pS]
      refine xZ 30 42 hH <| xZ 31 43 hH <| xV 32 44 (.bool true) hH <| xV 33 45 (.bool true) hH <| xZ 34 46 hH <| xZ 35 47 hH <| ?_
      try simp only [pS]
      refine xZ 36 48 hH <| xZ 37 49 hH <| xZ 38 50 hH <| xZ 39 51 hH <| xZ 40 52 hH <| xV 41 53 (.bool true) hH <| ?_
      try simp only [pS]
      refine xV 42 54 (.bool true) hH <| xZ 43 55 hH <| xZ 44 56 hH <| xZ 45 57 hH <| xZ 46 58 hH <| xZ 47 59 hH <| ?_
      try simp only [pS]
      refine xZ 48 60 hH <| xZ 49 61 hH <| xV 50 62 (.bool true) hH <| xV 51 63 (.bool true) hH <| xZ 52 64 hH <| xZ 53 65 hH <| ?_
      try simp only [pS]
      refine xZ 54 66 hH <| xZ 55 67 hH <| xZ 56 68 hH <| xZ 57 69 hH <| xZ 58 70 hH <| xV 59 71 (.bool true) hH <| ?_
      try simp only [pS]
      refine wpAnyH_done (by kernel_rfl) ?_ _
      try simp only [pS]
      clear hH
      go_upto_region 5 with fail
      refine WL.start <| uK (.int .i64 (-1)) <| WL.nil <| ?_
      try simp only [pS]
      go_wp2
      rw [HC.out]
      exact ⟨⟨-1, rfl, .inl ⟨rfl, .inl (by simp [plcB, q1, q11, q12, q13])⟩⟩, HF.out.kept⟩
   · rw [beq_iff_eq] at q11 q1; omega

end Go.Proofs.Ythnecaejhnojfaa.Md
