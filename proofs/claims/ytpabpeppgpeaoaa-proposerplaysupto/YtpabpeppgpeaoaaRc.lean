import Derived.Test.YtpabpeppgpeaoaaRb
namespace Go.Proofs.Ytpabpeppgpeaoaa.Md
open Go.RowKit
set_option linter.unusedVariables false
set_option linter.unusedSimpArgs false

/-- The reference's proposer. -/
structure Rs where
  cl : Int
  op : Int
  ky : Ky
  zs : List Int
  mine : Cm
  ch : Cm
  n : Int
  rd : Int
  nt : Int
  ph : Int
  qa : List Bool
  qc : List Bool
  qh : List Sp
  qm : List Cm
  nk : Bool
  de : Bool
  tr : Bool
  wo : Bool
  dc : Cm
  bk : Bv
def rvOf (x : Rs) (g : Sl) (ba bc bh bm : Nat) : Rv := ⟨x.cl, x.op, x.ky, g, x.mine, x.ch, x.n, x.rd, x.nt, x.ph, ⟨some ⟨ba, 0, none⟩, g.l, g.l⟩, ⟨some ⟨bc, 0, none⟩, g.l, g.l⟩, ⟨some ⟨bh, 0, none⟩, g.l, g.l⟩, ⟨some ⟨bm, 0, none⟩, g.l, g.l⟩, x.nk, x.de, x.tr, x.wo, x.dc, x.bk⟩
structure RfB (w : World) (J : Nat → Prop) (r : Nat) (x : Rs) (g : Sl) (ba bc bh bm : Nat) : Prop where
  fq : Fq J w w [(r, 56, (rvOf x g ba bc bh bm).cells), (ba, 4, (boL x.qa).toArray), (bc, 4, (boL x.qc).toArray), (bh, 39, (spL x.qh).toArray), (bm, 28, (cmL x.qm).toArray)]
  gr : OwI w 0 g x.zs
  gj : ∀ k, At g.a k → J k
  la : x.qa.length = g.l
  lc : x.qc.length = g.l
  lh : x.qh.length = g.l
  lm : x.qm.length = g.l
  hn : g.l ≤ 2000000
/-- It in memory, its blocks within J. -/
def RfAt (w : World) (J : Nat → Prop) (r : Nat) (x : Rs) : Prop := ∃ g ba bc bh bm, RfB w J r x g ba bc bh bm
theorem Fq.again {S S' : Nat → Prop} {w0 w : World} {l : List (Nat × TypeId × Array Value)} (h : Fq S w0 w l) (hS : ∀ k, S k ∨ w0.heap.size ≤ k → S' k) : Fq S' w w l :=
  ⟨Kept.refl _ _, h.box, fun i g T cs hi => .inr (hS g (h.low i g T cs hi).symm), h.inj⟩
theorem Fq.sub {S : Nat → Prop} {w0 w : World} {l l' : List (Nat × TypeId × Array Value)} (h : Fq S w0 w l) (f : Nat → Nat) (hl : ∀ (i : Nat) x, l'[i]? = some x → l[f i]? = some x) (hf : ∀ i j, i < l'.length → j < l'.length → f i = f j → i = j) : Fq S w0 w l' :=
  ⟨h.kept, fun i g T cs hi => h.box _ g T cs (hl i _ hi), fun i g T cs hi => h.low _ g T cs (hl i _ hi), fun i j g T cs T' cs' hi hj => hf i j (List.getElem?_eq_some_iff.1 hi).1 (List.getElem?_eq_some_iff.1 hj).1 (h.inj _ _ _ _ _ _ _ (hl i _ hi) (hl j _ hj))⟩
theorem ret_b' {a b : Bool} (h : a = b) : Ending.returned (.bool a) = .returned (.bool b) := by rw [h]
theorem ret_i' {a b : Int} (h : a = b) : Ending.returned (.int .i64 a) = .returned (.int .i64 b) := by rw [h]
theorem b_quo2 (x : Nat) (hx : x ≤ 2000000) (w : World) : (binOp .quo 3 (.int .i64 (x : Int)) (.int .i64 2)).run Try.prog w = .ok (.int .i64 ((x / 2 : Nat) : Int)) w := by
  rw [binOp_quo]
  unfold Op.intDiv
  rw [if_neg (by omega)]
  show Result.ok (Value.int .i64 (IntKind.i64.wrap ((x : Int).tdiv 2))) w = _
  rw [Int.tdiv_eq_ediv_of_nonneg (by omega), show ((x : Int) / 2) = ((x / 2 : Nat) : Int) by omega]
  have h1 : x / 2 ≤ 2000000 := by omega
  generalize x / 2 = z at h1 ⊢
  rw [show IntKind.i64.wrap (z : Int) = (z : Int) by rw [IntKind.wrap_i64]; omega]
set_option maxRecDepth 100000 in
set_option maxHeartbeats 4000000 in
theorem rBallot_any (J : Nat → Prop) (r : Nat) (x : Rs) (g : Sl) (ba bc bh bm : Nat) (w : World) (hB : RfB w J r x g ba bc bh bm) : Calls Try.prog 43 #[.pointer (some ⟨r, 0, none⟩)] w (fun e w' => e = .returned (.int .i64 x.nt) ∧ Kept No w w') := by
  refine hideC fun C HC => ?_
  have HF : Hid (Fq J w w [(r, 56, Rv.cells (rvOf x g ba bc bh bm)), (ba, 4, (boL (x.qa)).toArray), (bc, 4, (boL (x.qc)).toArray), (bh, 39, (spL (x.qh)).toArray), (bm, 28, (cmL (x.qm)).toArray)]) := hB.fq
  have HG : Hid (OwI w 0 g x.zs) := hB.gr
  have hzl := hB.gr.len
  have hla := hB.la
  have hlc := hB.lc
  have hlh := hB.lh
  have hlm := hB.lm
  have hnn := hB.hn
  have HJ : Hid (∀ k, At g.a k → J k) := hB.gj
  clear hB
  go_enter Try.func43, Try.ntmps43
  go_upto_region 0 with fail
  refine WL.start <| uK (.int .i64 0) <| WL.nil <| ?_
  try simp only [pS]
  go_upto_region 1 with fail
  refine WL.start <| uK (pV r 0) <| uK (pV r 0) <| uK (pV r 27) <| uL 3 ⟨r, 27, none⟩ (.int .i64 x.nt) (load_one ((HF.out.box 0 _ _ _ rfl).cell 27 |>.trans (by kernel_rfl)) U3 rfl) <| uK (.int .i64 x.nt) <| WL.nil <| ?_
  try simp only [pS]
  go_wp2
  rw [HC.out]
  exact ⟨rfl, Kept.refl No w⟩
set_option maxRecDepth 100000 in
set_option maxHeartbeats 4000000 in
theorem rRound_any (J : Nat → Prop) (r : Nat) (x : Rs) (g : Sl) (ba bc bh bm : Nat) (w : World) (hB : RfB w J r x g ba bc bh bm) : Calls Try.prog 44 #[.pointer (some ⟨r, 0, none⟩)] w (fun e w' => e = .returned (.int .i64 x.rd) ∧ Kept No w w') := by
  refine hideC fun C HC => ?_
  have HF : Hid (Fq J w w [(r, 56, Rv.cells (rvOf x g ba bc bh bm)), (ba, 4, (boL (x.qa)).toArray), (bc, 4, (boL (x.qc)).toArray), (bh, 39, (spL (x.qh)).toArray), (bm, 28, (cmL (x.qm)).toArray)]) := hB.fq
  have HG : Hid (OwI w 0 g x.zs) := hB.gr
  have hzl := hB.gr.len
  have hla := hB.la
  have hlc := hB.lc
  have hlh := hB.lh
  have hlm := hB.lm
  have hnn := hB.hn
  have HJ : Hid (∀ k, At g.a k → J k) := hB.gj
  clear hB
  go_enter Try.func44, Try.ntmps44
  go_upto_region 0 with fail
  refine WL.start <| uK (.int .i64 0) <| WL.nil <| ?_
  try simp only [pS]
  go_upto_region 1 with fail
  refine WL.start <| uK (pV r 0) <| uK (pV r 0) <| uK (pV r 26) <| uL 3 ⟨r, 26, none⟩ (.int .i64 x.rd) (load_one ((HF.out.box 0 _ _ _ rfl).cell 26 |>.trans (by kernel_rfl)) U3 rfl) <| uK (.int .i64 x.rd) <| WL.nil <| ?_
  try simp only [pS]
  go_wp2
  rw [HC.out]
  exact ⟨rfl, Kept.refl No w⟩
set_option maxRecDepth 100000 in
set_option maxHeartbeats 4000000 in
theorem rNeed_any (J : Nat → Prop) (r : Nat) (x : Rs) (g : Sl) (ba bc bh bm : Nat) (w : World) (hB : RfB w J r x g ba bc bh bm) : Calls Try.prog 65 #[.pointer (some ⟨r, 0, none⟩)] w (fun e w' => e = .returned (.int .i64 ((g.l / 2 + 1 : Nat) : Int)) ∧ Kept No w w') := by
  refine hideC fun C HC => ?_
  have HF : Hid (Fq J w w [(r, 56, Rv.cells (rvOf x g ba bc bh bm)), (ba, 4, (boL (x.qa)).toArray), (bc, 4, (boL (x.qc)).toArray), (bh, 39, (spL (x.qh)).toArray), (bm, 28, (cmL (x.qm)).toArray)]) := hB.fq
  have HG : Hid (OwI w 0 g x.zs) := hB.gr
  have hzl := hB.gr.len
  have hla := hB.la
  have hlc := hB.lc
  have hlh := hB.lh
  have hlm := hB.lm
  have hnn := hB.hn
  have HJ : Hid (∀ k, At g.a k → J k) := hB.gj
  clear hB
  go_enter Try.func65, Try.ntmps65
  go_upto_region 0 with fail
  refine WL.start <| uK (.int .i64 0) <| WL.nil <| ?_
  try simp only [pS]
  go_upto_region 1 with fail
  refine WL.start <| uK (pV r 0) <| uK (pV r 0) <| uK (pV r 6) <| uL 24 ⟨r, 6, none⟩ (g.v) (load_one ((HF.out.box 0 _ _ _ rfl).cell 6 |>.trans (by kernel_rfl)) U24 rfl) <| uK (.int .i64 ((g.l : Nat) : Int)) <| uB .quo 3 (.int .i64 ((g.l : Nat) : Int)) (.int .i64 2) (.int .i64 ((g.l / 2 : Nat) : Int)) (b_quo2 _ (by omega) _) <| uB .add 3 (.int .i64 ((g.l / 2 : Nat) : Int)) (.int .i64 1) (.int .i64 (((g.l / 2 + 1) : Nat) : Int)) (b_addw _ _ _ (by rw [IntKind.wrap_i64]; omega) _) <| ?_
  try simp only [pS]
  refine uK (.int .i64 (((g.l / 2 + 1) : Nat) : Int)) <| WL.nil <| ?_
  try simp only [pS]
  go_wp2
  rw [HC.out]
  exact ⟨rfl, Kept.refl No w⟩
def lessB' (a b : Sp) : Bool := decide (a.n < b.n) || (a.n == b.n && decide (a.c < b.c))
set_option maxRecDepth 100000 in
set_option maxHeartbeats 4000000 in
theorem rLess_any (a b : Sp) (w : World) : Calls Try.prog 86 #[.agg (Sp.cells a), .agg (Sp.cells b)] w (fun e w' => e = .returned (.bool (lessB' a b)) ∧ Kept No w w') := by
  refine hideC fun C HC => ?_
  have HF : Hid (Fq No w w []) := Fq.start _ _
  go_enter Try.func86, Try.ntmps86
  go_upto_region 0 with fail
  refine WL.start ?_
  refine uR (pV w.heap.size 0) (w.alloc (.cells (Sp.cells a) 39)) (exec_box 39 _ rfl (Sp.cells a) (by kernel_rfl)) ?_
  try simp only [pS]
  have HF : Hid (Fq No w (w.alloc (.cells (Sp.cells a) 39)) [(w.heap.size, 39, Sp.cells a)]) := HF.out.alloc _ _
  generalize w.alloc (.cells (Sp.cells a) 39) = wk2 at HF ⊢
  generalize w.heap.size = gk1 at HF ⊢
  refine uR (pV wk2.heap.size 0) (wk2.alloc (.cells (Sp.cells b) 39)) (exec_box 39 _ rfl (Sp.cells b) (by kernel_rfl)) ?_
  try simp only [pS]
  have HF : Hid (Fq No w (wk2.alloc (.cells (Sp.cells b) 39)) [(gk1, 39, Sp.cells a), (wk2.heap.size, 39, Sp.cells b)]) := HF.out.alloc _ _
  generalize wk2.alloc (.cells (Sp.cells b) 39) = wk4 at HF ⊢
  generalize wk2.heap.size = gk3 at HF ⊢
  refine uK (.bool false) <| WL.nil <| ?_
  try simp only [pS]
  go_upto_region 1 with fail
  refine WL.start <| uK (pV gk1 0) <| uL 3 ⟨gk1, 0, none⟩ (.int .i64 a.n) (load_one ((HF.out.box 0 _ _ _ rfl).cell 0 |>.trans (by kernel_rfl)) U3 rfl) <| uK (pV gk3 0) <| uL 3 ⟨gk3, 0, none⟩ (.int .i64 b.n) (load_one ((HF.out.box 1 _ _ _ rfl).cell 0 |>.trans (by kernel_rfl)) U3 rfl) <| ?_
  try simp only [pS]
  cases q1 : (decide (a.n < b.n))
  ·skip
   refine uB .lss 3 (.int .i64 a.n) (.int .i64 b.n) (.bool false) (by rw [b_lss, q1]; try rfl) <| uK (.bool false) <| uK (pV gk1 0) <| uL 3 ⟨gk1, 0, none⟩ (.int .i64 a.n) (load_one ((HF.out.box 0 _ _ _ rfl).cell 0 |>.trans (by kernel_rfl)) U3 rfl) <| uK (pV gk3 0) <| uL 3 ⟨gk3, 0, none⟩ (.int .i64 b.n) (load_one ((HF.out.box 1 _ _ _ rfl).cell 0 |>.trans (by kernel_rfl)) U3 rfl) <| ?_
   try simp only [pS]
   cases q2 : (a.n == b.n)
   ·skip
    refine uB .eql 3 (.int .i64 a.n) (.int .i64 b.n) (.bool false) (by rw [b_eql, q2]; try rfl) <| uK (.bool false) <| uZ <| uZ <| uZ <| uZ <| uZ <| uK (.bool false) <| ?_
    try simp only [pS]
    refine uK (.bool false) <| uK (.bool false) <| WL.nil <| ?_
    try simp only [pS]
    go_wp2
    rw [HC.out]
    exact ⟨ret_b' (by unfold lessB'; simp [q1, q2]), HF.out.kept⟩
   ·skip
    refine uB .eql 3 (.int .i64 a.n) (.int .i64 b.n) (.bool true) (by rw [b_eql, q2]; try rfl) <| uK (.bool true) <| uK (pV gk1 1) <| uL 3 ⟨gk1, 1, none⟩ (.int .i64 a.c) (load_one ((HF.out.box 0 _ _ _ rfl).cell 1 |>.trans (by kernel_rfl)) U3 rfl) <| uK (pV gk3 1) <| uL 3 ⟨gk3, 1, none⟩ (.int .i64 b.c) (load_one ((HF.out.box 1 _ _ _ rfl).cell 1 |>.trans (by kernel_rfl)) U3 rfl) <| ?_
    try simp only [pS]
    cases q3 : (decide (a.c < b.c))
    ·skip
     refine uB .lss 3 (.int .i64 a.c) (.int .i64 b.c) (.bool false) (by rw [b_lss, q3]; try rfl) <| uK (.bool false) <| uK (.bool false) <| uK (.bool false) <| WL.nil <| ?_
     try simp only [pS]
     go_wp2
     rw [HC.out]
     exact ⟨ret_b' (by unfold lessB'; simp [q1, q2, q3]), HF.out.kept⟩
    ·skip
     refine uB .lss 3 (.int .i64 a.c) (.int .i64 b.c) (.bool true) (by rw [b_lss, q3]; try rfl) <| uK (.bool true) <| uK (.bool true) <| uK (.bool true) <| WL.nil <| ?_
     try simp only [pS]
     go_wp2
     rw [HC.out]
     exact ⟨ret_b' (by unfold lessB'; simp [q1, q2, q3]), HF.out.kept⟩
  ·skip
   refine uB .lss 3 (.int .i64 a.n) (.int .i64 b.n) (.bool true) (by rw [b_lss, q1]; try rfl) <| uK (.bool true) <| uZ <| uZ <| uZ <| uZ <| uZ <| uZ <| ?_
   try simp only [pS]
   refine uZ <| uZ <| uZ <| uZ <| uZ <| uZ <| uK (.bool true) <| uK (.bool true) <| WL.nil <| ?_
   try simp only [pS]
   go_wp2
   rw [HC.out]
   exact ⟨ret_b' (by unfold lessB'; simp [q1]), HF.out.kept⟩

end Go.Proofs.Ytpabpeppgpeaoaa.Md
