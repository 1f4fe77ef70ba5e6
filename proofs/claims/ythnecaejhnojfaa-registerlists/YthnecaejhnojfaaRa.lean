import Derived.Test.YthnecaejhnojfaaLb
namespace Go.Proofs.Ythnecaejhnojfaa.Md
open Go.RowKit
set_option linter.unusedVariables false
set_option linter.unusedSimpArgs false

/-- The reference's machine, pure. -/
structure Rx where
  wr : Bool
  cl : Int
  op : Int
  ky : Ky
  zs : List Int
  rd : Int
  sz : Int
  bl : Sl
  ph : Int
  qa : List Bool
  vs : List Mg
  tag : Sp
  er : Int
def rvG (x : Rx) (g an vv : Sl) : Rv := ⟨x.wr, x.cl, x.op, x.ky, g, x.rd, x.sz, x.bl, x.ph, an, vv, x.tag, x.er⟩
def rvL (x : Rx) (g : Sl) (ba bv : Nat) : Rv := rvG x g ⟨some ⟨ba, 0, none⟩, g.l, g.l⟩ ⟨some ⟨bv, 0, none⟩, g.l, g.l⟩
/-- It in memory: all but its rows; with them. -/
structure RfG (w : World) (r : Nat) (x : Rx) (g an vv : Sl) : Prop where
  box : Box w r 62 (rvG x g an vv).cells
  gr : OwI w 0 g x.zs
  hn : g.l ≤ 100
structure RfL (w : World) (r : Nat) (x : Rx) (g : Sl) (ba bv : Nat) : Prop where
  box : Box w r 62 (rvL x g ba bv).cells
  gr : OwI w 0 g x.zs
  hn : g.l ≤ 100
  ba : Box w ba 4 (boL x.qa).toArray
  bv : Box w bv 52 (mgL x.vs).toArray
  la : x.qa.length = g.l
  lv : x.vs.length = g.l
theorem RfL.g {w : World} {r : Nat} {x : Rx} {g : Sl} {ba bv : Nat} (h : RfL w r x g ba bv) : RfG w r x g ⟨some ⟨ba, 0, none⟩, g.l, g.l⟩ ⟨some ⟨bv, 0, none⟩, g.l, g.l⟩ := ⟨h.box, h.gr, h.hn⟩
theorem RfG.kept {S : Nat → Prop} {w w' : World} {r : Nat} {x : Rx} {g an vv : Sl} (h : RfG w r x g an vv) (hk : Kept S w w') (hr : ¬ S r) (hg : ∀ k, At g.a k → ¬ S k) : RfG w' r x g an vv := ⟨h.box.kept hk hr, h.gr.kept hk hg, h.hn⟩
theorem RfL.kept {S : Nat → Prop} {w w' : World} {r : Nat} {x : Rx} {g : Sl} {ba bv : Nat} (h : RfL w r x g ba bv) (hk : Kept S w w') (hr : ¬ S r) (hg : ∀ k, At g.a k → ¬ S k) (ha : ¬ S ba) (hv : ¬ S bv) : RfL w' r x g ba bv := ⟨h.box.kept hk hr, h.gr.kept hk hg, h.hn, h.ba.kept hk ha, h.bv.kept hk hv, h.la, h.lv⟩
theorem RfG.no {w w' : World} {r : Nat} {x : Rx} {g an vv : Sl} (h : RfG w r x g an vv) (hk : Kept No w w') : RfG w' r x g an vv := h.kept hk (fun e => e) (fun _ _ e => e)
theorem RfL.no {w w' : World} {r : Nat} {x : Rx} {g : Sl} {ba bv : Nat} (h : RfL w r x g ba bv) (hk : Kept No w w') : RfL w' r x g ba bv := h.kept hk (fun e => e) (fun _ _ e => e) (fun e => e) (fun e => e)
def endR (x : Rx) (e : Int) : Rx := { x with ph := 3, er := e }
def freR (x : Rx) : Rx := { x with qa := List.replicate x.zs.length false, vs := List.replicate x.zs.length mgZ }
def msgR (x : Rx) (z : Int) : Mg := ⟨if x.ph == 2 then 2 else 1, ⟨true, x.cl⟩, ⟨false, z⟩, x.op, x.rd, x.ky, if x.ph == 2 then x.tag else spZ, spZ, if x.ph == 2 then x.bl else slZ, cZ, bvZ, slZ, false⟩
def tolK (x : Rx) : Nat → List Mg
  | 0 => []
  | i + 1 => tolK x i ++ (if x.qa[i]?.getD false then [] else [msgR x (x.zs[i]?.getD 0)])
def tolR (x : Rx) : List Mg := tolK x x.zs.length
theorem tolK_len (x : Rx) (i : Nat) : (tolK x i).length ≤ i := by
  induction i with
  | zero => simp [tolK]
  | succ i ih => unfold tolK; rw [List.length_append]; split <;> simp <;> omega
theorem load_Mp {w : World} {b off i n T : Nat} {e : Mg} {sub : List Value} {d : TypeDesc} (hc : ∀ (j : Nat) v, e.cs[j]? = some v → w.cell? ⟨b, off + i * 30 + j, none⟩ = some v) (hp : Part e.cs n sub) (hu : Try.prog.underlying T = some d) (hd : (match d with | .struct _ | .array _ _ => true | _ => false) = true) (hs : (Try.prog.info? T).map (·.size) = some sub.length) : (loadVar T ⟨b, off + i * 30 + n, none⟩).run Try.prog w = .ok (.agg sub.toArray) w :=
  by
  have h := load_at (n := 0) (b := b) (off := off + i * 30 + n) (i := 0) (it := sub) (w := w) (fun j v hv => by rw [Nat.zero_mul, Nat.add_zero, Nat.add_assoc]; exact hc (n + j) v (hp j v hv)) hu hd hs
  rwa [Nat.zero_mul, Nat.add_zero] at h
set_option maxRecDepth 100000 in
set_option maxHeartbeats 4000000 in
theorem rEnd (r : Nat) (x : Rx) (g an vv : Sl) (e : Int) (w : World) (hB : RfG w r x g an vv) : Calls Try.prog 24 #[.pointer (some ⟨r, 0, none⟩), .int .i64 e] w (fun o w' => o = .returned (.slice none 0 0) ∧ RfG w' r (endR x e) g an vv ∧ Kept (Only r) w w') := by
  obtain ⟨C, hC⟩ : ∃ C : Ending → World → Prop, C = (fun o w' => o = .returned (.slice none 0 0) ∧ RfG w' r (endR x e) g an vv ∧ Kept (Only r) w w') := ⟨_, rfl⟩
  have HC : Hid (C = (fun o w' => o = .returned (.slice none 0 0) ∧ RfG w' r (endR x e) g an vv ∧ Kept (Only r) w w')) := hC
  rw [← hC]
  clear hC
  have HBr : Hid (Box w r 62 (rvG x g an vv).cells) := hB.box
  have HG : Hid (OwI w 0 g x.zs) := hB.gr
  have hzl := hB.gr.len
  have hnn := hB.hn
  have HF : Hid (Fq (Only r) w w [(r, 62, (rvG x g an vv).cells)]) := ⟨Kept.refl _ _, fun i g' T cs hi => by
    match i, hi with
    | 0, hi => cases hi; exact HBr.out, fun i g' T cs hi => by
    match i, hi with
    | 0, hi => cases hi; exact .inr rfl, fun i j g' T cs T' cs' hi hj => by
    match i, j, hi, hj with
    | 0, 0, _, _ => rfl⟩
  have hR := HBr.out
  clear hB HBr
  go_enter Try.func24, Try.ntmps24
  go_upto_region 0 with fail
  refine WL.start <| uK (.slice none 0 0) <| WL.nil <| ?_
  try simp only [pS]
  go_upto_region 1 with fail
  refine WL.start <| uK (.pointer (some ⟨r, 0, none⟩)) <| uK (.pointer (some ⟨r, 0, none⟩)) <| uK (.pointer (some ⟨r, 11, none⟩)) <| ?_
  try simp only [pS]
  refine uT 3 ⟨r, 11, none⟩ (.int .i64 3) (w.setRow r (Rv.cells ⟨x.wr, x.cl, x.op, x.ky, g, x.rd, x.sz, x.bl, 3, an, vv, x.tag, x.er⟩)) (rs (Rv.cs (rvG x g an vv)) ([.int .i64 3]) (Rv.cs ⟨x.wr, x.cl, x.op, x.ky, g, x.rd, x.sz, x.bl, 3, an, vv, x.tag, x.er⟩) (HF.out.box 0 _ _ _ rfl) S3 (by simp [Value.oneCell', Sl.v])) ?_
  try simp only [pS]
  have HF : Hid (Fq (Only r) w (w.setRow r (Rv.cells ⟨x.wr, x.cl, x.op, x.ky, g, x.rd, x.sz, x.bl, 3, an, vv, x.tag, x.er⟩)) [(r, 62, Rv.cells ⟨x.wr, x.cl, x.op, x.ky, g, x.rd, x.sz, x.bl, 3, an, vv, x.tag, x.er⟩)]) := HF.out.set 0 rfl _
  generalize w.setRow r (Rv.cells ⟨x.wr, x.cl, x.op, x.ky, g, x.rd, x.sz, x.bl, 3, an, vv, x.tag, x.er⟩) = wk1 at HF ⊢
  refine WL.nil ?_
  try simp only [pS]
  go_upto_region 2 with fail
  refine WL.start <| uK (.pointer (some ⟨r, 0, none⟩)) <| uK (.int .i64 e) <| uK (.pointer (some ⟨r, 0, none⟩)) <| uK (.pointer (some ⟨r, 16, none⟩)) <| ?_
  try simp only [pS]
  refine uT 3 ⟨r, 16, none⟩ (.int .i64 e) (wk1.setRow r (Rv.cells ⟨x.wr, x.cl, x.op, x.ky, g, x.rd, x.sz, x.bl, 3, an, vv, x.tag, e⟩)) (rs (Rv.cs ⟨x.wr, x.cl, x.op, x.ky, g, x.rd, x.sz, x.bl, 3, an, vv, x.tag, x.er⟩) ([.int .i64 e]) (Rv.cs ⟨x.wr, x.cl, x.op, x.ky, g, x.rd, x.sz, x.bl, 3, an, vv, x.tag, e⟩) (HF.out.box 0 _ _ _ rfl) S3 (by simp [Value.oneCell', Sl.v])) ?_
  try simp only [pS]
  have HF : Hid (Fq (Only r) w (wk1.setRow r (Rv.cells ⟨x.wr, x.cl, x.op, x.ky, g, x.rd, x.sz, x.bl, 3, an, vv, x.tag, e⟩)) [(r, 62, Rv.cells ⟨x.wr, x.cl, x.op, x.ky, g, x.rd, x.sz, x.bl, 3, an, vv, x.tag, e⟩)]) := HF.out.set 0 rfl _
  generalize wk1.setRow r (Rv.cells ⟨x.wr, x.cl, x.op, x.ky, g, x.rd, x.sz, x.bl, 3, an, vv, x.tag, e⟩) = wk2 at HF ⊢
  refine WL.nil ?_
  try simp only [pS]
  go_upto_region 3 with fail
  refine WL.start <| uK (.slice none 0 0) <| WL.nil <| ?_
  try simp only [pS]
  go_wp2
  rw [HC.out]
  exact ⟨rfl, ⟨HF.out.box 0 _ _ _ rfl, HG.out.kept HF.out.kept (fun k h e => HG.out.own.notBox hR (by decide) (e ▸ h)), hnn⟩, HF.out.kept⟩
set_option maxRecDepth 100000 in
set_option maxHeartbeats 4000000 in
theorem rNeed (r : Nat) (x : Rx) (g an vv : Sl) (w : World) (hB : RfG w r x g an vv) : Calls Try.prog 29 #[.pointer (some ⟨r, 0, none⟩)] w (fun o w' => o = .returned (.int .i64 ((g.l / 2 + 1 : Nat) : Int)) ∧ Kept No w w') := by
  obtain ⟨C, hC⟩ : ∃ C : Ending → World → Prop, C = (fun o w' => o = .returned (.int .i64 ((g.l / 2 + 1 : Nat) : Int)) ∧ Kept No w w') := ⟨_, rfl⟩
  have HC : Hid (C = (fun o w' => o = .returned (.int .i64 ((g.l / 2 + 1 : Nat) : Int)) ∧ Kept No w w')) := hC
  rw [← hC]
  clear hC
  have HBr : Hid (Box w r 62 (rvG x g an vv).cells) := hB.box
  have HG : Hid (OwI w 0 g x.zs) := hB.gr
  have hzl := hB.gr.len
  have hnn := hB.hn
  clear hB
  have HF : Hid (Fq No w w []) := Fq.start _ _
  go_enter Try.func29, Try.ntmps29
  go_upto_region 0 with fail
  refine WL.start <| uK (.int .i64 0) <| WL.nil <| ?_
  try simp only [pS]
  go_upto_region 1 with fail
  refine WL.start <| uK (.pointer (some ⟨r, 0, none⟩)) <| uK (.pointer (some ⟨r, 0, none⟩)) <| uK (.pointer (some ⟨r, 7, none⟩)) <| uL 24 ⟨r, 7, none⟩ (g.v) (load_one ((HBr.out.kept HF.out.kept (fun e => e)).cell 7 |>.trans (by kernel_rfl)) U24 rfl) <| uK (.int .i64 ((g.l : Nat) : Int)) <| uB .quo 3 (.int .i64 ((g.l : Nat) : Int)) (.int .i64 2) (.int .i64 (((g.l / 2) : Nat) : Int)) (b_quo2 _ (by omega) _) <| uB .add 3 (.int .i64 (((g.l / 2) : Nat) : Int)) (.int .i64 1) (.int .i64 ((((g.l / 2) + 1) : Nat) : Int)) (b_addw _ _ _ (by rw [IntKind.wrap_i64]; omega) _) <| ?_
  try simp only [pS]
  refine uK (.int .i64 ((((g.l / 2) + 1) : Nat) : Int)) <| WL.nil <| ?_
  try simp only [pS]
  go_wp2
  rw [HC.out]
  exact ⟨rfl, HF.out.kept⟩
set_option maxRecDepth 100000 in
set_option maxHeartbeats 4000000 in
theorem rFresh (r : Nat) (x : Rx) (g an vv : Sl) (w : World) (hB : RfG w r x g an vv) : Calls Try.prog 25 #[.pointer (some ⟨r, 0, none⟩)] w (fun o w' => ∃ ba bv : Nat, o = .returned (.tuple #[]) ∧ RfL w' r (freR x) g ba bv ∧ w.heap.size ≤ ba ∧ w.heap.size ≤ bv ∧ Kept (Only r) w w') := by
  obtain ⟨C, hC⟩ : ∃ C : Ending → World → Prop, C = (fun o w' => ∃ ba bv : Nat, o = .returned (.tuple #[]) ∧ RfL w' r (freR x) g ba bv ∧ w.heap.size ≤ ba ∧ w.heap.size ≤ bv ∧ Kept (Only r) w w') := ⟨_, rfl⟩
  have HC : Hid (C = (fun o w' => ∃ ba bv : Nat, o = .returned (.tuple #[]) ∧ RfL w' r (freR x) g ba bv ∧ w.heap.size ≤ ba ∧ w.heap.size ≤ bv ∧ Kept (Only r) w w')) := hC
  rw [← hC]
  clear hC
  have HBr : Hid (Box w r 62 (rvG x g an vv).cells) := hB.box
  have HG : Hid (OwI w 0 g x.zs) := hB.gr
  have hzl := hB.gr.len
  have hnn := hB.hn
  have HF : Hid (Fq (Only r) w w [(r, 62, (rvG x g an vv).cells)]) := ⟨Kept.refl _ _, fun i g' T cs hi => by
    match i, hi with
    | 0, hi => cases hi; exact HBr.out, fun i g' T cs hi => by
    match i, hi with
    | 0, hi => cases hi; exact .inr rfl, fun i j g' T cs T' cs' hi hj => by
    match i, j, hi, hj with
    | 0, 0, _, _ => rfl⟩
  have hR := HBr.out
  have hrl := HBr.out.lt
  clear hB HBr
  go_enter Try.func25, Try.ntmps25
  go_upto_region 0 with fail
  refine WL.start <| uK (.pointer (some ⟨r, 0, none⟩)) <| uK (.pointer (some ⟨r, 0, none⟩)) <| uK (.pointer (some ⟨r, 0, none⟩)) <| uK (.pointer (some ⟨r, 7, none⟩)) <| uL 24 ⟨r, 7, none⟩ (g.v) (load_one ((HF.out.box 0 _ _ _ rfl).cell 7 |>.trans (by kernel_rfl)) U24 rfl) <| uK (.int .i64 ((g.l : Nat) : Int)) <| ?_
  try simp only [pS]
  refine uR (.slice (some ⟨w.heap.size, 0, none⟩) g.l g.l) (w.alloc (.cells ((boL (List.replicate g.l false)).toArray) 4)) (exec_make 60 _ _ rfl _ _ (by kernel_rfl) (by kernel_rfl) (make_bo _ g.l (by omega))) ?_
  try simp only [pS]
  have HF : Hid (Fq (Only r) w (w.alloc (.cells ((boL (List.replicate g.l false)).toArray) 4)) [(r, 62, Rv.cells (rvG x g an vv)), (w.heap.size, 4, (boL (List.replicate g.l false)).toArray)]) := HF.out.alloc _ _
  generalize w.alloc (.cells ((boL (List.replicate g.l false)).toArray) 4) = wk2 at HF ⊢
  generalize w.heap.size = gk1 at HF ⊢
  refine uK (.pointer (some ⟨r, 0, none⟩)) <| uK (.pointer (some ⟨r, 12, none⟩)) <| ?_
  try simp only [pS]
  refine uT 60 ⟨r, 12, none⟩ (.slice (some ⟨gk1, 0, none⟩) g.l g.l) (wk2.setRow r (Rv.cells ⟨x.wr, x.cl, x.op, x.ky, g, x.rd, x.sz, x.bl, x.ph, ⟨(some ⟨gk1, 0, none⟩), g.l, g.l⟩, vv, x.tag, x.er⟩)) (rs (Rv.cs (rvG x g an vv)) ([.slice (some ⟨gk1, 0, none⟩) g.l g.l]) (Rv.cs ⟨x.wr, x.cl, x.op, x.ky, g, x.rd, x.sz, x.bl, x.ph, ⟨(some ⟨gk1, 0, none⟩), g.l, g.l⟩, vv, x.tag, x.er⟩) (HF.out.box 0 _ _ _ rfl) S70 (by simp [Value.oneCell', Sl.v])) ?_
  try simp only [pS]
  have HF : Hid (Fq (Only r) w (wk2.setRow r (Rv.cells ⟨x.wr, x.cl, x.op, x.ky, g, x.rd, x.sz, x.bl, x.ph, ⟨(some ⟨gk1, 0, none⟩), g.l, g.l⟩, vv, x.tag, x.er⟩)) [(r, 62, Rv.cells ⟨x.wr, x.cl, x.op, x.ky, g, x.rd, x.sz, x.bl, x.ph, ⟨(some ⟨gk1, 0, none⟩), g.l, g.l⟩, vv, x.tag, x.er⟩), (gk1, 4, (boL (List.replicate g.l false)).toArray)]) := HF.out.set 0 rfl _
  generalize wk2.setRow r (Rv.cells ⟨x.wr, x.cl, x.op, x.ky, g, x.rd, x.sz, x.bl, x.ph, ⟨(some ⟨gk1, 0, none⟩), g.l, g.l⟩, vv, x.tag, x.er⟩) = wk3 at HF ⊢
  refine WL.nil ?_
  try simp only [pS]
  go_upto_region 1 with fail
  refine WL.start <| uK (.pointer (some ⟨r, 0, none⟩)) <| uK (.pointer (some ⟨r, 0, none⟩)) <| uK (.pointer (some ⟨r, 0, none⟩)) <| uK (.pointer (some ⟨r, 7, none⟩)) <| uL 24 ⟨r, 7, none⟩ (g.v) (load_one ((HF.out.box 0 _ _ _ rfl).cell 7 |>.trans (by kernel_rfl)) U24 rfl) <| uK (.int .i64 ((g.l : Nat) : Int)) <| ?_
  try simp only [pS]
  refine uR (.slice (some ⟨wk3.heap.size, 0, none⟩) g.l g.l) (wk3.alloc (.cells ((mgL (List.replicate g.l mgZ)).toArray) 52)) (exec_make 57 _ _ rfl _ _ (by kernel_rfl) (by kernel_rfl) (make_mg _ g.l (by omega))) ?_
  try simp only [pS]
  have HF : Hid (Fq (Only r) w (wk3.alloc (.cells ((mgL (List.replicate g.l mgZ)).toArray) 52)) [(r, 62, Rv.cells ⟨x.wr, x.cl, x.op, x.ky, g, x.rd, x.sz, x.bl, x.ph, ⟨(some ⟨gk1, 0, none⟩), g.l, g.l⟩, vv, x.tag, x.er⟩), (gk1, 4, (boL (List.replicate g.l false)).toArray), (wk3.heap.size, 52, (mgL (List.replicate g.l mgZ)).toArray)]) := HF.out.alloc _ _
  generalize wk3.alloc (.cells ((mgL (List.replicate g.l mgZ)).toArray) 52) = wk5 at HF ⊢
  generalize wk3.heap.size = gk4 at HF ⊢
  refine uK (.pointer (some ⟨r, 0, none⟩)) <| uK (.pointer (some ⟨r, 13, none⟩)) <| ?_
  try simp only [pS]
  refine uT 57 ⟨r, 13, none⟩ (.slice (some ⟨gk4, 0, none⟩) g.l g.l) (wk5.setRow r (Rv.cells ⟨x.wr, x.cl, x.op, x.ky, g, x.rd, x.sz, x.bl, x.ph, ⟨(some ⟨gk1, 0, none⟩), g.l, g.l⟩, ⟨(some ⟨gk4, 0, none⟩), g.l, g.l⟩, x.tag, x.er⟩)) (rs (Rv.cs ⟨x.wr, x.cl, x.op, x.ky, g, x.rd, x.sz, x.bl, x.ph, ⟨(some ⟨gk1, 0, none⟩), g.l, g.l⟩, vv, x.tag, x.er⟩) ([.slice (some ⟨gk4, 0, none⟩) g.l g.l]) (Rv.cs ⟨x.wr, x.cl, x.op, x.ky, g, x.rd, x.sz, x.bl, x.ph, ⟨(some ⟨gk1, 0, none⟩), g.l, g.l⟩, ⟨(some ⟨gk4, 0, none⟩), g.l, g.l⟩, x.tag, x.er⟩) (HF.out.box 0 _ _ _ rfl) S71 (by simp [Value.oneCell', Sl.v])) ?_
  try simp only [pS]
  have HF : Hid (Fq (Only r) w (wk5.setRow r (Rv.cells ⟨x.wr, x.cl, x.op, x.ky, g, x.rd, x.sz, x.bl, x.ph, ⟨(some ⟨gk1, 0, none⟩), g.l, g.l⟩, ⟨(some ⟨gk4, 0, none⟩), g.l, g.l⟩, x.tag, x.er⟩)) [(r, 62, Rv.cells ⟨x.wr, x.cl, x.op, x.ky, g, x.rd, x.sz, x.bl, x.ph, ⟨(some ⟨gk1, 0, none⟩), g.l, g.l⟩, ⟨(some ⟨gk4, 0, none⟩), g.l, g.l⟩, x.tag, x.er⟩), (gk1, 4, (boL (List.replicate g.l false)).toArray), (gk4, 52, (mgL (List.replicate g.l mgZ)).toArray)]) := HF.out.set 0 rfl _
  generalize wk5.setRow r (Rv.cells ⟨x.wr, x.cl, x.op, x.ky, g, x.rd, x.sz, x.bl, x.ph, ⟨(some ⟨gk1, 0, none⟩), g.l, g.l⟩, ⟨(some ⟨gk4, 0, none⟩), g.l, g.l⟩, x.tag, x.er⟩) = wk6 at HF ⊢
  refine WL.nil ?_
  try simp only [pS]
  go_wp2
  rw [HC.out]
  have hz : x.zs.length = g.l := hzl
  have e1 : (freR x).qa = List.replicate g.l false := by simp [freR, hz]
  have e2 : (freR x).vs = List.replicate g.l mgZ := by simp [freR, hz]
  refine bodyPost_end (v := .tuple #[]) (by kernel_rfl) rfl ⟨gk1, gk4, rfl, ⟨HF.out.box 0 _ _ _ rfl, HG.out.kept HF.out.kept (fun k h e => HG.out.own.notBox hR (by decide) (e ▸ h)), hnn, by rw [e1]; exact HF.out.box 1 _ _ _ rfl, by rw [e2]; exact HF.out.box 2 _ _ _ rfl, by simp [freR, hz], by simp [freR, hz]⟩, ?_, ?_, HF.out.kept⟩
  · exact (HF.out.low 1 _ _ _ rfl).elim id (fun e => absurd (show gk1 = r from e) (fun e => box_ne (HF.out.box 1 _ _ _ rfl) (HF.out.box 0 _ _ _ rfl) (by decide) e))
  · exact (HF.out.low 2 _ _ _ rfl).elim id (fun e => absurd (show gk4 = r from e) (fun e => box_ne (HF.out.box 2 _ _ _ rfl) (HF.out.box 0 _ _ _ rfl) (by decide) e))

end Go.Proofs.Ythnecaejhnojfaa.Md
