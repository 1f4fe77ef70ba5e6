import Derived.Test.YtfemlnfknebalabZf
import Derived.Test.YtfemlnfknebalabSd
namespace Go.Proofs.Ytfemlnfknebalab
open Go.RowKit
set_option linter.unusedVariables false
set_option linter.unusedSimpArgs false

theorem slice0_en (w : World) : (Instr.buildSlice 23 0 #[]).run Try.prog w = .ok (.slice (some ⟨w.heap.size, 0, none⟩) 0 0) (w.alloc (.cells #[] 34)) := by kernel_rfl
theorem slice0_la (w : World) : (Instr.buildSlice 24 0 #[]).run Try.prog w = .ok (.slice (some ⟨w.heap.size, 0, none⟩) 0 0) (w.alloc (.cells #[] 67)) := by kernel_rfl
theorem exec_slice0 {o : Oper} {a : Act} {w : World} (t e : TypeId) (ho : o.op = .buildSlice t 0 #[]) (hrun : (Instr.buildSlice t 0 #[]).run Try.prog w = .ok (.slice (some ⟨w.heap.size, 0, none⟩) 0 0) (w.alloc (.cells #[] e))) : (execOp a.eval o).run Try.prog w = .ok (.value (.slice (some ⟨w.heap.size, 0, none⟩) 0 0)) (w.alloc (.cells #[] e)) := by
  simp only [execOp, ho, Sem.run_bind]
  simp [hrun]
theorem own0 {w : World} {base g : Nat} {t c : Nat} (hb : base ≤ g) (hg : Box w g t #[]) : Own t c w base (some ⟨g, 0, none⟩) 0 0 [] := Own.shut (cur := []) hb hg (Nat.le_refl _) (by omega) (by simp) (by simp)
/-- Buckets in a row. -/
def bvL (vs : List Bv) : List Value := (vs.map Bv.cs).flatten
theorem Bv.oneL (e : Bv) : ∀ v ∈ e.cs, v.oneCell' = true := by simp [Bv.cs, Sl.v, Value.oneCell']
/-- A bucket in memory: its lists can be read, and lie in rows of their own types. -/
structure BkAt (w : World) (v : Bv) (b : Bk) : Prop where
  up : v.up = b.up
  e : RdE w v.e b.es
  l : RdL w v.l b.ls
  te : ∀ k, At v.e.a k → ∃ cs, Box w k 34 cs
  tl : ∀ k, At v.l.a k → ∃ cs, Box w k 67 cs
  ne : b.es.length ≤ 1000
  nl : b.ls.length ≤ 1000
theorem BkAt.kept {S : Nat → Prop} {w w' : World} {v : Bv} {b : Bk} (h : BkAt w v b) (hk : Kept S w w') (hS : ∀ k, S k → ∃ T cs, Box w k T cs ∧ T ≠ 34 ∧ T ≠ 67) : BkAt w' v b := by
  have h1 : ∀ k, At v.e.a k → ¬ S k := fun k hk e => by
    obtain ⟨cs, hb⟩ := h.te k hk
    obtain ⟨T, cs', hb', hT, _⟩ := hS k e
    exact box_ne hb hb' (Ne.symm hT) rfl
  have h2 : ∀ k, At v.l.a k → ¬ S k := fun k hk e => by
    obtain ⟨cs, hb⟩ := h.tl k hk
    obtain ⟨T, cs', hb', _, hT⟩ := hS k e
    exact box_ne hb hb' (Ne.symm hT) rfl
  exact ⟨h.up, h.e.kept hk h1, h.l.kept hk h2, fun k hk' => by obtain ⟨cs, hb⟩ := h.te k hk'; exact ⟨cs, hb.kept hk (h1 k hk')⟩, fun k hk' => by obtain ⟨cs, hb⟩ := h.tl k hk'; exact ⟨cs, hb.kept hk (h2 k hk')⟩, h.ne, h.nl⟩
theorem BkAt.no {w w' : World} {v : Bv} {b : Bk} (h : BkAt w v b) (hk : Kept No w w') : BkAt w' v b := h.kept hk (fun _ e => e.elim)
theorem BkAt.row {w : World} {v : Bv} {b : Bk} (h : BkAt w v b) {g : Nat} {T : TypeId} {cs : Array Value} (hb : Box w g T cs) (h1 : T ≠ 34) (h2 : T ≠ 67) (cs' : Array Value) : BkAt (w.setRow g cs') v b := h.kept (Kept.setRow _ _ _) (fun k e => ⟨T, cs, (show k = g from e) ▸ hb, h1, h2⟩)
theorem Own.ty {t : TypeId} {c : Nat} {w : World} {base : Nat} {a : Option Addr} {cap n : Nat} {vs : List Value} (h : Own t c w base a cap n vs) {k : Nat} (hk : At a k) : ∃ cs, Box w k t cs := by
  rcases h.cases h.1 with ⟨rfl, _⟩ | ⟨g, rfl, _, hg, sp, hbx, _⟩
  · exact absurd hk At.none
  · obtain ⟨ad, e, rfl⟩ := hk
    cases e
    exact ⟨_, hbx⟩
theorem BkAt.own {w : World} {base base' : Nat} {v : Bv} {b : Bk} (hu : v.up = b.up) (he : OwE w base v.e b.es) (hl : OwL w base' v.l b.ls) (h1 : b.es.length ≤ 1000) (h2 : b.ls.length ≤ 1000) : BkAt w v b := ⟨hu, he.rd, hl.rd, fun k hk => he.own.ty hk, fun k hk => hl.own.ty hk, h1, h2⟩
/-- The old buckets, and their copies. -/
structure Olds (w : World) (base B : Nat) (a8 : Option Addr) (n8 c8 : Nat) (a9 : Option Addr) (n9 c9 : Nat) (os ks : List Bv) (hs : List Bk) : Prop where
  o8 : Own 26 3 w base a8 c8 n8 (bvL os)
  o9 : Own 26 3 w base a9 c9 n9 (bvL ks)
  l8 : os.length = n8
  l9 : ks.length = n9
  lh : hs.length = n8
  b8 : ∀ (i : Nat) v, os[i]? = some v → ∃ b, hs[i]? = some b ∧ BkAt w v b
  b9 : ∀ (i : Nat) v, ks[i]? = some v → ∃ b, hs[i]? = some b ∧ BkAt w v b
  ap : ∀ k, At a8 k → k ≠ B ∧ ¬ At a9 k
  aq : ∀ k, At a9 k → k ≠ B
theorem Olds.start (w : World) (base B : Nat) : Olds w base B none 0 0 none 0 0 [] [] [] := ⟨Own.nil _ _ _ _, Own.nil _ _ _ _, rfl, rfl, rfl, fun i v h => by simp at h, fun i v h => by simp at h, fun k h => absurd h At.none, fun k h => absurd h At.none⟩
theorem Olds.no {w w' : World} {base B : Nat} {a8 a9 : Option Addr} {n8 c8 n9 c9 : Nat} {os ks : List Bv} {hs : List Bk} (h : Olds w base B a8 n8 c8 a9 n9 c9 os ks hs) (hk : Kept No w w') : Olds w' base B a8 n8 c8 a9 n9 c9 os ks hs :=
  ⟨h.o8.no hk, h.o9.no hk, h.l8, h.l9, h.lh, fun i v e => by obtain ⟨b, h1, h2⟩ := h.b8 i v e; exact ⟨b, h1, h2.no hk⟩, fun i v e => by obtain ⟨b, h1, h2⟩ := h.b9 i v e; exact ⟨b, h1, h2.no hk⟩, h.ap, h.aq⟩
theorem Olds.row {w : World} {base B : Nat} {a8 a9 : Option Addr} {n8 c8 n9 c9 : Nat} {os ks : List Bv} {hs : List Bk} (h : Olds w base B a8 n8 c8 a9 n9 c9 os ks hs) {cs : Array Value} (hb : Box w B 26 cs) (cs' : Array Value) : Olds (w.setRow B cs') base B a8 n8 c8 a9 n9 c9 os ks hs :=
  ⟨h.o8.kept (Kept.setRow _ _ _) (fun k hk e => (h.ap k hk).1 e), h.o9.kept (Kept.setRow _ _ _) (fun k hk e => h.aq k hk e), h.l8, h.l9, h.lh, fun i v e => by obtain ⟨b, h1, h2⟩ := h.b8 i v e; exact ⟨b, h1, h2.row hb (by decide) (by decide) _⟩, fun i v e => by obtain ⟨b, h1, h2⟩ := h.b9 i v e; exact ⟨b, h1, h2.row hb (by decide) (by decide) _⟩, h.ap, h.aq⟩
/-- Behind k commands. -/
structure Fine (k : Nat) (b : Bk) : Prop where
  up : 0 ≤ b.up
  re : RiseE b.es
  rl : RiseL b.ls
  ne : b.es.length ≤ k
  nl : b.ls.length ≤ k
theorem Fine.step {k : Nat} {b : Bk} (h : Fine k b) (c : Cm) (room : Int) : Fine (k + 1) (stepS b c room).1 := by
  have h1 := act_rise h.re c room
  have h2 := step_ls h.rl c room
  exact ⟨by show 0 ≤ b.up + 1; have := h.up; omega, h1.1, h2.1, by show (actS b.es c room).1.length ≤ _; have := h1.2.2; have := h.ne; omega, by have := h2.2.2; have := h.nl; omega⟩
theorem Fine.mono {k m : Nat} {b : Bk} (h : Fine k b) (hm : k ≤ m) : Fine m b := ⟨h.up, h.re, h.rl, Nat.le_trans h.ne hm, Nat.le_trans h.nl hm⟩
set_option maxRecDepth 100000 in
set_option maxHeartbeats 4000000 in
theorem twin_any (up : Int) (ae : Option Addr) (ne ce : Nat) (al : Option Addr) (nl cl : Nat) (es : List En) (ls : List La) (w : World) (hbe : ne * 40 ≤ 140737488355328) (hbl : nl * 56 ≤ 140737488355328) (he : RdE w ⟨ae, ne, ce⟩ es) (hl : RdL w ⟨al, nl, cl⟩ ls) : Calls Try.prog 9 #[.agg (Bv.cells ⟨up, ⟨ae, ne, ce⟩, ⟨al, nl, cl⟩⟩)] w (CopOut w up es ls) := by
  obtain ⟨C, hC⟩ : ∃ C : Ending → World → Prop, C = (CopOut w up es ls) := ⟨_, rfl⟩
  have HC : Hid (C = (CopOut w up es ls)) := hC
  rw [← hC]
  clear hC
  have HE : Hid (RdE w ⟨ae, ne, ce⟩ es) := he
  have HL : Hid (RdL w ⟨al, nl, cl⟩ ls) := hl
  clear he hl
  have HF : Hid (Fr No w w []) := Fr.start _ _
  go_enter Try.func9, Try.ntmps9
  go_upto_region 0 with fail
  refine WL.start ?_
  refine wp_runW (.pointer (some ⟨w.heap.size, 0, none⟩)) (w.alloc (.cells (Bv.cells ⟨up, ⟨ae, ne, ce⟩, ⟨al, nl, cl⟩⟩) 26)) (exec_box 26 _ rfl (Bv.cells ⟨up, ⟨ae, ne, ce⟩, ⟨al, nl, cl⟩⟩) (by kernel_rfl)) (by kernel_rfl) ?_
  try simp only [pA, pB, p1, p2, p3]
  have HF : Hid (Fr No w (w.alloc (.cells (Bv.cells ⟨up, ⟨ae, ne, ce⟩, ⟨al, nl, cl⟩⟩) 26)) [(w.heap.size, 26, Bv.cells ⟨up, ⟨ae, ne, ce⟩, ⟨al, nl, cl⟩⟩)]) := HF.out.alloc _ _
  generalize w.alloc (.cells (Bv.cells ⟨up, ⟨ae, ne, ce⟩, ⟨al, nl, cl⟩⟩) 26) = wk2 at HF ⊢
  generalize w.heap.size = gk1 at HF ⊢
  refine wp_runW (.pointer (some ⟨wk2.heap.size, 0, none⟩)) (wk2.alloc (.cells (Bv.cells bvZ) 26)) (exec_alloc 26 rfl (Bv.cells bvZ) zero25) (by kernel_rfl) ?_
  try simp only [pA, pB, p1, p2, p3]
  have HF : Hid (Fr No w (wk2.alloc (.cells (Bv.cells bvZ) 26)) [(gk1, 26, Bv.cells ⟨up, ⟨ae, ne, ce⟩, ⟨al, nl, cl⟩⟩), (wk2.heap.size, 26, Bv.cells bvZ)]) := HF.out.alloc _ _
  generalize wk2.alloc (.cells (Bv.cells bvZ) 26) = wk4 at HF ⊢
  generalize wk2.heap.size = gk3 at HF ⊢
  refine WL.nil ?_
  try simp only [pA, pB, p1, p2, p3]
  go_upto_region 1 with fail
  refine WL.start ?_
  refine wp_runW (.slice (some ⟨wk4.heap.size, 0, none⟩) 0 0) (wk4.alloc (.cells #[] 34)) (exec_slice0 23 34 rfl (slice0_en _)) (by kernel_rfl) ?_
  try simp only [pA, pB, p1, p2, p3]
  have HN : Hid (Own 34 4 (wk4.alloc (.cells #[] 34)) w.heap.size (some ⟨wk4.heap.size, 0, none⟩) 0 0 []) := own0 HF.out.kept.size (Box.new _ _ _)
  have HF : Hid (Fr No w (wk4.alloc (.cells #[] 34)) [(gk1, 26, Bv.cells ⟨up, ⟨ae, ne, ce⟩, ⟨al, nl, cl⟩⟩), (gk3, 26, Bv.cells bvZ)]) := HF.out.no ((Kept.refl No _).alloc _)
  generalize wk4.alloc (.cells #[] 34) = wk5 at HF HN ⊢
  generalize wk4.heap.size = gk6 at HN ⊢
  refine tK (.pointer (some ⟨gk1, 1, none⟩)) ?_
  try simp only [pA, pB, p1, p2, p3]
  refine tW (.slice ae ne ce) (exec_load 23 _ rfl ⟨gk1, 1, none⟩ (by kernel_rfl) (.slice ae ne ce) (ld22 ((HF.out.box 0 _ _ _ rfl).cell 1))) ?_
  try simp only [pA, pB, p1, p2, p3]
  obtain ⟨aE, cE, wk7, hrun, hO, hk, hA⟩ := run_appN (w := wk5) 23 23 34 4 40 (.agg enZ.cells) Try.und22 Try.info54 rfl (by omega) w.heap.size 0 0 (some ⟨gk6, 0, none⟩) [] HN.out ae ne ce (enL es) (by rw [enL_len, (HE.out).len]) (HE.out).cap (HE.out.no HF.out.kept).src (enL_one _) (by omega) (by omega) HF.out.kept.size
  rw [Nat.zero_add] at hrun hO
  have hoth : ∀ k, At (some (⟨gk6, 0, none⟩ : Addr)) k → w.heap.size ≤ k := fun k hk => HN.out.base hk
  refine wp_runW (.slice aE ne cE) wk7 (exec_appN _ _ 23 23 rfl _ _ (by kernel_rfl) (by kernel_rfl) hrun) (by kernel_rfl) ?_
  try simp only [pA, pB, p1, p2, p3]
  have HF : Hid (Fr No w wk7 [(gk1, 26, Bv.cells ⟨up, ⟨ae, ne, ce⟩, ⟨al, nl, cl⟩⟩), (gk3, 26, Bv.cells bvZ)]) := HF.out.app HN.out hk (by simp)
  have HOE : Hid (OwE wk7 w.heap.size ⟨aE, ne, cE⟩ es) := ⟨hO, HE.out.len⟩
  clear hrun hO hk hA hoth HN
  refine tK (.pointer (some ⟨gk1, 1, none⟩)) ?_
  try simp only [pA, pB, p1, p2, p3]
  refine wp_storeW 23 _ _ rfl ⟨gk1, 1, none⟩ (.slice aE ne cE) (by kernel_rfl) (by kernel_rfl) (wk7.setRow gk1 (Bv.cells ⟨up, ⟨aE, ne, cE⟩, ⟨al, nl, cl⟩⟩)) (run_store_at (cur := Bv.cs ⟨up, ⟨ae, ne, ce⟩, ⟨al, nl, cl⟩⟩) (vs := [.slice aE ne cE]) (HF.out.box 0 _ _ _ rfl) rfl Try.size22 (by exact Nat.le_of_ble_eq_true rfl) (by simp [Value.oneCell'])) (by kernel_rfl) ?_
  try simp only [pA, pB, p1, p2, p3]
  have HOE : Hid (OwE (wk7.setRow gk1 (Bv.cells ⟨up, ⟨aE, ne, cE⟩, ⟨al, nl, cl⟩⟩)) w.heap.size ⟨aE, ne, cE⟩ es) := HOE.out.kept (Kept.setRow _ _ _) (fun k h e => (HOE.out.own.notBox (HF.out.box 0 _ _ _ rfl) (by decide)) ((show k = gk1 from e) ▸ h))
  have HF : Hid (Fr No w (wk7.setRow gk1 (Bv.cells ⟨up, ⟨aE, ne, cE⟩, ⟨al, nl, cl⟩⟩)) [(gk1, 26, Bv.cells ⟨up, ⟨aE, ne, cE⟩, ⟨al, nl, cl⟩⟩), (gk3, 26, Bv.cells bvZ)]) := HF.out.set 0 rfl _
  generalize wk7.setRow gk1 (Bv.cells ⟨up, ⟨aE, ne, cE⟩, ⟨al, nl, cl⟩⟩) = wk8 at HF HOE ⊢
  refine WL.nil ?_
  try simp only [pA, pB, p1, p2, p3]
  go_upto_region 2 with fail
  refine WL.start ?_
  refine wp_runW (.slice (some ⟨wk8.heap.size, 0, none⟩) 0 0) (wk8.alloc (.cells #[] 67)) (exec_slice0 24 67 rfl (slice0_la _)) (by kernel_rfl) ?_
  try simp only [pA, pB, p1, p2, p3]
  have HN : Hid (Own 67 7 (wk8.alloc (.cells #[] 67)) w.heap.size (some ⟨wk8.heap.size, 0, none⟩) 0 0 []) := own0 HF.out.kept.size (Box.new _ _ _)
  have HOE : Hid (OwE (wk8.alloc (.cells #[] 67)) w.heap.size ⟨aE, ne, cE⟩ es) := HOE.out.no ((Kept.refl No _).alloc _)
  have HF : Hid (Fr No w (wk8.alloc (.cells #[] 67)) [(gk1, 26, Bv.cells ⟨up, ⟨aE, ne, cE⟩, ⟨al, nl, cl⟩⟩), (gk3, 26, Bv.cells bvZ)]) := HF.out.no ((Kept.refl No _).alloc _)
  generalize wk8.alloc (.cells #[] 67) = wk9 at HF HN HOE ⊢
  generalize wk8.heap.size = gk10 at HN ⊢
  refine tK (.pointer (some ⟨gk1, 2, none⟩)) ?_
  try simp only [pA, pB, p1, p2, p3]
  refine tW (.slice al nl cl) (exec_load 24 _ rfl ⟨gk1, 2, none⟩ (by kernel_rfl) (.slice al nl cl) (ld23 ((HF.out.box 0 _ _ _ rfl).cell 2))) ?_
  try simp only [pA, pB, p1, p2, p3]
  obtain ⟨aL, cL, wk11, hrun, hO, hk, hA⟩ := run_appN (w := wk9) 24 24 67 7 56 (.agg laZ.cells) Try.und23 Try.info64 rfl (by omega) w.heap.size 0 0 (some ⟨gk10, 0, none⟩) [] HN.out al nl cl (laL ls) (by rw [laL_len, (HL.out).len]) (HL.out).cap (HL.out.no HF.out.kept).src (laL_one _) (by omega) (by omega) HF.out.kept.size
  rw [Nat.zero_add] at hrun hO
  have hoth : ∀ k, At (some (⟨gk10, 0, none⟩ : Addr)) k → w.heap.size ≤ k := fun k hk => HN.out.base hk
  refine wp_runW (.slice aL nl cL) wk11 (exec_appN _ _ 24 24 rfl _ _ (by kernel_rfl) (by kernel_rfl) hrun) (by kernel_rfl) ?_
  try simp only [pA, pB, p1, p2, p3]
  have HOE : Hid (OwE wk11 w.heap.size ⟨aE, ne, cE⟩ es) := HOE.out.kept hk (fun k h1 h2 => HOE.out.own.apart HN.out (by decide) h1 h2)
  have HF : Hid (Fr No w wk11 [(gk1, 26, Bv.cells ⟨up, ⟨aE, ne, cE⟩, ⟨al, nl, cl⟩⟩), (gk3, 26, Bv.cells bvZ)]) := HF.out.app HN.out hk (by simp)
  have HOL : Hid (OwL wk11 w.heap.size ⟨aL, nl, cL⟩ ls) := ⟨hO, HL.out.len⟩
  clear hrun hO hk hA hoth HN
  refine tK (.pointer (some ⟨gk1, 2, none⟩)) ?_
  try simp only [pA, pB, p1, p2, p3]
  refine wp_storeW 24 _ _ rfl ⟨gk1, 2, none⟩ (.slice aL nl cL) (by kernel_rfl) (by kernel_rfl) (wk11.setRow gk1 (Bv.cells ⟨up, ⟨aE, ne, cE⟩, ⟨aL, nl, cL⟩⟩)) (run_store_at (cur := Bv.cs ⟨up, ⟨aE, ne, cE⟩, ⟨al, nl, cl⟩⟩) (vs := [.slice aL nl cL]) (HF.out.box 0 _ _ _ rfl) rfl Try.size23 (by exact Nat.le_of_ble_eq_true rfl) (by simp [Value.oneCell'])) (by kernel_rfl) ?_
  try simp only [pA, pB, p1, p2, p3]
  have HOE : Hid (OwE (wk11.setRow gk1 (Bv.cells ⟨up, ⟨aE, ne, cE⟩, ⟨aL, nl, cL⟩⟩)) w.heap.size ⟨aE, ne, cE⟩ es) := HOE.out.kept (Kept.setRow _ _ _) (fun k h e => (HOE.out.own.notBox (HF.out.box 0 _ _ _ rfl) (by decide)) ((show k = gk1 from e) ▸ h))
  have HOL : Hid (OwL (wk11.setRow gk1 (Bv.cells ⟨up, ⟨aE, ne, cE⟩, ⟨aL, nl, cL⟩⟩)) w.heap.size ⟨aL, nl, cL⟩ ls) := HOL.out.kept (Kept.setRow _ _ _) (fun k h e => (HOL.out.own.notBox (HF.out.box 0 _ _ _ rfl) (by decide)) ((show k = gk1 from e) ▸ h))
  have HF : Hid (Fr No w (wk11.setRow gk1 (Bv.cells ⟨up, ⟨aE, ne, cE⟩, ⟨aL, nl, cL⟩⟩)) [(gk1, 26, Bv.cells ⟨up, ⟨aE, ne, cE⟩, ⟨aL, nl, cL⟩⟩), (gk3, 26, Bv.cells bvZ)]) := HF.out.set 0 rfl _
  generalize wk11.setRow gk1 (Bv.cells ⟨up, ⟨aE, ne, cE⟩, ⟨aL, nl, cL⟩⟩) = wk12 at HF HOE HOL ⊢
  refine WL.nil ?_
  try simp only [pA, pB, p1, p2, p3]
  go_upto_region 3 with fail
  refine WL.start ?_
  refine tW (.agg (Bv.cells ⟨up, ⟨aE, ne, cE⟩, ⟨aL, nl, cL⟩⟩)) (exec_load 26 _ rfl ⟨gk1, 0, none⟩ (by kernel_rfl) (.agg (Bv.cells ⟨up, ⟨aE, ne, cE⟩, ⟨aL, nl, cL⟩⟩)) (ld25 (HF.out.box 0 _ _ _ rfl))) ?_
  try simp only [pA, pB, p1, p2, p3]
  refine wp_storeW 26 _ _ rfl ⟨gk3, 0, none⟩ (.agg (Bv.cells ⟨up, ⟨aE, ne, cE⟩, ⟨aL, nl, cL⟩⟩)) (by kernel_rfl) (by kernel_rfl) (wk12.setRow gk3 (Bv.cells ⟨up, ⟨aE, ne, cE⟩, ⟨aL, nl, cL⟩⟩)) (st25 (HF.out.box 1 _ _ _ rfl) rfl) (by kernel_rfl) ?_
  try simp only [pA, pB, p1, p2, p3]
  have HOE : Hid (OwE (wk12.setRow gk3 (Bv.cells ⟨up, ⟨aE, ne, cE⟩, ⟨aL, nl, cL⟩⟩)) w.heap.size ⟨aE, ne, cE⟩ es) := HOE.out.kept (Kept.setRow _ _ _) (fun k h e => (HOE.out.own.notBox (HF.out.box 1 _ _ _ rfl) (by decide)) ((show k = gk3 from e) ▸ h))
  have HOL : Hid (OwL (wk12.setRow gk3 (Bv.cells ⟨up, ⟨aE, ne, cE⟩, ⟨aL, nl, cL⟩⟩)) w.heap.size ⟨aL, nl, cL⟩ ls) := HOL.out.kept (Kept.setRow _ _ _) (fun k h e => (HOL.out.own.notBox (HF.out.box 1 _ _ _ rfl) (by decide)) ((show k = gk3 from e) ▸ h))
  have HF : Hid (Fr No w (wk12.setRow gk3 (Bv.cells ⟨up, ⟨aE, ne, cE⟩, ⟨aL, nl, cL⟩⟩)) [(gk1, 26, Bv.cells ⟨up, ⟨aE, ne, cE⟩, ⟨aL, nl, cL⟩⟩), (gk3, 26, Bv.cells ⟨up, ⟨aE, ne, cE⟩, ⟨aL, nl, cL⟩⟩)]) := HF.out.set 1 rfl _
  generalize wk12.setRow gk3 (Bv.cells ⟨up, ⟨aE, ne, cE⟩, ⟨aL, nl, cL⟩⟩) = wk13 at HF HOE HOL ⊢
  refine WL.nil ?_
  try simp only [pA, pB, p1, p2, p3]
  go_wp2
  rw [HC.out]
  refine bodyPost_ret (results_row1 (by rfl) _ _ gk3 (Bv.cells ⟨up, ⟨aE, ne, cE⟩, ⟨aL, nl, cL⟩⟩) (by rfl) (ld25 (HF.out.box 1 _ _ _ rfl))) rfl ?_
  exact ⟨_, _, rfl, HOE.out, HOL.out, HF.out.kept⟩

end Go.Proofs.Ytfemlnfknebalab
