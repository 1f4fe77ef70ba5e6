import Derived.Test.YtcgnbpaaalmkoabBc
namespace Go.Proofs.Ytcgnbpaaalmkoab
open Go.RowKit
set_option linter.unusedVariables false
set_option linter.unusedSimpArgs false

theorem load_cells {w : World} {b o : Nat} {it : List Value} {t : TypeId} {d : TypeDesc} (hc : ∀ (j : Nat) v, it[j]? = some v → w.cell? ⟨b, o + j, none⟩ = some v)
    (hu : Try.prog.underlying t = some d) (hd : (match d with | .struct _ | .array _ _ => true | _ => false) = true) (hi : (Try.prog.info? t).map (·.size) = some it.length) :
    (loadVar t ⟨b, o, none⟩).run Try.prog w = .ok (.agg it.toArray) w := load_at (n := 0) (i := 0) (off := o) hc hu hd hi
theorem Fr.ins {S : Nat → Prop} {w0 w : World} {l : List (Nat × TypeId × Array Value)} (h : Fr S w0 w l) {g : Nat} {T : TypeId} {cs : Array Value} (hg : w0.heap.size ≤ g) (hb : Box w g T cs) (hne : ∀ x ∈ l, x.1 ≠ g) : Fr S w0 w (l ++ [(g, T, cs)]) := by
  have key : ∀ (i : Nat) x, (l ++ [(g, T, cs)])[i]? = some x → l[i]? = some x ∨ (i = l.length ∧ x = (g, T, cs)) := by
    intro i x hi
    by_cases h1 : i < l.length
    · rw [List.getElem?_append_left h1] at hi; exact .inl hi
    · rw [List.getElem?_append_right (by omega)] at hi
      have h2 := (List.getElem?_eq_some_iff.1 hi).1
      simp at h2
      have h3 : i = l.length := by omega
      subst h3
      simp at hi
      exact .inr ⟨rfl, hi.symm⟩
  refine ⟨h.kept, fun i g1 T1 cs1 hi => ?_, fun i g1 T1 cs1 hi => ?_, fun i j g1 T1 cs1 T2 cs2 hi hj => ?_⟩
  · rcases key i _ hi with h1 | ⟨_, h1⟩
    · exact h.box i g1 T1 cs1 h1
    · cases h1; exact hb
  · rcases key i _ hi with h1 | ⟨_, h1⟩
    · exact h.low i g1 T1 cs1 h1
    · cases h1; exact hg
  · rcases key i _ hi with h1 | ⟨e1, h1⟩
    · rcases key j _ hj with h2 | ⟨e2, h2⟩
      · exact h.inj i j g1 T1 cs1 T2 cs2 h1 h2
      · cases h2; exact absurd rfl (hne _ (List.mem_of_getElem? h1))
    · rcases key j _ hj with h2 | ⟨e2, h2⟩
      · cases h1; exact absurd rfl (hne _ (List.mem_of_getElem? h2))
      · omega
theorem Fr.add2 {S : Nat → Prop} {w0 w w' : World} {l : List (Nat × TypeId × Array Value)} (h : Fr S w0 w l) {g1 g2 : Nat} {T1 T2 : TypeId} {c1 c2 : Array Value} (hk : Kept No w w') (h1 : w.heap.size ≤ g1) (b1 : Box w' g1 T1 c1) (h2 : w.heap.size ≤ g2) (b2 : Box w' g2 T2 c2) (hne : T1 ≠ T2) : Fr S w0 w' (l ++ [(g1, T1, c1), (g2, T2, c2)]) := by
  have hh := (h.add hk h1 b1).ins (g := g2) (T := T2) (cs := c2) (Nat.le_trans h.kept.size h2) b2 (fun x hx e => by
    rcases List.mem_append.1 hx with h3 | h3
    · obtain ⟨i, hi⟩ := List.mem_iff_getElem?.1 h3
      have := (h.box i x.1 x.2.1 x.2.2 hi).lt
      omega
    · simp at h3
      subst h3
      have e : g1 = g2 := e
      subst e
      unfold Box at b1 b2
      rw [b1] at b2
      exact hne (by injection (Option.some.inj b2)))
  simpa using hh
/-- What is held, in memory; what of it is lent. -/
structure HdAt (w : World) (h : Hd) (bs : List Int) (es : List En) (ls : List La) (ps : List Pl) : Prop where
  b : RdB w h.b.d bs
  e : RdE w h.k.e es
  l : RdL w h.k.l ls
  p : RdP w h.r ps
  nb : h.b.d.l ≤ 140737488351232
  ne : h.k.e.l ≤ 3518437208780
  nl : h.k.l.l ≤ 2513169434843
  np : h.r.l ≤ 1099511627744
theorem HdAt.no {w w' : World} {h : Hd} {bs : List Int} {es : List En} {ls : List La} {ps : List Pl} (H : HdAt w h bs es ls ps) (hk : Kept No w w') : HdAt w' h bs es ls ps := ⟨H.b.no hk, H.e.no hk, H.l.no hk, H.p.no hk, H.nb, H.ne, H.nl, H.np⟩
def lentH (h : Hd) (gb ge gl gp : Nat) : Hd := ⟨⟨h.b.s, lent h.b.d gb⟩, ⟨h.k.up, lent h.k.e ge, lent h.k.l gl⟩, lent h.r gp⟩
structure LtAt (W : World) (base : Nat) (h : Hd) (bs : List Int) (es : List En) (ls : List La) (ps : List Pl) (gb ge gl gp : Nat) : Prop where
  b : Box W gb 5 (u8L (tab (h.b.d.l + 67) (lntB h.b.d.l bs))).toArray
  e : Box W ge 91 (enL (tab (h.k.e.l + 67) (lntE h.k.e.l es))).toArray
  l : Box W gl 94 (laL (tab (h.k.l.l + 67) (lntL h.k.l.l ls))).toArray
  p : Box W gp 70 (plL (tab (h.r.l + 67) (lntP h.r.l ps))).toArray
  lb : base ≤ gb
  le : base ≤ ge
  ll : base ≤ gl
  lp : base ≤ gp
theorem LtAt.no {W W' : World} {base : Nat} {h : Hd} {bs : List Int} {es : List En} {ls : List La} {ps : List Pl} {gb ge gl gp : Nat} (H : LtAt W base h bs es ls ps gb ge gl gp) (hk : Kept No W W') : LtAt W' base h bs es ls ps gb ge gl gp := ⟨H.b.no hk, H.e.no hk, H.l.no hk, H.p.no hk, H.lb, H.le, H.ll, H.lp⟩
def LdOut (w : World) (h : Hd) (bs : List Int) (es : List En) (ls : List La) (ps : List Pl) (e : Ending) (w' : World) : Prop := ∃ gb ge gl gp : Nat, e = .returned (.agg (Hd.cells (lentH h gb ge gl gp))) ∧ LtAt w' w.heap.size h bs es ls ps gb ge gl gp ∧ Kept No w w'
set_option maxRecDepth 100000 in
set_option maxHeartbeats 4000000 in
theorem lend_any (h : Hd) (bs : List Int) (es : List En) (ls : List La) (ps : List Pl) (w : World) (hh : HdAt w h bs es ls ps) : Calls Try.prog 6 #[.agg (Hd.cells h)] w (LdOut w h bs es ls ps) := by
  obtain ⟨C, hC⟩ : ∃ C : Ending → World → Prop, C = (LdOut w h bs es ls ps) := ⟨_, rfl⟩
  have HC : Hid (C = (LdOut w h bs es ls ps)) := hC
  rw [← hC]
  clear hC
  have HH : Hid (HdAt w h bs es ls ps) := hh
  have HR : Hid (RdP w h.r ps) := hh.p
  have hn := hh.np
  clear hh
  have HF : Hid (Fr No w w []) := Fr.start _ _
  go_enter Try.func6, Try.ntmps6
  go_upto_region 0 with fail
  refine WL.start ?_
  refine wp_runW (.pointer (some ⟨w.heap.size, 0, none⟩)) (w.alloc (.cells (Hd.cells h) 33)) (exec_box 33 _ rfl (Hd.cells h) (by kernel_rfl)) (by kernel_rfl) ?_
  try simp only [pS]
  have HF : Hid (Fr No w _ [(w.heap.size, 33, Hd.cells h)]) := HF.out.alloc _ _
  generalize w.alloc (.cells (Hd.cells h) 33) = wk2 at HF ⊢
  generalize w.heap.size = gk1 at HF ⊢
  refine wp_runW (.pointer (some ⟨wk2.heap.size, 0, none⟩)) (wk2.alloc (.cells (Hd.cells hdZ) 49)) (exec_alloc 49 rfl (Hd.cells hdZ) zero40) (by kernel_rfl) ?_
  try simp only [pS]
  have HF : Hid (Fr No w _ [(gk1, 33, Hd.cells h), (wk2.heap.size, 49, Hd.cells hdZ)]) := HF.out.alloc _ _
  generalize wk2.alloc (.cells (Hd.cells hdZ) 49) = wk4 at HF ⊢
  generalize wk2.heap.size = gk3 at HF ⊢
  refine WL.nil ?_
  try simp only [pS]
  go_upto_region 1 with fail
  refine WL.start ?_
  refine tK (.pointer (some ⟨gk1, 6, none⟩)) ?_
  refine tW (h.r.v) (eL 31 _ rfl ⟨gk1, 6, none⟩ (load_one ((HF.out.box 0 _ _ _ rfl).cell 6 |>.trans (by kernel_rfl)) Try.und33 rfl)) ?_
  refine tK (.int .i64 ((h.r.l : Nat) : Int)) ?_
  refine tW (.int .i64 (((h.r.l + 67) : Nat) : Int)) (eB .add 3 _ _ _ rfl (.int .i64 ((h.r.l : Nat) : Int)) (.int .i64 67) _ (b_addw _ _ _ (by rw [IntKind.wrap_i64]; omega) _)) ?_
  try simp only [pS]
  refine wp_runW (.slice (some ⟨wk4.heap.size, 0, none⟩) (h.r.l + 67) (h.r.l + 67)) (wk4.alloc (.cells ((plL (List.replicate (h.r.l + 67) plZ)).toArray) 70)) (exec_make 47 _ _ rfl _ _ (by kernel_rfl) (by kernel_rfl) (make_pl _ (h.r.l + 67) (by omega))) (by kernel_rfl) ?_
  try simp only [pS]
  have HF : Hid (Fr No w _ [(gk1, 33, Hd.cells h), (gk3, 49, Hd.cells hdZ), (wk4.heap.size, 70, (plL (List.replicate (h.r.l + 67) plZ)).toArray)]) := HF.out.alloc _ _
  generalize wk4.alloc (.cells ((plL (List.replicate (h.r.l + 67) plZ)).toArray) 70) = wk6 at HF ⊢
  generalize wk4.heap.size = gk5 at HF ⊢
  refine tK (.slice (some ⟨gk5, 0, none⟩) (h.r.l + 67) (h.r.l + 67)) ?_
  try simp only [pS]
  refine WL.nil ?_
  try simp only [pS]
  go_upto_region 2 with fail
  refine WL.start ?_
  refine tK (.int .i64 0) ?_
  try simp only [pS]
  refine WL.nil ?_
  try simp only [pS]
  go_wp2
  go_loopw [4] (fun v4 wr => ∃ i : Nat, v4 = .int .i64 ((i : Nat) : Int) ∧ i ≤ h.r.l + 67 ∧ Hid (Fr No w wr [(gk1, 33, Hd.cells h), (gk3, 49, Hd.cells hdZ), (gk5, 70, (plL (tab (h.r.l + 67) (upt (lntP h.r.l ps) plZ i))).toArray)])) (fun i _ => h.r.l + 67 - (intOf i).toNat)
  case atStart => exact ⟨0, by go_num, by omega, by rw [upt_zero]; exact HF⟩
  case round =>
    clear HF
    obtain ⟨i, rfl, hi, HF⟩ := hrel
    by_cases hlt : i < h.r.l + 67
    · skip
      by_cases hn2 : i < h.r.l
      · skip
        obtain ⟨pb, po, hca, hcc⟩ := HR.out.at (i := i) hn2
        have hsl : h.r.v = .slice (some ⟨pb, po, none⟩) h.r.l h.r.k := by unfold Sl.v; rw [hca]
        obtain ⟨x, hx⟩ : ∃ x, x = pAt ps i := ⟨_, rfl⟩
        rw [← hx] at hcc
        have c0 : Hid (w.cell? ⟨pb, po + i * 15, none⟩ = some (.int .i64 x.n)) := hcc 0 _ rfl
        have ci : Hid (∀ (j : Nat) v, (In.cs x.i)[j]? = some v → w.cell? ⟨pb, po + i * 15 + 1 + j, none⟩ = some v) := fun j v hv => by rw [show po + i * 15 + 1 + j = po + i * 15 + (j + 1) by omega]; exact hcc (j + 1) v hv
        have hx2 : ps[i]?.getD plZ = (⟨x.n, x.i⟩ : Pl) := hx.symm
        clear hcc hx
        go_upto_region 3 with fail
        refine WL.start ?_
        refine tK (.int .i64 ((i : Nat) : Int)) ?_
        refine tK (.slice (some ⟨gk5, 0, none⟩) (h.r.l + 67) (h.r.l + 67)) ?_
        refine tK (.int .i64 (((h.r.l + 67) : Nat) : Int)) ?_
        refine tW (.bool true) (eB .lss 3 _ _ _ rfl (.int .i64 ((i : Nat) : Int)) (.int .i64 (((h.r.l + 67) : Nat) : Int)) _ (by rw [b_lss, decide_eq_true (by omega)])) ?_
        try simp only [pS]
        refine WL.nil ?_
        try simp only [pS]
        go_upto_region 5 with fail
        refine WL.start ?_
        refine tK (.slice (some ⟨gk5, 0, none⟩) (h.r.l + 67) (h.r.l + 67)) ?_
        refine tK (.int .i64 ((i : Nat) : Int)) ?_
        refine tK (.int .i64 ((i : Nat) : Int)) ?_
        refine tW (.int .i64 (-((i : Nat) : Int))) (eB .sub 3 _ _ _ rfl (.int .i64 0) (.int .i64 ((i : Nat) : Int)) _ (b_subw _ _ _ (by rw [IntKind.wrap_i64]; omega) _)) ?_
        refine tW (.agg (Pl.cells ⟨(-((i : Nat) : Int)), inZ⟩)) (exec_build 70 _ rfl (Pl.cells ⟨(-((i : Nat) : Int)), inZ⟩) (by kernel_rfl)) ?_
        refine tW (.pointer (some ⟨gk5, 0 + i * 15, none⟩)) (exec_ixA 47 15 Try.und38e Try.size38e _ _ rfl gk5 0 (h.r.l + 67) (h.r.l + 67) i (by kernel_rfl) (by kernel_rfl) (by omega)) ?_
        try simp only [pS]
        refine wp_storeW 70 _ _ rfl ⟨gk5, 0 + i * 15, none⟩ (.agg (Pl.cells ⟨(-((i : Nat) : Int)), inZ⟩)) (by kernel_rfl) (by kernel_rfl) (wr.setRow gk5 ((plL ((tab (h.r.l + 67) (upt (lntP h.r.l ps) plZ i)).set i (mkP i))).toArray)) (st_P (mkP i) (HF.out.box 2 _ _ _ rfl) (by rw [tab_len]; omega)) (by kernel_rfl) ?_
        try simp only [pS]
        have HF : Hid (Fr No w _ [(gk1, 33, Hd.cells h), (gk3, 49, Hd.cells hdZ), (gk5, 70, (plL ((tab (h.r.l + 67) (upt (lntP h.r.l ps) plZ i)).set i (mkP i))).toArray)]) := HF.out.set 2 rfl _
        generalize wr.setRow gk5 ((plL ((tab (h.r.l + 67) (upt (lntP h.r.l ps) plZ i)).set i (mkP i))).toArray) = wk7 at HF ⊢
        refine WL.nil ?_
        try simp only [pS]
        go_upto_region 6 with fail
        refine WL.start ?_
        refine tK (.int .i64 ((i : Nat) : Int)) ?_
        refine tK (.pointer (some ⟨gk1, 6, none⟩)) ?_
        refine tW (h.r.v) (eL 31 _ rfl ⟨gk1, 6, none⟩ (load_one ((HF.out.box 0 _ _ _ rfl).cell 6 |>.trans (by kernel_rfl)) Try.und33 rfl)) ?_
        refine tK (.int .i64 ((h.r.l : Nat) : Int)) ?_
        refine tW (.bool true) (eB .lss 3 _ _ _ rfl (.int .i64 ((i : Nat) : Int)) (.int .i64 ((h.r.l : Nat) : Int)) _ (by rw [b_lss, decide_eq_true (by omega)])) ?_
        try simp only [pS]
        refine WL.nil ?_
        try simp only [pS]
        go_upto_region 7 with fail
        refine wp_region_held_drew (S := fun w' => Fr No w w' [(gk1, 33, Hd.cells h), (gk3, 49, Hd.cells hdZ)]) rfl (Fr.front (l := [(gk1, 33, Hd.cells h), (gk3, 49, Hd.cells hdZ)]) (m := [(gk5, 70, (plL ((tab (h.r.l + 67) (upt (lntP h.r.l ps) plZ i)).set i (mkP i))).toArray)]) (HF.out.drew)) (fun hH => ?_)
        have HF : Hid (Fr No w (wk7.drew) [(gk1, 33, Hd.cells h), (gk3, 49, Hd.cells hdZ), (gk5, 70, (plL ((tab (h.r.l + 67) (upt (lntP h.r.l ps) plZ i)).set i (mkP i))).toArray)]) := HF.out.drew
        generalize wk7.drew = wk8 at HF hH ⊢
        refine aT (i := 0) (oi := { dst := some 27, op := Op.move (Operand.tmp 3), type := 47, pos := "law.go:17", after := #[], guard := none }) (v := .slice (some ⟨gk5, 0, none⟩) (h.r.l + 67) (h.r.l + 67)) (fun _ _ => by kernel_rfl) hH ?_
        try simp only [pS]
        refine aT (i := 1) (oi := { dst := some 28, op := Op.move (Operand.tmp 4), type := 3, pos := "law.go:17", after := #[], guard := none }) (v := .int .i64 ((i : Nat) : Int)) (fun _ _ => by kernel_rfl) hH ?_
        try simp only [pS]
        refine aT (i := 2) (oi := { dst := some 29, op := Op.fieldAddr 33 (Operand.tmp 1) 2, type := 0, pos := "law.go:17", after := #[], guard := none }) (v := .pointer (some ⟨gk1, 6, none⟩)) (fun _ _ => by kernel_rfl) hH ?_
        try simp only [pS]
        refine aT (i := 3) (oi := { dst := some 30, op := Op.load 31 (Operand.tmp 29), type := 31, pos := "law.go:17", after := #[{ on := 2, ground := Ground.data }], guard := none }) (v := h.r.v) (fun w' hw => eL 31 _ rfl ⟨gk1, 6, none⟩ (load_one ((hw.box 0 _ _ _ rfl).cell 6 |>.trans (by kernel_rfl)) Try.und33 rfl)) hH ?_
        try simp only [pS]
        refine aT (i := 4) (oi := { dst := some 31, op := Op.move (Operand.tmp 4), type := 3, pos := "law.go:17", after := #[], guard := none }) (v := .int .i64 ((i : Nat) : Int)) (fun _ _ => by kernel_rfl) hH ?_
        try simp only [pS]
        refine aT (i := 5) (oi := { dst := some 32, op := Op.indexAddr 31 (Operand.tmp 30) (Operand.tmp 31), type := 0, pos := "law.go:17", after := #[{ on := 3, ground := Ground.data }, { on := 4, ground := Ground.data }], guard := none }) (v := .pointer (some ⟨pb, po + i * 15, none⟩)) (fun w' hw => exec_ixA 31 15 Try.und33e Try.size33e _ _ rfl pb po h.r.l h.r.k i (Eq.trans (b := h.r.v) (by kernel_rfl) hsl) (by kernel_rfl) hn2) hH ?_
        try simp only [pS]
        refine aT (i := 6) (oi := { dst := some 33, op := Op.fieldAddr 73 (Operand.tmp 32) 0, type := 0, pos := "law.go:17", after := #[{ on := 5, ground := Ground.data }], guard := none }) (v := .pointer (some ⟨pb, po + i * 15, none⟩)) (fun _ _ => by kernel_rfl) hH ?_
        try simp only [pS]
        refine aT (i := 7) (oi := { dst := some 34, op := Op.load 3 (Operand.tmp 33), type := 3, pos := "law.go:17", after := #[{ on := 6, ground := Ground.data }], guard := none }) (v := .int .i64 x.n) (fun w' hw => eL 3 _ rfl ⟨pb, po + i * 15, none⟩ (load_one (hw.kept.cell (c0.out) (fun e => e)) Try.und3 rfl)) hH ?_
        try simp only [pS]
        refine aT (i := 8) (oi := { dst := some 35, op := Op.fieldAddr 33 (Operand.tmp 1) 2, type := 0, pos := "law.go:17", after := #[], guard := none }) (v := .pointer (some ⟨gk1, 6, none⟩)) (fun _ _ => by kernel_rfl) hH ?_
        try simp only [pS]
        refine aT (i := 9) (oi := { dst := some 36, op := Op.load 31 (Operand.tmp 35), type := 31, pos := "law.go:17", after := #[{ on := 8, ground := Ground.data }], guard := none }) (v := h.r.v) (fun w' hw => eL 31 _ rfl ⟨gk1, 6, none⟩ (load_one ((hw.box 0 _ _ _ rfl).cell 6 |>.trans (by kernel_rfl)) Try.und33 rfl)) hH ?_
        try simp only [pS]
        refine aT (i := 10) (oi := { dst := some 37, op := Op.move (Operand.tmp 4), type := 3, pos := "law.go:17", after := #[], guard := none }) (v := .int .i64 ((i : Nat) : Int)) (fun _ _ => by kernel_rfl) hH ?_
        try simp only [pS]
        refine aT (i := 11) (oi := { dst := some 38, op := Op.indexAddr 31 (Operand.tmp 36) (Operand.tmp 37), type := 0, pos := "law.go:17", after := #[{ on := 9, ground := Ground.data }, { on := 10, ground := Ground.data }], guard := none }) (v := .pointer (some ⟨pb, po + i * 15, none⟩)) (fun w' hw => exec_ixA 31 15 Try.und33e Try.size33e _ _ rfl pb po h.r.l h.r.k i (Eq.trans (b := h.r.v) (by kernel_rfl) hsl) (by kernel_rfl) hn2) hH ?_
        try simp only [pS]
        refine aT (i := 12) (oi := { dst := some 39, op := Op.fieldAddr 73 (Operand.tmp 38) 1, type := 0, pos := "law.go:17", after := #[{ on := 11, ground := Ground.data }], guard := none }) (v := .pointer (some ⟨pb, po + i * 15 + 1, none⟩)) (fun _ _ => by kernel_rfl) hH ?_
        try simp only [pS]
        refine aT (i := 13) (oi := { dst := some 40, op := Op.load 65 (Operand.tmp 39), type := 65, pos := "law.go:17", after := #[{ on := 12, ground := Ground.data }], guard := none }) (v := .agg (In.cells x.i)) (fun w' hw => eL 65 _ rfl ⟨pb, po + i * 15 + 1, none⟩ (load_cells (it := In.cs x.i) (fun j v hv => hw.kept.cell (ci.out j v hv) (fun e => e)) Try.und70 rfl Try.size70)) hH ?_
        try simp only [pS]
        refine aT (i := 14) (oi := { dst := some 41, op := Op.build 70 #[(0, Operand.tmp 34), (1, Operand.tmp 40)], type := 70, pos := "law.go:17", after := #[{ on := 7, ground := Ground.data }, { on := 13, ground := Ground.data }], guard := none }) (v := .agg (Pl.cells ⟨x.n, x.i⟩)) (fun w' hw => exec_build 70 _ rfl (Pl.cells ⟨x.n, x.i⟩) (by kernel_rfl)) hH ?_
        try simp only [pS]
        refine aT (i := 15) (oi := { dst := some 42, op := Op.indexAddr 47 (Operand.tmp 27) (Operand.tmp 28), type := 0, pos := "law.go:17", after := #[{ on := 0, ground := Ground.data }, { on := 1, ground := Ground.data }, { on := 0, ground := Ground.phase }, { on := 1, ground := Ground.phase }, { on := 2, ground := Ground.phase }, { on := 3, ground := Ground.phase }, { on := 4, ground := Ground.phase }, { on := 5, ground := Ground.phase }, { on := 6, ground := Ground.phase }, { on := 7, ground := Ground.phase }, { on := 8, ground := Ground.phase }, { on := 9, ground := Ground.phase }, { on := 10, ground := Ground.phase }, { on := 11, ground := Ground.phase }, { on := 12, ground := Ground.phase }, { on := 13, ground := Ground.phase }, { on := 14, ground := Ground.phase }], guard := none }) (v := .pointer (some ⟨gk5, 0 + i * 15, none⟩)) (fun w' hw => exec_ixA 47 15 Try.und38e Try.size38e _ _ rfl gk5 0 (h.r.l + 67) (h.r.l + 67) i (by kernel_rfl) (by kernel_rfl) (by omega)) hH ?_
        try simp only [pS]
        refine any_store (i := 16) (o := { dst := none, op := Op.store 70 (Operand.tmp 42) (Operand.tmp 41), type := 0, pos := "law.go:17", after := #[{ on := 15, ground := Ground.data }, { on := 14, ground := Ground.data }, { on := 0, ground := Ground.phase }, { on := 1, ground := Ground.phase }, { on := 2, ground := Ground.phase }, { on := 3, ground := Ground.phase }, { on := 4, ground := Ground.phase }, { on := 5, ground := Ground.phase }, { on := 6, ground := Ground.phase }, { on := 7, ground := Ground.phase }, { on := 8, ground := Ground.phase }, { on := 9, ground := Ground.phase }, { on := 10, ground := Ground.phase }, { on := 11, ground := Ground.phase }, { on := 12, ground := Ground.phase }, { on := 13, ground := Ground.phase }, { on := 14, ground := Ground.phase }], guard := none }) (w' := wk8.setRow gk5 ((plL (tab (h.r.l + 67) (upt (lntP h.r.l ps) plZ (i + 1)))).toArray)) rfl (by kernel_rfl) (by kernel_rfl) 70 _ _ rfl ⟨gk5, 0 + i * 15, none⟩ (.agg (Pl.cells ⟨x.n, x.i⟩)) (by kernel_rfl) (by kernel_rfl) ((st_P ⟨x.n, x.i⟩ (HF.out.box 2 _ _ _ rfl) (by rw [List.length_set, tab_len]; omega)).trans (by rw [List.set_set, upt_set (f := lntP h.r.l ps) (by omega) ((lnt_lt hn2).trans hx2)])) (Fr.front (l := [(gk1, 33, Hd.cells h), (gk3, 49, Hd.cells hdZ)]) (m := [(gk5, 70, (plL (tab (h.r.l + 67) (upt (lntP h.r.l ps) plZ (i + 1)))).toArray)]) (HF.out.set 2 rfl _)) (fun hH => ?_)
        try simp only [pS]
        have HF : Hid (Fr No w _ [(gk1, 33, Hd.cells h), (gk3, 49, Hd.cells hdZ), (gk5, 70, (plL (tab (h.r.l + 67) (upt (lntP h.r.l ps) plZ (i + 1)))).toArray)]) := HF.out.set 2 rfl _
        generalize wk8.setRow gk5 ((plL (tab (h.r.l + 67) (upt (lntP h.r.l ps) plZ (i + 1)))).toArray) = wk9 at HF hH ⊢
        refine wpAnyH_done (by kernel_rfl) ?_ _
        try simp only [pS]
        clear hH
        go_upto_region 4 with fail
        refine WL.start ?_
        refine tK (.int .i64 ((i : Nat) : Int)) ?_
        refine tW (.int .i64 (((i + 1) : Nat) : Int)) (eB .add 3 _ _ _ rfl (.int .i64 ((i : Nat) : Int)) (.int .i64 1) _ (b_addw _ _ _ (by rw [IntKind.wrap_i64]; omega) _)) ?_
        refine tK (.int .i64 (((i + 1) : Nat) : Int)) ?_
        try simp only [pS]
        refine WL.nil ?_
        try simp only [pS]
        go_wp2
        go_roundw
        case rel => exact ⟨i + 1, by go_num, by omega, HF⟩
        case measure => simp [intOf]; omega
      · skip
        go_upto_region 3 with fail
        refine WL.start ?_
        refine tK (.int .i64 ((i : Nat) : Int)) ?_
        refine tK (.slice (some ⟨gk5, 0, none⟩) (h.r.l + 67) (h.r.l + 67)) ?_
        refine tK (.int .i64 (((h.r.l + 67) : Nat) : Int)) ?_
        refine tW (.bool true) (eB .lss 3 _ _ _ rfl (.int .i64 ((i : Nat) : Int)) (.int .i64 (((h.r.l + 67) : Nat) : Int)) _ (by rw [b_lss, decide_eq_true (by omega)])) ?_
        try simp only [pS]
        refine WL.nil ?_
        try simp only [pS]
        go_upto_region 5 with fail
        refine WL.start ?_
        refine tK (.slice (some ⟨gk5, 0, none⟩) (h.r.l + 67) (h.r.l + 67)) ?_
        refine tK (.int .i64 ((i : Nat) : Int)) ?_
        refine tK (.int .i64 ((i : Nat) : Int)) ?_
        refine tW (.int .i64 (-((i : Nat) : Int))) (eB .sub 3 _ _ _ rfl (.int .i64 0) (.int .i64 ((i : Nat) : Int)) _ (b_subw _ _ _ (by rw [IntKind.wrap_i64]; omega) _)) ?_
        refine tW (.agg (Pl.cells ⟨(-((i : Nat) : Int)), inZ⟩)) (exec_build 70 _ rfl (Pl.cells ⟨(-((i : Nat) : Int)), inZ⟩) (by kernel_rfl)) ?_
        refine tW (.pointer (some ⟨gk5, 0 + i * 15, none⟩)) (exec_ixA 47 15 Try.und38e Try.size38e _ _ rfl gk5 0 (h.r.l + 67) (h.r.l + 67) i (by kernel_rfl) (by kernel_rfl) (by omega)) ?_
        try simp only [pS]
        refine wp_storeW 70 _ _ rfl ⟨gk5, 0 + i * 15, none⟩ (.agg (Pl.cells ⟨(-((i : Nat) : Int)), inZ⟩)) (by kernel_rfl) (by kernel_rfl) (wr.setRow gk5 ((plL (tab (h.r.l + 67) (upt (lntP h.r.l ps) plZ (i + 1)))).toArray)) (lay_P _ (HF.out.box 2 _ _ _ rfl) (by omega) (lnt_ge (by omega))) (by kernel_rfl) ?_
        try simp only [pS]
        have HF : Hid (Fr No w _ [(gk1, 33, Hd.cells h), (gk3, 49, Hd.cells hdZ), (gk5, 70, (plL (tab (h.r.l + 67) (upt (lntP h.r.l ps) plZ (i + 1)))).toArray)]) := HF.out.set 2 rfl _
        generalize wr.setRow gk5 ((plL (tab (h.r.l + 67) (upt (lntP h.r.l ps) plZ (i + 1)))).toArray) = wk10 at HF ⊢
        refine WL.nil ?_
        try simp only [pS]
        go_upto_region 6 with fail
        refine WL.start ?_
        refine tK (.int .i64 ((i : Nat) : Int)) ?_
        refine tK (.pointer (some ⟨gk1, 6, none⟩)) ?_
        refine tW (h.r.v) (eL 31 _ rfl ⟨gk1, 6, none⟩ (load_one ((HF.out.box 0 _ _ _ rfl).cell 6 |>.trans (by kernel_rfl)) Try.und33 rfl)) ?_
        refine tK (.int .i64 ((h.r.l : Nat) : Int)) ?_
        refine tW (.bool false) (eB .lss 3 _ _ _ rfl (.int .i64 ((i : Nat) : Int)) (.int .i64 ((h.r.l : Nat) : Int)) _ (by rw [b_lss, decide_eq_false (by omega)])) ?_
        try simp only [pS]
        refine WL.nil ?_
        try simp only [pS]
        go_upto_region 4 with fail
        refine WL.start ?_
        refine tK (.int .i64 ((i : Nat) : Int)) ?_
        refine tW (.int .i64 (((i + 1) : Nat) : Int)) (eB .add 3 _ _ _ rfl (.int .i64 ((i : Nat) : Int)) (.int .i64 1) _ (b_addw _ _ _ (by rw [IntKind.wrap_i64]; omega) _)) ?_
        refine tK (.int .i64 (((i + 1) : Nat) : Int)) ?_
        try simp only [pS]
        refine WL.nil ?_
        try simp only [pS]
        go_wp2
        go_roundw
        case rel => exact ⟨i + 1, by go_num, by omega, HF⟩
        case measure => simp [intOf]; omega
    · skip
      have he : i = h.r.l + 67 := by omega
      subst he
      go_upto_region 3 with fail
      refine WL.start ?_
      refine tK (.int .i64 (((h.r.l + 67) : Nat) : Int)) ?_
      refine tK (.slice (some ⟨gk5, 0, none⟩) (h.r.l + 67) (h.r.l + 67)) ?_
      refine tK (.int .i64 (((h.r.l + 67) : Nat) : Int)) ?_
      refine tW (.bool false) (eB .lss 3 _ _ _ rfl (.int .i64 (((h.r.l + 67) : Nat) : Int)) (.int .i64 (((h.r.l + 67) : Nat) : Int)) _ (by rw [b_lss, decide_eq_false (by omega)])) ?_
      try simp only [pS]
      refine WL.nil ?_
      try simp only [pS]
      go_upto_region 8 with fail
      refine wp_region_held_drew (S := fun w' => Fr No w w' [(gk1, 33, Hd.cells h)]) rfl (Fr.front (l := [(gk1, 33, Hd.cells h)]) (m := [(gk3, 49, Hd.cells hdZ), (gk5, 70, (plL (tab (h.r.l + 67) (upt (lntP h.r.l ps) plZ (h.r.l + 67)))).toArray)]) (HF.out.drew)) (fun hH => ?_)
      have HF : Hid (Fr No w (wr.drew) [(gk1, 33, Hd.cells h), (gk3, 49, Hd.cells hdZ), (gk5, 70, (plL (tab (h.r.l + 67) (upt (lntP h.r.l ps) plZ (h.r.l + 67)))).toArray)]) := HF.out.drew
      generalize wr.drew = wk11 at HF hH ⊢
      refine aT (i := 0) (oi := { dst := some 43, op := Op.fieldAddr 33 (Operand.tmp 1) 0, type := 0, pos := "law.go:20", after := #[], guard := none }) (v := .pointer (some ⟨gk1, 0, none⟩)) (fun _ _ => by kernel_rfl) hH ?_
      try simp only [pS]
      refine aT (i := 1) (oi := { dst := some 44, op := Op.fieldAddr 26 (Operand.tmp 43) 0, type := 0, pos := "law.go:20", after := #[{ on := 0, ground := Ground.data }], guard := none }) (v := .pointer (some ⟨gk1, 0, none⟩)) (fun _ _ => by kernel_rfl) hH ?_
      try simp only [pS]
      refine aT (i := 2) (oi := { dst := some 45, op := Op.load 23 (Operand.tmp 44), type := 23, pos := "law.go:20", after := #[{ on := 1, ground := Ground.data }], guard := none }) (v := .agg (Sp.cells h.b.s)) (fun w' hw => eL 23 _ rfl ⟨gk1, 0, none⟩ (run_load_part (cs := Hd.cs h) (sub := Sp.cs h.b.s) (hw.box 0 _ _ _ rfl) (part_of (by kernel_rfl)) Try.und25 rfl Try.size25)) hH ?_
      try simp only [pS]
      refine aT (i := 3) (oi := { dst := some 46, op := Op.fieldAddr 33 (Operand.tmp 1) 0, type := 0, pos := "law.go:20", after := #[], guard := none }) (v := .pointer (some ⟨gk1, 0, none⟩)) (fun _ _ => by kernel_rfl) hH ?_
      try simp only [pS]
      refine aT (i := 4) (oi := { dst := some 47, op := Op.fieldAddr 26 (Operand.tmp 46) 1, type := 0, pos := "law.go:20", after := #[{ on := 3, ground := Ground.data }], guard := none }) (v := .pointer (some ⟨gk1, 2, none⟩)) (fun _ _ => by kernel_rfl) hH ?_
      try simp only [pS]
      refine aT (i := 5) (oi := { dst := some 48, op := Op.load 24 (Operand.tmp 47), type := 24, pos := "law.go:20", after := #[{ on := 4, ground := Ground.data }], guard := none }) (v := h.b.d.v) (fun w' hw => eL 24 _ rfl ⟨gk1, 2, none⟩ (load_one ((hw.box 0 _ _ _ rfl).cell 2 |>.trans (by kernel_rfl)) Try.und26 rfl)) hH ?_
      try simp only [pS]
      refine aT (i := 8) (oi := { dst := some 51, op := Op.fieldAddr 33 (Operand.tmp 1) 1, type := 0, pos := "law.go:20", after := #[], guard := none }) (v := .pointer (some ⟨gk1, 3, none⟩)) (fun _ _ => by kernel_rfl) hH ?_
      try simp only [pS]
      refine aT (i := 9) (oi := { dst := some 52, op := Op.load 30 (Operand.tmp 51), type := 30, pos := "law.go:20", after := #[{ on := 8, ground := Ground.data }], guard := none }) (v := .agg (Bv.cells h.k)) (fun w' hw => eL 30 _ rfl ⟨gk1, 3, none⟩ (run_load_part (cs := Hd.cs h) (sub := Bv.cs h.k) (hw.box 0 _ _ _ rfl) (part_of (by kernel_rfl)) Try.und32 rfl Try.size32)) hH ?_
      try simp only [pS]
      refine aT (i := 11) (oi := { dst := some 54, op := Op.move (Operand.tmp 3), type := 47, pos := "law.go:20", after := #[], guard := none }) (v := .slice (some ⟨gk5, 0, none⟩) (h.r.l + 67) (h.r.l + 67)) (fun _ _ => by kernel_rfl) hH ?_
      try simp only [pS]
      refine aT (i := 12) (oi := { dst := some 55, op := Op.fieldAddr 33 (Operand.tmp 1) 2, type := 0, pos := "law.go:20", after := #[], guard := none }) (v := .pointer (some ⟨gk1, 6, none⟩)) (fun _ _ => by kernel_rfl) hH ?_
      try simp only [pS]
      refine aT (i := 13) (oi := { dst := some 56, op := Op.load 31 (Operand.tmp 55), type := 31, pos := "law.go:20", after := #[{ on := 12, ground := Ground.data }], guard := none }) (v := h.r.v) (fun w' hw => eL 31 _ rfl ⟨gk1, 6, none⟩ (load_one ((hw.box 0 _ _ _ rfl).cell 6 |>.trans (by kernel_rfl)) Try.und33 rfl)) hH ?_
      try simp only [pS]
      refine aT (i := 14) (oi := { dst := some 57, op := Op.call { callee := Callee.builtin Builtin.len, args := #[Operand.tmp 56], argTypes := #[31] }, type := 3, pos := "law.go:20", after := #[{ on := 13, ground := Ground.data }], guard := none }) (v := .int .i64 ((h.r.l : Nat) : Int)) (fun _ _ => by kernel_rfl) hH ?_
      try simp only [pS]
      refine aT (i := 15) (oi := { dst := some 58, op := Op.slice 47 (Operand.tmp 54) none (some (Operand.tmp 57)) none, type := 47, pos := "law.go:20", after := #[{ on := 11, ground := Ground.data }, { on := 14, ground := Ground.data }], guard := none }) (v := .slice (some ⟨gk5, 0, none⟩) h.r.l (h.r.l + 67)) (fun w' hw => (exec_slH 47 _ _ rfl 15 Try.und38e Try.size38e (some ⟨gk5, 0, none⟩) (h.r.l + 67) (h.r.l + 67) h.r.l (by kernel_rfl) (by kernel_rfl) (by omega)).trans (by rw [sliced0 _ _ _ _ (by omega)])) hH ?_
      try simp only [pS]
      refine any_call (i := 6) (o := { dst := some 49, op := Op.call { callee := Callee.value (Operand.func 18), args := #[Operand.tmp 48], argTypes := #[24] }, type := 24, pos := "law.go:20", after := #[{ on := 5, ground := Ground.data }], guard := none }) rfl (by kernel_rfl) (by kernel_rfl) 18 #[h.b.d.v] (by kernel_rfl) _ (lendB_any h.b.d bs _ (HH.out.b.no HF.out.kept) HH.out.nb) ?_
      rintro e wk12 ⟨gb, rfl, hgb, hbb, hk⟩
      have hH2 : Fr No w wk12 [(gk1, 33, Hd.cells h)] := hH.no hk
      have HF : Hid (Fr No w (wk12) [(gk1, 33, Hd.cells h), (gk3, 49, Hd.cells hdZ), (gk5, 70, (plL (tab (h.r.l + 67) (upt (lntP h.r.l ps) plZ (h.r.l + 67)))).toArray), (gb, 5, (u8L (tab (h.b.d.l + 67) (lntB h.b.d.l bs))).toArray)]) := HF.out.add hk hgb hbb
      clear hk hgb hbb
      refine ⟨.slice (some ⟨gb, 0, none⟩) h.b.d.l (h.b.d.l + 67), rfl, hH2, fun hH => ?_⟩
      clear hH2
      try simp only [pS]
      refine aT (i := 7) (oi := { dst := some 50, op := Op.build 26 #[(0, Operand.tmp 45), (1, Operand.tmp 49)], type := 26, pos := "law.go:20", after := #[{ on := 2, ground := Ground.data }, { on := 6, ground := Ground.data }], guard := none }) (v := .agg (Bl.cells ⟨h.b.s, ⟨(some ⟨gb, 0, none⟩), h.b.d.l, (h.b.d.l + 67)⟩⟩)) (fun w' hw => exec_build 26 _ rfl (Bl.cells ⟨h.b.s, ⟨(some ⟨gb, 0, none⟩), h.b.d.l, (h.b.d.l + 67)⟩⟩) (by kernel_rfl)) hH ?_
      try simp only [pS]
      refine any_call (i := 10) (o := { dst := some 53, op := Op.call { callee := Callee.value (Operand.func 19), args := #[Operand.tmp 52], argTypes := #[30] }, type := 30, pos := "law.go:20", after := #[{ on := 9, ground := Ground.data }, { on := 6, ground := Ground.chain }], guard := none }) rfl (by kernel_rfl) (by kernel_rfl) 19 #[.agg (Bv.cells h.k)] (by kernel_rfl) _ (lendK_any h.k es ls _ (HH.out.e.no HF.out.kept) (HH.out.l.no HF.out.kept) HH.out.ne HH.out.nl) ?_
      rintro e wk13 ⟨ge, gl, rfl, hge, hgl, hbe, hbl, hk⟩
      have hH2 : Fr No w wk13 [(gk1, 33, Hd.cells h)] := hH.no hk
      have HF : Hid (Fr No w (wk13) [(gk1, 33, Hd.cells h), (gk3, 49, Hd.cells hdZ), (gk5, 70, (plL (tab (h.r.l + 67) (upt (lntP h.r.l ps) plZ (h.r.l + 67)))).toArray), (gb, 5, (u8L (tab (h.b.d.l + 67) (lntB h.b.d.l bs))).toArray), (ge, 91, (enL (tab (h.k.e.l + 67) (lntE h.k.e.l es))).toArray), (gl, 94, (laL (tab (h.k.l.l + 67) (lntL h.k.l.l ls))).toArray)]) := HF.out.add2 hk hge hbe hgl hbl (by decide)
      clear hk hge hgl hbe hbl
      refine ⟨.agg (Bv.cells ⟨h.k.up, ⟨(some ⟨ge, 0, none⟩), h.k.e.l, (h.k.e.l + 67)⟩, ⟨(some ⟨gl, 0, none⟩), h.k.l.l, (h.k.l.l + 67)⟩⟩), rfl, hH2, fun hH => ?_⟩
      clear hH2
      try simp only [pS]
      refine aT (i := 16) (oi := { dst := some 59, op := Op.build 49 #[(0, Operand.tmp 50), (1, Operand.tmp 53), (2, Operand.tmp 58)], type := 49, pos := "law.go:20", after := #[{ on := 7, ground := Ground.data }, { on := 10, ground := Ground.data }, { on := 15, ground := Ground.data }], guard := none }) (v := .agg (Hd.cells ⟨⟨h.b.s, ⟨(some ⟨gb, 0, none⟩), h.b.d.l, (h.b.d.l + 67)⟩⟩, ⟨h.k.up, ⟨(some ⟨ge, 0, none⟩), h.k.e.l, (h.k.e.l + 67)⟩, ⟨(some ⟨gl, 0, none⟩), h.k.l.l, (h.k.l.l + 67)⟩⟩, ⟨(some ⟨gk5, 0, none⟩), h.r.l, (h.r.l + 67)⟩⟩)) (fun w' hw => exec_build 49 _ rfl (Hd.cells ⟨⟨h.b.s, ⟨(some ⟨gb, 0, none⟩), h.b.d.l, (h.b.d.l + 67)⟩⟩, ⟨h.k.up, ⟨(some ⟨ge, 0, none⟩), h.k.e.l, (h.k.e.l + 67)⟩, ⟨(some ⟨gl, 0, none⟩), h.k.l.l, (h.k.l.l + 67)⟩⟩, ⟨(some ⟨gk5, 0, none⟩), h.r.l, (h.r.l + 67)⟩⟩) (by kernel_rfl)) hH ?_
      try simp only [pS]
      refine any_store (i := 17) (o := { dst := none, op := Op.store 49 (Operand.tmp 2) (Operand.tmp 59), type := 0, pos := "law.go:20", after := #[{ on := 16, ground := Ground.data }, { on := 10, ground := Ground.chain }, { on := 0, ground := Ground.phase }, { on := 1, ground := Ground.phase }, { on := 2, ground := Ground.phase }, { on := 3, ground := Ground.phase }, { on := 4, ground := Ground.phase }, { on := 5, ground := Ground.phase }, { on := 6, ground := Ground.phase }, { on := 7, ground := Ground.phase }, { on := 8, ground := Ground.phase }, { on := 9, ground := Ground.phase }, { on := 10, ground := Ground.phase }, { on := 11, ground := Ground.phase }, { on := 12, ground := Ground.phase }, { on := 13, ground := Ground.phase }, { on := 14, ground := Ground.phase }, { on := 15, ground := Ground.phase }, { on := 16, ground := Ground.phase }], guard := none }) (w' := wk13.setRow gk3 (Hd.cells ⟨⟨h.b.s, ⟨(some ⟨gb, 0, none⟩), h.b.d.l, (h.b.d.l + 67)⟩⟩, ⟨h.k.up, ⟨(some ⟨ge, 0, none⟩), h.k.e.l, (h.k.e.l + 67)⟩, ⟨(some ⟨gl, 0, none⟩), h.k.l.l, (h.k.l.l + 67)⟩⟩, ⟨(some ⟨gk5, 0, none⟩), h.r.l, (h.r.l + 67)⟩⟩)) rfl (by kernel_rfl) (by kernel_rfl) 49 _ _ rfl ⟨gk3, 0, none⟩ (.agg (Hd.cells ⟨⟨h.b.s, ⟨(some ⟨gb, 0, none⟩), h.b.d.l, (h.b.d.l + 67)⟩⟩, ⟨h.k.up, ⟨(some ⟨ge, 0, none⟩), h.k.e.l, (h.k.e.l + 67)⟩, ⟨(some ⟨gl, 0, none⟩), h.k.l.l, (h.k.l.l + 67)⟩⟩, ⟨(some ⟨gk5, 0, none⟩), h.r.l, (h.r.l + 67)⟩⟩)) (by kernel_rfl) (by kernel_rfl) (run_store_to (cur := Hd.cs hdZ) (vs := Hd.cs ⟨⟨h.b.s, ⟨(some ⟨gb, 0, none⟩), h.b.d.l, (h.b.d.l + 67)⟩⟩, ⟨h.k.up, ⟨(some ⟨ge, 0, none⟩), h.k.e.l, (h.k.e.l + 67)⟩, ⟨(some ⟨gl, 0, none⟩), h.k.l.l, (h.k.l.l + 67)⟩⟩, ⟨(some ⟨gk5, 0, none⟩), h.r.l, (h.r.l + 67)⟩⟩) (new := Hd.cs ⟨⟨h.b.s, ⟨(some ⟨gb, 0, none⟩), h.b.d.l, (h.b.d.l + 67)⟩⟩, ⟨h.k.up, ⟨(some ⟨ge, 0, none⟩), h.k.e.l, (h.k.e.l + 67)⟩, ⟨(some ⟨gl, 0, none⟩), h.k.l.l, (h.k.l.l + 67)⟩⟩, ⟨(some ⟨gk5, 0, none⟩), h.r.l, (h.r.l + 67)⟩⟩) (HF.out.box 1 _ _ _ rfl) (by kernel_rfl) Try.size40 (Nat.le_of_ble_eq_true (by kernel_rfl)) (Hd.oneL _) (by kernel_rfl)) (Fr.front (l := [(gk1, 33, Hd.cells h)]) (m := [(gk3, 49, Hd.cells ⟨⟨h.b.s, ⟨(some ⟨gb, 0, none⟩), h.b.d.l, (h.b.d.l + 67)⟩⟩, ⟨h.k.up, ⟨(some ⟨ge, 0, none⟩), h.k.e.l, (h.k.e.l + 67)⟩, ⟨(some ⟨gl, 0, none⟩), h.k.l.l, (h.k.l.l + 67)⟩⟩, ⟨(some ⟨gk5, 0, none⟩), h.r.l, (h.r.l + 67)⟩⟩), (gk5, 70, (plL (tab (h.r.l + 67) (upt (lntP h.r.l ps) plZ (h.r.l + 67)))).toArray), (gb, 5, (u8L (tab (h.b.d.l + 67) (lntB h.b.d.l bs))).toArray), (ge, 91, (enL (tab (h.k.e.l + 67) (lntE h.k.e.l es))).toArray), (gl, 94, (laL (tab (h.k.l.l + 67) (lntL h.k.l.l ls))).toArray)]) (HF.out.set 1 rfl _)) (fun hH => ?_)
      try simp only [pS]
      have HF : Hid (Fr No w _ [(gk1, 33, Hd.cells h), (gk3, 49, Hd.cells ⟨⟨h.b.s, ⟨(some ⟨gb, 0, none⟩), h.b.d.l, (h.b.d.l + 67)⟩⟩, ⟨h.k.up, ⟨(some ⟨ge, 0, none⟩), h.k.e.l, (h.k.e.l + 67)⟩, ⟨(some ⟨gl, 0, none⟩), h.k.l.l, (h.k.l.l + 67)⟩⟩, ⟨(some ⟨gk5, 0, none⟩), h.r.l, (h.r.l + 67)⟩⟩), (gk5, 70, (plL (tab (h.r.l + 67) (upt (lntP h.r.l ps) plZ (h.r.l + 67)))).toArray), (gb, 5, (u8L (tab (h.b.d.l + 67) (lntB h.b.d.l bs))).toArray), (ge, 91, (enL (tab (h.k.e.l + 67) (lntE h.k.e.l es))).toArray), (gl, 94, (laL (tab (h.k.l.l + 67) (lntL h.k.l.l ls))).toArray)]) := HF.out.set 1 rfl _
      generalize wk13.setRow gk3 (Hd.cells ⟨⟨h.b.s, ⟨(some ⟨gb, 0, none⟩), h.b.d.l, (h.b.d.l + 67)⟩⟩, ⟨h.k.up, ⟨(some ⟨ge, 0, none⟩), h.k.e.l, (h.k.e.l + 67)⟩, ⟨(some ⟨gl, 0, none⟩), h.k.l.l, (h.k.l.l + 67)⟩⟩, ⟨(some ⟨gk5, 0, none⟩), h.r.l, (h.r.l + 67)⟩⟩) = wk14 at HF hH ⊢
      refine wpAnyH_done (by kernel_rfl) ?_ _
      try simp only [pS]
      clear hH
      go_wp2
      rw [HC.out]
      refine bodyPost_ret (results_row1 (by rfl) _ _ gk3 (Hd.cells ⟨⟨h.b.s, ⟨(some ⟨gb, 0, none⟩), h.b.d.l, (h.b.d.l + 67)⟩⟩, ⟨h.k.up, ⟨(some ⟨ge, 0, none⟩), h.k.e.l, (h.k.e.l + 67)⟩, ⟨(some ⟨gl, 0, none⟩), h.k.l.l, (h.k.l.l + 67)⟩⟩, ⟨(some ⟨gk5, 0, none⟩), h.r.l, (h.r.l + 67)⟩⟩) (by rfl) (run_load_part (cs := Hd.cs ⟨⟨h.b.s, ⟨(some ⟨gb, 0, none⟩), h.b.d.l, (h.b.d.l + 67)⟩⟩, ⟨h.k.up, ⟨(some ⟨ge, 0, none⟩), h.k.e.l, (h.k.e.l + 67)⟩, ⟨(some ⟨gl, 0, none⟩), h.k.l.l, (h.k.l.l + 67)⟩⟩, ⟨(some ⟨gk5, 0, none⟩), h.r.l, (h.r.l + 67)⟩⟩) (sub := Hd.cs ⟨⟨h.b.s, ⟨(some ⟨gb, 0, none⟩), h.b.d.l, (h.b.d.l + 67)⟩⟩, ⟨h.k.up, ⟨(some ⟨ge, 0, none⟩), h.k.e.l, (h.k.e.l + 67)⟩, ⟨(some ⟨gl, 0, none⟩), h.k.l.l, (h.k.l.l + 67)⟩⟩, ⟨(some ⟨gk5, 0, none⟩), h.r.l, (h.r.l + 67)⟩⟩) (HF.out.box 1 _ _ _ rfl) (Part.all _) Try.und40 rfl Try.size40)) rfl ?_
      exact ⟨gb, ge, gl, gk5, rfl, ⟨HF.out.box 3 _ _ _ rfl, HF.out.box 4 _ _ _ rfl, HF.out.box 5 _ _ _ rfl, by have h := HF.out.box 2 _ _ _ rfl; rw [upt_all] at h; exact h, HF.out.low 3 _ _ _ rfl, HF.out.low 4 _ _ _ rfl, HF.out.low 5 _ _ _ rfl, HF.out.low 2 _ _ _ rfl⟩, HF.out.kept⟩

end Go.Proofs.Ytcgnbpaaalmkoab
