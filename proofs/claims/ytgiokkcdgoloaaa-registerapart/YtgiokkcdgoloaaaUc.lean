import Derived.Test.YtgiokkcdgoloaaaUb
namespace Go.Proofs.Ytgiokkcdgoloaaa.Md
open Go.RowKit
set_option linter.unusedVariables false
set_option linter.unusedSimpArgs false

structure MgOk (w0 w : World) (d : Mg) (zs : List Int) (es : List En) (ls : List La) (cs : List Cm) : Prop where
  inn : MgIn w d zs es ls cs
  off : zs ≠ [] → ∀ k, At d.bl.a k → k < w0.heap.size
  offE : es ≠ [] → ∀ k, At d.bk.e.a k → k < w0.heap.size
  offL : ls ≠ [] → ∀ k, At d.bk.l.a k → k < w0.heap.size
  offC : cs ≠ [] → ∀ k, At d.cm.a k → k < w0.heap.size
  h63 : -9223372036854775808 ≤ d.st.n
section
variable {w0 w w' : World} {d d' : Mg} {zs : List Int} {es : List En} {ls : List La} {cs : List Cm} {S : Nat → Prop} {base gb : Nat} {E L C : Sl}
theorem MgOk.near (h : MgOk w0 w d zs es ls cs) (hN : NearM d d') : MgOk w0 w d' zs es ls cs := by
  obtain ⟨fr, too, op, rd, ky, rfl⟩ := hN
  exact ⟨⟨h.inn.b, h.inn.e, h.inn.l, h.inn.c, h.inn.nb, h.inn.ne, h.inn.nl, h.inn.nc⟩, h.off, h.offE, h.offL, h.offC, h.h63⟩
theorem MgOk.kept (h : MgOk w0 w d zs es ls cs) (hk : Kept S w w') (hS : ∀ k, k < w0.heap.size → ¬ S k) : MgOk w0 w' d zs es ls cs :=
  ⟨⟨h.inn.b.kept0 hk (fun hne k e => hS k (h.off hne k e)), ⟨RowsAt.kept0 h.inn.e.row hk (fun hne k e => hS k (h.offE (by rintro rfl; simp at hne) k e)), h.inn.e.len, h.inn.e.cap⟩, ⟨RowsAt.kept0 h.inn.l.row hk (fun hne k e => hS k (h.offL (by rintro rfl; simp at hne) k e)), h.inn.l.len, h.inn.l.cap⟩, ⟨RowsAt.kept0 h.inn.c.row hk (fun hne k e => hS k (h.offC (by rintro rfl; simp at hne) k e)), h.inn.c.len, h.inn.c.cap⟩, h.inn.nb, h.inn.ne, h.inn.nl, h.inn.nc⟩, h.off, h.offE, h.offL, h.offC, h.h63⟩
theorem MgOk.no (h : MgOk w0 w d zs es ls cs) (hk : Kept No w w') : MgOk w0 w' d zs es ls cs := h.kept hk (fun _ _ e => e)
theorem Len.off (h : Len w base d zs es ls cs gb E L C) (hk : Kept S w w') (hS : ∀ k, LB gb E L C k → ¬ S k) : Len w' base d zs es ls cs gb E L C :=
  ⟨(hk.block gb (Array.getElem?_eq_some_iff.1 h.b).1 (hS gb (.inl rfl))).trans h.b, h.bb, h.e.kept hk (fun k e => hS k (.inr (.inl e))), h.l.kept hk (fun k e => hS k (.inr (.inr (.inl e)))), ⟨h.c.own.kept hk (fun k e => hS k (.inr (.inr (.inr e)))), h.c.len⟩⟩
theorem Len.lb (h : Len w base d zs es ls cs gb E L C) : ∀ k, LB gb E L C k → base ≤ k ∧ k < w.heap.size := by
  intro k e
  rcases e with rfl | e | e | e
  · exact ⟨h.bb, (Array.getElem?_eq_some_iff.1 h.b).1⟩
  · exact ⟨h.e.own.base e, h.e.own.lt e⟩
  · exact ⟨h.l.own.base e, h.l.own.lt e⟩
  · exact ⟨h.c.own.base e, h.c.own.lt e⟩
theorem lent_rd (h : Blk w gb (lent zs 5)) {n : Nat} (hn : zs.length = n) : RdB w ⟨some ⟨gb, 0, none⟩, n, n + 5⟩ zs :=
  ⟨by have := h.bytes0 zs.length; rw [lent_take] at this; exact this, hn, fun e => by cases e⟩
theorem takP_len (s : RM) (z : List Int) : takP s (lenM d gb E L C) z = takP s d z := rfl
end
def RelW (H : Nat → Prop) (w : World) (I J : Nat → Prop) (s : RM) (x : Rx) : Prop := Rel (Bw H w I J) s x
theorem RelW.no {w w' : World} {I J H : Nat → Prop} {s : RM} {x : Rx} (h : RelW H w I J s x) (hk : Kept No w w') : RelW H w' I J s x :=
  Rel.mono h (fun l z hb => hb.to hk (fun k _ l2 l3 => ⟨fun f => f, l2, l3⟩))
theorem RelW.wide {w : World} {I J H H' : Nat → Prop} {s : RM} {x : Rx} (h : RelW H w I J s x) (hH : ∀ k, k < w.heap.size → H k → H' k) : RelW H' w I J s x :=
  Rel.mono h (fun l z hb => ⟨hb.1, hb.2.1, fun hne k e => by have q := hb.2.2 hne k e; exact ⟨q.1, q.2.1, q.2.2.1, hH k q.1 q.2.2.2⟩⟩)
theorem RelW.off {w w' : World} {I J H S : Nat → Prop} {s : RM} {x : Rx} (h : RelW H w I J s x) (hk : Kept S w w') (hS : ∀ k, H k → ¬ S k) : RelW H w' I J s x :=
  Rel.mono h (fun l z hb => ⟨hb.1.kept0 hk (fun hne k e => hS k (hb.2.2 hne k e).2.2.2), hb.2.1, fun hne k e => by have q := hb.2.2 hne k e; have := hk.size; exact ⟨by omega, q.2.1, q.2.2.1, q.2.2.2⟩⟩)
theorem Bw.long {w w1 w2 w3 : World} {I I' J L H : Nat → Prop} {l : Sl} {z : List Int} (h : Bw H w I J l z) (hk1 : Kept No w w1) (hk2 : Kept I w1 w2) (hk3 : Kept L w2 w3) (hL : ∀ k, L k → w.heap.size ≤ k) (hI : ∀ k, I' k → I k ∨ w.heap.size ≤ k) : Bw H w3 I' J l z := by
  have s1 := hk1.size
  have s2 := hk2.size
  have s3 := hk3.size
  refine ⟨((h.1.no hk1).kept0 hk2 (fun hne k e => (h.2.2 hne k e).2.1)).kept0 hk3 (fun hne k e f => by have := (h.2.2 hne k e).1; have := hL k f; omega), h.2.1, fun hne k e => ⟨by have := (h.2.2 hne k e).1; omega, fun f => ?_, (h.2.2 hne k e).2.2⟩⟩
  rcases hI k f with f | f
  · exact (h.2.2 hne k e).2.1 f
  · have := (h.2.2 hne k e).1; omega
theorem Fq.lowNo {w W : World} {l : List (Nat × TypeId × Array Value)} (h : Fq No w W l) : ∀ x ∈ l, w.heap.size ≤ x.1 := fun x hx => by
  obtain ⟨i, hi⟩ := List.mem_iff_getElem?.1 hx
  exact (h.low i x.1 x.2.1 x.2.2 hi).elim (fun e => e) (fun e => e.elim)
theorem Fq.any' {S S' S'' : Nat → Prop} {w W W' : World} {l : List (Nat × TypeId × Array Value)} (h : Fq S w W l) (hk : Kept S' W W') (hl : ∀ x ∈ l, ¬ S' x.1) (h1 : ∀ k, S k → S'' k) (h2 : ∀ k, k < w.heap.size → S' k → S'' k) : Fq S'' w W' l :=
  ⟨h.kept.trans hk h1 h2, fun i g T cs hi => (h.box i g T cs hi).kept hk (hl _ (List.mem_of_getElem? hi)), fun i g T cs hi => (h.low i g T cs hi).imp id (h1 g), h.inj⟩
theorem Fq.lt {S : Nat → Prop} {w W : World} {l : List (Nat × TypeId × Array Value)} (h : Fq S w W l) : ∀ x ∈ l, x.1 < W.heap.size := fun x hx => by
  obtain ⟨i, hi⟩ := List.mem_iff_getElem?.1 hx
  exact (h.box i x.1 x.2.1 x.2.2 hi).lt
theorem prog_step {w0 w W W2 : World} {I H : Nat → Prop} {m r : Nat} {g : Sl} {LV : Option (Nat × Nat)} {s : RM} {x : Rx} {o : RM × To} {e : Ending} (h : Wq w0 w I m r g LV s x) (hr : Rel (Bw H w I (Jx r g LV)) s x) (hkW : Kept No w W) (ho : MOut W I m o e W2) :
    ∃ la n lc I', e = .returned (.slice la n lc) ∧ TlM W2 W.heap.size la n lc o ∧ Wq w0 W2 I' m r g LV o.1 x ∧ (∀ (L : Nat → Prop) (W3 : World), Kept L W2 W3 → (∀ k, L k → w.heap.size ≤ k) → Rel (Bw H W3 I' (Jx r g LV)) s x) ∧ Kept I W W2 ∧ (∀ k, I' k → I k ∨ W.heap.size ≤ k) := by
  obtain ⟨la, n, lc, I', he, hT, hW, hB, hk, hI⟩ := (h.no hkW).prog (H := H) ho
  have hs := hkW.size
  exact ⟨la, n, lc, I', he, hT, hW, fun L W3 h3 hL => hr.mono (fun l z hb => hb.long hkW hk h3 hL (fun k e => (hI k e).imp id (fun f => by omega))), hk, hI⟩
/-- What a step leaves. -/
def StpO (H : Nat → Prop) (w0 w : World) (I : Nat → Prop) (m r : Nat) (g : Sl) (LV : Option (Nat × Nat)) (e : Ending) (w' : World) : Prop :=
  ∃ I' LV' s x, e = .returned (.bool true) ∧ Wq w0 w' I' m r g LV' s x ∧ RelW H w' I' (Jx r g LV') s x ∧ Kept (fun k => I k ∨ Jx r g LV k) w w' ∧ ∀ k, I' k ∨ Jx r g LV' k → (I k ∨ Jx r g LV k) ∨ w.heap.size ≤ k
set_option maxRecDepth 100000 in
set_option maxHeartbeats 4000000 in
theorem step_any {H : Nat → Prop} (w0 : World) (I : Nat → Prop) (m r : Nat) (g : Sl) (LV : Option (Nat × Nat)) (s : RM) (x : Rx) (k : Int) (d : Mg) (zs : List Int) (es : List En) (ls : List La) (cs : List Cm) (w : World) (h : Wq w0 w I m r g LV s x) (hr : RelW H w I (Jx r g LV) s x) (hd : MgOk w0 w d zs es ls cs) (hH : ∀ k, k < w0.heap.size ∨ w.heap.size ≤ k → H k) : Calls Try.prog 12 #[.agg #[.iface 115 (.pointer (some ⟨m, 0, none⟩)), .pointer (some ⟨r, 0, none⟩)], .agg (Stp.cells ⟨k, d⟩)] w (StpO H w0 w I m r g LV) := by
  obtain ⟨C, hC⟩ : ∃ C : Ending → World → Prop, C = (StpO H w0 w I m r g LV) := ⟨_, rfl⟩
  have HC : Hid (C = (StpO H w0 w I m r g LV)) := hC
  rw [← hC]
  clear hC
  have HW : Hid (Wq w0 w I m r g LV s x) := h
  have HR : Hid (RelW H w I (Jx r g LV) s x) := hr
  have HD : Hid (MgOk w0 w d zs es ls cs) := hd
  obtain ⟨an, vv, hg⟩ := h.ref.gg
  have HG : Hid (RfG w r x g an vv) := hg
  have hIw : ∀ k, I k → k < w.heap.size := fun k e => (h.ia k e).2.1
  have hI0 : ∀ k, I k → w0.heap.size ≤ k := fun k e => (h.ia k e).1
  have hJw : ∀ k, Jx r g LV k → k < w.heap.size := fun k e => h.ref.lt e
  have h0w := h.kp.size
  clear h hr hd hg
  have HF : Hid (Fq No w w []) := Fq.start _ _
  go_enter Try.func12, Try.ntmps12
  go_upto_region 0 with fail
  refine WL.start ?_
  refine uR (.pointer (some ⟨w.heap.size, 0, none⟩)) (w.alloc (.cells (#[.iface 115 (.pointer (some ⟨m, 0, none⟩)), .pointer (some ⟨r, 0, none⟩)]) 34)) (exec_box 34 _ rfl (#[.iface 115 (.pointer (some ⟨m, 0, none⟩)), .pointer (some ⟨r, 0, none⟩)]) (by kernel_rfl)) ?_
  try simp only [pS]
  have HF : Hid (Fq No w (w.alloc (.cells (#[.iface 115 (.pointer (some ⟨m, 0, none⟩)), .pointer (some ⟨r, 0, none⟩)]) 34)) [(w.heap.size, 34, #[.iface 115 (.pointer (some ⟨m, 0, none⟩)), .pointer (some ⟨r, 0, none⟩)])]) := HF.out.alloc _ _
  generalize w.alloc (.cells (#[.iface 115 (.pointer (some ⟨m, 0, none⟩)), .pointer (some ⟨r, 0, none⟩)]) 34) = wk2 at HF ⊢
  generalize hzgk1 : w.heap.size = gk1 at HF ⊢
  refine uR (.pointer (some ⟨wk2.heap.size, 0, none⟩)) (wk2.alloc (.cells (Stp.cells ⟨k, d⟩) 54)) (exec_box 54 _ rfl (Stp.cells ⟨k, d⟩) (by kernel_rfl)) ?_
  try simp only [pS]
  have HF : Hid (Fq No w (wk2.alloc (.cells (Stp.cells ⟨k, d⟩) 54)) [(gk1, 34, #[.iface 115 (.pointer (some ⟨m, 0, none⟩)), .pointer (some ⟨r, 0, none⟩)]), (wk2.heap.size, 54, Stp.cells ⟨k, d⟩)]) := HF.out.alloc _ _
  generalize wk2.alloc (.cells (Stp.cells ⟨k, d⟩) 54) = wk4 at HF ⊢
  generalize hzgk3 : wk2.heap.size = gk3 at HF ⊢
  refine uK (.bool false) <| WL.nil <| ?_
  try simp only [pS]
  go_upto_region 1 with fail
  refine WL.start <| uK (.bool true) <| WL.nil <| ?_
  try simp only [pS]
  go_upto_region 2 with fail
  refine WL.start <| uK (.pointer (some ⟨gk3, 0, none⟩)) <| uL 3 ⟨gk3, 0, none⟩ (.int .i64 k) (load_one ((HF.out.box 1 _ _ _ rfl).cell 0 |>.trans (by kernel_rfl)) U3 rfl) <| WL.nil <| ?_
  try simp only [pS]
  go_upto_region 3 with fail
  refine WL.start ?_
  cases q1 : (k == 1)
  ·skip
   refine uB .eql 3 (.int .i64 k) (.int .i64 1) (.bool false) (by rw [b_eql, q1]; try rfl) <| uK (.bool false) <| WL.nil <| ?_
   try simp only [pS]
   go_upto_region 6 with fail
   refine WL.start ?_
   cases q2 : (k == 3)
   ·skip
    refine uB .eql 3 (.int .i64 k) (.int .i64 3) (.bool false) (by rw [b_eql, q2]; try rfl) <| uK (.bool false) <| WL.nil <| ?_
    try simp only [pS]
    go_upto_region 9 with fail
    refine WL.start ?_
    cases q3 : (k == 2)
    ·skip
     refine uB .eql 3 (.int .i64 k) (.int .i64 2) (.bool false) (by rw [b_eql, q3]; try rfl) <| uK (.bool false) <| WL.nil <| ?_
     try simp only [pS]
     go_upto_region 10 with fail
     refine WL.start ?_
     cases q4 : (k == 4)
     ·skip
      refine uB .eql 3 (.int .i64 k) (.int .i64 4) (.bool false) (by rw [b_eql, q4]; try rfl) <| uK (.bool false) <| WL.nil <| ?_
      try simp only [pS]
      go_upto_region 17 with fail
      refine WL.start <| uK (.bool true) <| uK (.bool true) <| uL 34 ⟨gk1, 0, none⟩ (.agg #[.iface 115 (.pointer (some ⟨m, 0, none⟩)), .pointer (some ⟨r, 0, none⟩)]) (run_load_part (cs := [.iface 115 (.pointer (some ⟨m, 0, none⟩)), .pointer (some ⟨r, 0, none⟩)]) (sub := [.iface 115 (.pointer (some ⟨m, 0, none⟩)), .pointer (some ⟨r, 0, none⟩)]) (HF.out.box 0 _ _ _ rfl) (Part.all _) U34 rfl S34) <| ?_
      try simp only [pS]
      refine uC 11 #[.agg #[.iface 115 (.pointer (some ⟨m, 0, none⟩)), .pointer (some ⟨r, 0, none⟩)]] (look_any w0 I m r g LV s x wk4 (HW.out.no HF.out.kept) (HR.out.no HF.out.kept)) ?_
      rintro e wk5 ⟨rfl, hk⟩
      have HF : Hid (Fq No w (wk5) [(gk1, 34, #[.iface 115 (.pointer (some ⟨m, 0, none⟩)), .pointer (some ⟨r, 0, none⟩)]), (gk3, 54, Stp.cells ⟨k, d⟩)]) := HF.out.no hk
      clear hk
      refine ⟨.bool true, rfl, ?_⟩
      try simp only [pS]
      refine uK (.bool true) <| uK (.bool true) <| WL.nil <| ?_
      try simp only [pS]
      go_wp2
      rw [HC.out]
      exact ⟨I, LV, s, x, rfl, HW.out.no HF.out.kept, HR.out.no HF.out.kept, HF.out.kept.of_no, fun k e => .inl e⟩
     ·skip
      refine uB .eql 3 (.int .i64 k) (.int .i64 4) (.bool true) (by rw [b_eql, q4]; try rfl) <| uK (.bool true) <| WL.nil <| ?_
      try simp only [pS]
      go_upto_region 11 with fail
      refine WL.start <| uK (.pointer (some ⟨gk3, 1, none⟩)) <| uL 52 ⟨gk3, 1, none⟩ (.agg (Mg.cells d)) (run_load_part (cs := Stp.cs ⟨k, d⟩) (sub := Mg.cs d) (HF.out.box 1 _ _ _ rfl) (part_of (by kernel_rfl)) U52 rfl S52) <| ?_
      try simp only [pS]
      refine uR (.pointer (some ⟨wk4.heap.size, 0, none⟩)) (wk4.alloc (.cells (Mg.cells mgZ) 52)) (exec_alloc 52 rfl (Mg.cells mgZ) Z52) ?_
      try simp only [pS]
      have HF : Hid (Fq No w (wk4.alloc (.cells (Mg.cells mgZ) 52)) [(gk1, 34, #[.iface 115 (.pointer (some ⟨m, 0, none⟩)), .pointer (some ⟨r, 0, none⟩)]), (gk3, 54, Stp.cells ⟨k, d⟩), (wk4.heap.size, 52, Mg.cells mgZ)]) := HF.out.alloc _ _
      generalize wk4.alloc (.cells (Mg.cells mgZ) 52) = wk7 at HF ⊢
      generalize hzgk6 : wk4.heap.size = gk6 at HF ⊢
      refine uT 52 ⟨gk6, 0, none⟩ (.agg (Mg.cells d)) (wk7.setRow gk6 (Mg.cells d)) (rs (Mg.cs mgZ) (Mg.cs d) (Mg.cs d) (HF.out.box 2 _ _ _ rfl) S52 (Mg.oneL _)) ?_
      try simp only [pS]
      have HF : Hid (Fq No w (wk7.setRow gk6 (Mg.cells d)) [(gk1, 34, #[.iface 115 (.pointer (some ⟨m, 0, none⟩)), .pointer (some ⟨r, 0, none⟩)]), (gk3, 54, Stp.cells ⟨k, d⟩), (gk6, 52, Mg.cells d)]) := HF.out.set 2 rfl _
      generalize wk7.setRow gk6 (Mg.cells d) = wk8 at HF ⊢
      refine WL.nil ?_
      try simp only [pS]
      go_upto_region 12 with fail
      refine WL.start <| uK (.pointer (some ⟨gk3, 0, none⟩)) <| uL 3 ⟨gk3, 0, none⟩ (.int .i64 k) (load_one ((HF.out.box 1 _ _ _ rfl).cell 0 |>.trans (by kernel_rfl)) U3 rfl) <| uB .eql 3 (.int .i64 k) (.int .i64 4) (.bool true) (by rw [b_eql, q4]; try rfl) <| WL.nil <| ?_
      try simp only [pS]
      go_upto_region 13 with fail
      refine WL.start <| uL 34 ⟨gk1, 0, none⟩ (.agg #[.iface 115 (.pointer (some ⟨m, 0, none⟩)), .pointer (some ⟨r, 0, none⟩)]) (run_load_part (cs := [.iface 115 (.pointer (some ⟨m, 0, none⟩)), .pointer (some ⟨r, 0, none⟩)]) (sub := [.iface 115 (.pointer (some ⟨m, 0, none⟩)), .pointer (some ⟨r, 0, none⟩)]) (HF.out.box 0 _ _ _ rfl) (Part.all _) U34 rfl S34) <| uL 52 ⟨gk6, 0, none⟩ (.agg (Mg.cells d)) (run_load_part (cs := Mg.cs d) (sub := Mg.cs d) (HF.out.box 2 _ _ _ rfl) (Part.all _) U52 rfl S52) <| ?_
      try simp only [pS]
      refine uC 34 #[.agg #[.iface 115 (.pointer (some ⟨m, 0, none⟩)), .pointer (some ⟨r, 0, none⟩)], .agg (Mg.cells d)] (near_any m r x g an vv d wk8 (HG.out.no HF.out.kept)) ?_
      rintro e wk9 ⟨D, rfl, hN, hk⟩
      have HD := show Hid (MgOk w0 w D zs es ls cs) from HD.out.near hN
      have HF : Hid (Fq No w (wk9) [(gk1, 34, #[.iface 115 (.pointer (some ⟨m, 0, none⟩)), .pointer (some ⟨r, 0, none⟩)]), (gk3, 54, Stp.cells ⟨k, d⟩), (gk6, 52, Mg.cells d)]) := HF.out.no hk
      clear hN hk
      refine ⟨.agg (Mg.cells D), rfl, ?_⟩
      try simp only [pS]
      refine uT 52 ⟨gk6, 0, none⟩ (.agg (Mg.cells D)) (wk9.setRow gk6 (Mg.cells D)) (rs (Mg.cs d) (Mg.cs D) (Mg.cs D) (HF.out.box 2 _ _ _ rfl) S52 (Mg.oneL _)) ?_
      try simp only [pS]
      have HF : Hid (Fq No w (wk9.setRow gk6 (Mg.cells D)) [(gk1, 34, #[.iface 115 (.pointer (some ⟨m, 0, none⟩)), .pointer (some ⟨r, 0, none⟩)]), (gk3, 54, Stp.cells ⟨k, d⟩), (gk6, 52, Mg.cells D)]) := HF.out.set 2 rfl _
      generalize wk9.setRow gk6 (Mg.cells D) = wk10 at HF ⊢
      refine WL.nil ?_
      try simp only [pS]
      go_upto_region 14 with fail
      refine WL.start <| uL 52 ⟨gk6, 0, none⟩ (.agg (Mg.cells D)) (run_load_part (cs := Mg.cs D) (sub := Mg.cs D) (HF.out.box 2 _ _ _ rfl) (Part.all _) U52 rfl S52) <| ?_
      try simp only [pS]
      refine uC 35 #[.agg (Mg.cells D)] (lendM D zs es ls cs wk10 (HD.out.inn.no HF.out.kept)) ?_
      rintro e wk11 ⟨gb, E, L, C, rfl, hL, hk⟩
      have hlf : ∀ y ∈ [(gk1, 34, #[.iface 115 (.pointer (some ⟨m, 0, none⟩)), .pointer (some ⟨r, 0, none⟩)]), (gk3, 54, Stp.cells ⟨k, d⟩), (gk6, 52, Mg.cells D)], y.1 < wk10.heap.size := Fq.lt HF.out
      have hls : w.heap.size ≤ wk10.heap.size := HF.out.kept.size
      have HF : Hid (Fq No w (wk11) [(gk1, 34, #[.iface 115 (.pointer (some ⟨m, 0, none⟩)), .pointer (some ⟨r, 0, none⟩)]), (gk3, 54, Stp.cells ⟨k, d⟩), (gk6, 52, Mg.cells D)]) := HF.out.no hk
      have hLB := Len.lb hL
      have HLe : Hid (Len wk11 wk10.heap.size D zs es ls cs gb E L C) := hL
      generalize wk10.heap.size = nl at HLe hlf hls hLB
      have HKl : Hid (Kept No wk11 wk11) := Kept.refl No _
      clear hL hk
      refine ⟨.agg (Mg.cells (lenM D gb E L C)), rfl, ?_⟩
      try simp only [pS]
      refine uR (.pointer (some ⟨wk11.heap.size, 0, none⟩)) (wk11.alloc (.cells (Mg.cells mgZ) 52)) (exec_alloc 52 rfl (Mg.cells mgZ) Z52) ?_
      try simp only [pS]
      have HKl : Hid (Kept No wk11 (wk11.alloc (.cells (Mg.cells mgZ) 52))) := HKl.out.alloc _
      have HF : Hid (Fq No w (wk11.alloc (.cells (Mg.cells mgZ) 52)) [(gk1, 34, #[.iface 115 (.pointer (some ⟨m, 0, none⟩)), .pointer (some ⟨r, 0, none⟩)]), (gk3, 54, Stp.cells ⟨k, d⟩), (gk6, 52, Mg.cells D), (wk11.heap.size, 52, Mg.cells mgZ)]) := HF.out.alloc _ _
      generalize wk11.alloc (.cells (Mg.cells mgZ) 52) = wk13 at HF HKl ⊢
      generalize hzgk12 : wk11.heap.size = gk12 at HF ⊢
      refine uT 52 ⟨gk12, 0, none⟩ (.agg (Mg.cells (lenM D gb E L C))) (wk13.setRow gk12 (Mg.cells (lenM D gb E L C))) (rs (Mg.cs mgZ) (Mg.cs (lenM D gb E L C)) (Mg.cs (lenM D gb E L C)) (HF.out.box 3 _ _ _ rfl) S52 (Mg.oneL _)) ?_
      try simp only [pS]
      have HKl : Hid (Kept No wk11 (wk13.setRow gk12 (Mg.cells (lenM D gb E L C)))) := kept_row HKl.out (.inl (Nat.le_of_eq hzgk12)) _
      have HF : Hid (Fq No w (wk13.setRow gk12 (Mg.cells (lenM D gb E L C))) [(gk1, 34, #[.iface 115 (.pointer (some ⟨m, 0, none⟩)), .pointer (some ⟨r, 0, none⟩)]), (gk3, 54, Stp.cells ⟨k, d⟩), (gk6, 52, Mg.cells D), (gk12, 52, Mg.cells (lenM D gb E L C))]) := HF.out.set 3 rfl _
      generalize wk13.setRow gk12 (Mg.cells (lenM D gb E L C)) = wk14 at HF HKl ⊢
      refine WL.nil ?_
      try simp only [pS]
      have HLe : Hid (Len wk14 nl D zs es ls cs gb E L C) := HLe.out.off HKl.out (fun k _ e => e)
      have hKls := HKl.out.size
      go_upto_region 15 with fail
      refine WL.start <| uK (.pointer (some ⟨gk1, 0, none⟩)) <| uL 31 ⟨gk1, 0, none⟩ (.iface 115 (.pointer (some ⟨m, 0, none⟩))) (load_one ((HF.out.box 0 _ _ _ rfl).cell 0 |>.trans (by kernel_rfl)) U31 V31) <| uL 52 ⟨gk12, 0, none⟩ (.agg (Mg.cells (lenM D gb E L C))) (run_load_part (cs := Mg.cs (lenM D gb E L C)) (sub := Mg.cs (lenM D gb E L C)) (HF.out.box 3 _ _ _ rfl) (Part.all _) U52 rfl S52) <| ?_
      try simp only [pS]
      refine uC 85 #[.pointer (some ⟨m, 0, none⟩), .agg (Mg.cells (lenM D gb E L C))] (take_M (HW.out.mch.no HF.out.kept) (lenM D gb E L C) zs (lent_rd HLe.out.b HD.out.inn.b.len) HD.out.inn.nb HD.out.h63) ?_
      rintro e wk15 ho
      rw [takP_len] at ho
      have hsz : w.heap.size ≤ wk14.heap.size := HF.out.kept.size
      obtain ⟨la, n, lc, I', rfl, hT, hW2, hR2, hk2, hI2⟩ := prog_step HW.out HR.out HF.out.kept ho
      have HLe : Hid (Len wk15 nl D zs es ls cs gb E L C) := HLe.out.off hk2 (fun k e f => by have := (hLB k e).1; have := hIw k f; omega)
      have HD2 : Hid (MgOk w0 wk15 D zs es ls cs) := (HD.out.no HF.out.kept).kept hk2 (fun k e f => by have := hI0 k f; omega)
      have hle2 : ∀ k, LB gb E L C k → k < wk14.heap.size := fun k e => by have := (hLB k e).2; have := HKl.out.size; omega
      have HT : Hid (TlM wk15 wk14.heap.size la n lc (takP s D zs)) := hT
      have HW2 : Hid (Wq w0 wk15 I' m r g LV (takP s D zs).1 x) := hW2
      have HR2 : Hid (∀ (L : Nat → Prop) (W3 : World), Kept L wk15 W3 → (∀ k, L k → w.heap.size ≤ k) → Rel (Bw H W3 I' (Jx r g LV)) s x) := hR2
      have HLo : Hid (∀ y ∈ [(gk1, 34, #[.iface 115 (.pointer (some ⟨m, 0, none⟩)), .pointer (some ⟨r, 0, none⟩)]), (gk3, 54, Stp.cells ⟨k, d⟩), (gk6, 52, Mg.cells D), (gk12, 52, Mg.cells (lenM D gb E L C))], w.heap.size ≤ y.1) := Fq.lowNo HF.out
      have HF : Hid (Fq (fun k => I k ∨ Jx r g LV k) w (wk15) [(gk1, 34, #[.iface 115 (.pointer (some ⟨m, 0, none⟩)), .pointer (some ⟨r, 0, none⟩)]), (gk3, 54, Stp.cells ⟨k, d⟩), (gk6, 52, Mg.cells D), (gk12, 52, Mg.cells (lenM D gb E L C))]) := Fq.any' HF.out hk2 (fun y hy e => by have := HLo.out y hy; have := hIw _ e; omega) (fun _ e => e.elim) (fun k _ e => .inl e)
      clear ho hT hW2 hR2 hk2
      refine ⟨.slice la n lc, rfl, ?_⟩
      try simp only [pS]
      refine uK (.slice la n lc) <| WL.nil <| ?_
      try simp only [pS]
      go_upto_region 16 with fail
      refine WL.start <| uL 52 ⟨gk12, 0, none⟩ (.agg (Mg.cells (lenM D gb E L C))) (run_load_part (cs := Mg.cs (lenM D gb E L C)) (sub := Mg.cs (lenM D gb E L C)) (HF.out.box 3 _ _ _ rfl) (Part.all _) U52 rfl S52) <| uL 52 ⟨gk6, 0, none⟩ (.agg (Mg.cells D)) (run_load_part (cs := Mg.cs D) (sub := Mg.cs D) (HF.out.box 2 _ _ _ rfl) (Part.all _) U52 rfl S52) <| ?_
      try simp only [pS]
      refine uC 36 #[.agg (Mg.cells (lenM D gb E L C)), .agg (Mg.cells D)] (backM HD2.out.inn HLe.out (fun hne k e f => by have := HD2.out.off hne k e; have := (hLB k f).1; omega)) ?_
      rintro e wk16 ⟨rfl, hk⟩
      have HF : Hid (Fq (fun k => I k ∨ Jx r g LV k) w (wk16) [(gk1, 34, #[.iface 115 (.pointer (some ⟨m, 0, none⟩)), .pointer (some ⟨r, 0, none⟩)]), (gk3, 54, Stp.cells ⟨k, d⟩), (gk6, 52, Mg.cells D)]) := Fq.any' (Fq.front (l := [(gk1, 34, #[.iface 115 (.pointer (some ⟨m, 0, none⟩)), .pointer (some ⟨r, 0, none⟩)]), (gk3, 54, Stp.cells ⟨k, d⟩), (gk6, 52, Mg.cells D)]) (m := [_]) HF.out) hk (fun y hy e => by have := hlf y hy; have := (hLB _ e).1; omega) (fun _ e => e) (fun k l e => by exfalso; have := (hLB k e).1; omega)
      have HLo : Hid (∀ y ∈ [(gk1, 34, #[.iface 115 (.pointer (some ⟨m, 0, none⟩)), .pointer (some ⟨r, 0, none⟩)]), (gk3, 54, Stp.cells ⟨k, d⟩), (gk6, 52, Mg.cells D)], w.heap.size ≤ y.1) := fun y hy => HLo.out y (List.mem_append_left [_] hy)
      have HT : Hid (TlM wk16 wk14.heap.size la n lc (takP s D zs)) := HT.out.kept hk (fun k e f => by have := hle2 k f; omega)
      have HR2 := show Hid (Rel (Bw H wk16 I' (Jx r g LV)) s x) from HR2.out _ _ hk (fun k e => by have := (hLB k e).1; omega)
      have HW2 : Hid (Wq w0 wk16 I' m r g LV (takP s D zs).1 x) := HW2.out.off hk (fun k e => ⟨by have := (hLB k e).1; omega, fun f => by have := hle2 k e; have := (hLB k e).1; rcases hI2 k f with f | f; have := hIw k f; omega; omega, fun f => by have := (hLB k e).1; have := hJw k f; omega⟩)
      have HD2 : Hid (MgOk w0 wk16 D zs es ls cs) := HD2.out.kept hk (fun k e f => by have := (hLB k f).1; omega)
      clear hk
      refine ⟨.bool true, rfl, ?_⟩
      try simp only [pS]
      refine uK (.bool true) <| uK (.slice la n lc) <| uK (.pointer (some ⟨gk1, 1, none⟩)) <| uL 32 ⟨gk1, 1, none⟩ (.pointer (some ⟨r, 0, none⟩)) (load_one ((HF.out.box 0 _ _ _ rfl).cell 1 |>.trans (by kernel_rfl)) U32 V32) <| uL 52 ⟨gk6, 0, none⟩ (.agg (Mg.cells D)) (run_load_part (cs := Mg.cs D) (sub := Mg.cs D) (HF.out.box 2 _ _ _ rfl) (Part.all _) U52 rfl S52) <| ?_
      try simp only [pS]
      refine uC 37 #[.pointer (some ⟨r, 0, none⟩), .agg (Mg.cells D)] (refTake HW2.out HR2.out D zs ⟨HD2.out.inn.b, HD2.out.inn.nb, fun hne k e => ⟨by have := HD2.out.off hne k e; have := HW2.out.kp.size; omega, fun f => by have := HD2.out.off hne k e; have := (HW2.out.ia k f).1; omega, fun f => by have := HD2.out.off hne k e; have := HW2.out.jb k f; omega, hH k (.inl (HD2.out.off hne k e))⟩⟩ HD2.out.h63 (fun k e => hH k (.inr (by have := HF.out.kept.size; omega)))) ?_
      rintro e wk17 ⟨t, l, LV', x', rfl, hRd, hl, hW3, hR3, hLk, hkJ, hJ'⟩
      have hsJ : w.heap.size ≤ wk16.heap.size := HF.out.kept.size
      have HT : Hid (TlM wk17 wk14.heap.size la n lc (takP s D zs)) := HT.out.kept hkJ (fun k e f => by have := hJw k f; omega)
      have HF : Hid (Fq (fun k => I k ∨ Jx r g LV k) w (wk17) [(gk1, 34, #[.iface 115 (.pointer (some ⟨m, 0, none⟩)), .pointer (some ⟨r, 0, none⟩)]), (gk3, 54, Stp.cells ⟨k, d⟩), (gk6, 52, Mg.cells D)]) := Fq.any' HF.out hkJ (fun y hy e => by have := HLo.out y hy; have := hJw _ e; omega) (fun _ e => e) (fun k _ e => .inr e)
      have HRd : Hid (RdM wk17 t l) := hRd
      have HW3 : Hid (Wq w0 wk17 I' m r g LV' (takP s D zs).1 x') := hW3
      have HR3 : Hid (RelW H wk17 I' (Jx r g LV') (takP s D zs).1 x') := hR3
      have HLk : Hid (LikeT (Bw H wk17 I' (Jx r g LV')) x' (takP s D zs) l) := hLk
      clear hRd hW3 hR3 hLk hkJ
      refine ⟨t.v, rfl, ?_⟩
      try simp only [pS]
      refine uC 31 #[.slice la n lc, t.v] (sameT HT.out HRd.out HLk.out hl) ?_
      rintro e wk18 ⟨rfl, hk⟩
      have HW3 : Hid (Wq w0 (wk18) I' m r g LV' (takP s D zs).1 x') := HW3.out.no hk
      have HR3 : Hid (RelW H (wk18) I' (Jx r g LV') (takP s D zs).1 x') := HR3.out.no hk
      have HF : Hid (Fq (fun k => I k ∨ Jx r g LV k) w (wk18) [(gk1, 34, #[.iface 115 (.pointer (some ⟨m, 0, none⟩)), .pointer (some ⟨r, 0, none⟩)]), (gk3, 54, Stp.cells ⟨k, d⟩), (gk6, 52, Mg.cells D)]) := HF.out.no hk
      clear hk
      refine ⟨.bool true, rfl, ?_⟩
      try simp only [pS]
      refine uK (.bool true) <| uK (.bool true) <| WL.nil <| ?_
      try simp only [pS]
      go_upto_region 17 with fail
      refine WL.start <| uK (.bool true) <| uK (.bool true) <| uL 34 ⟨gk1, 0, none⟩ (.agg #[.iface 115 (.pointer (some ⟨m, 0, none⟩)), .pointer (some ⟨r, 0, none⟩)]) (run_load_part (cs := [.iface 115 (.pointer (some ⟨m, 0, none⟩)), .pointer (some ⟨r, 0, none⟩)]) (sub := [.iface 115 (.pointer (some ⟨m, 0, none⟩)), .pointer (some ⟨r, 0, none⟩)]) (HF.out.box 0 _ _ _ rfl) (Part.all _) U34 rfl S34) <| ?_
      try simp only [pS]
      refine uC 11 #[.agg #[.iface 115 (.pointer (some ⟨m, 0, none⟩)), .pointer (some ⟨r, 0, none⟩)]] (look_any w0 I' m r g LV' (takP s D zs).1 x' wk18 HW3.out HR3.out) ?_
      rintro e wk19 ⟨rfl, hk⟩
      have HW3 : Hid (Wq w0 (wk19) I' m r g LV' (takP s D zs).1 x') := HW3.out.no hk
      have HR3 : Hid (RelW H (wk19) I' (Jx r g LV') (takP s D zs).1 x') := HR3.out.no hk
      have HF : Hid (Fq (fun k => I k ∨ Jx r g LV k) w (wk19) [(gk1, 34, #[.iface 115 (.pointer (some ⟨m, 0, none⟩)), .pointer (some ⟨r, 0, none⟩)]), (gk3, 54, Stp.cells ⟨k, d⟩), (gk6, 52, Mg.cells D)]) := HF.out.no hk
      clear hk
      refine ⟨.bool true, rfl, ?_⟩
      try simp only [pS]
      refine uK (.bool true) <| uK (.bool true) <| WL.nil <| ?_
      try simp only [pS]
      go_wp2
      rw [HC.out]
      exact ⟨I', LV', _, x', rfl, HW3.out, HR3.out, HF.out.kept, fun k e => by
        rcases e with e | e
        · exact (hI2 k e).elim (fun f => .inl (.inl f)) (fun f => .inr (by omega))
        · exact (hJ' k e).elim (fun f => .inl (.inr f)) (fun f => .inr (by omega))⟩
    ·skip
     refine uB .eql 3 (.int .i64 k) (.int .i64 2) (.bool true) (by rw [b_eql, q3]; try rfl) <| uK (.bool true) <| WL.nil <| ?_
     try simp only [pS]
     go_upto_region 11 with fail
     refine WL.start <| uK (.pointer (some ⟨gk3, 1, none⟩)) <| uL 52 ⟨gk3, 1, none⟩ (.agg (Mg.cells d)) (run_load_part (cs := Stp.cs ⟨k, d⟩) (sub := Mg.cs d) (HF.out.box 1 _ _ _ rfl) (part_of (by kernel_rfl)) U52 rfl S52) <| ?_
     try simp only [pS]
     refine uR (.pointer (some ⟨wk4.heap.size, 0, none⟩)) (wk4.alloc (.cells (Mg.cells mgZ) 52)) (exec_alloc 52 rfl (Mg.cells mgZ) Z52) ?_
     try simp only [pS]
     have HF : Hid (Fq No w (wk4.alloc (.cells (Mg.cells mgZ) 52)) [(gk1, 34, #[.iface 115 (.pointer (some ⟨m, 0, none⟩)), .pointer (some ⟨r, 0, none⟩)]), (gk3, 54, Stp.cells ⟨k, d⟩), (wk4.heap.size, 52, Mg.cells mgZ)]) := HF.out.alloc _ _
     generalize wk4.alloc (.cells (Mg.cells mgZ) 52) = wk21 at HF ⊢
     generalize hzgk20 : wk4.heap.size = gk20 at HF ⊢
     refine uT 52 ⟨gk20, 0, none⟩ (.agg (Mg.cells d)) (wk21.setRow gk20 (Mg.cells d)) (rs (Mg.cs mgZ) (Mg.cs d) (Mg.cs d) (HF.out.box 2 _ _ _ rfl) S52 (Mg.oneL _)) ?_
     try simp only [pS]
     have HF : Hid (Fq No w (wk21.setRow gk20 (Mg.cells d)) [(gk1, 34, #[.iface 115 (.pointer (some ⟨m, 0, none⟩)), .pointer (some ⟨r, 0, none⟩)]), (gk3, 54, Stp.cells ⟨k, d⟩), (gk20, 52, Mg.cells d)]) := HF.out.set 2 rfl _
     generalize wk21.setRow gk20 (Mg.cells d) = wk22 at HF ⊢
     refine WL.nil ?_
     try simp only [pS]
     go_upto_region 12 with fail
     refine WL.start <| uK (.pointer (some ⟨gk3, 0, none⟩)) <| uL 3 ⟨gk3, 0, none⟩ (.int .i64 k) (load_one ((HF.out.box 1 _ _ _ rfl).cell 0 |>.trans (by kernel_rfl)) U3 rfl) <| ?_
     try simp only [pS]
     cases q5 : (k == 4)
     ·skip
      refine uB .eql 3 (.int .i64 k) (.int .i64 4) (.bool false) (by rw [b_eql, q5]; try rfl) <| WL.nil <| ?_
      try simp only [pS]
      go_upto_region 14 with fail
      refine WL.start <| uL 52 ⟨gk20, 0, none⟩ (.agg (Mg.cells d)) (run_load_part (cs := Mg.cs d) (sub := Mg.cs d) (HF.out.box 2 _ _ _ rfl) (Part.all _) U52 rfl S52) <| ?_
      try simp only [pS]
      refine uC 35 #[.agg (Mg.cells d)] (lendM d zs es ls cs wk22 (HD.out.inn.no HF.out.kept)) ?_
      rintro e wk23 ⟨gb, E, L, C, rfl, hL, hk⟩
      have hlf : ∀ y ∈ [(gk1, 34, #[.iface 115 (.pointer (some ⟨m, 0, none⟩)), .pointer (some ⟨r, 0, none⟩)]), (gk3, 54, Stp.cells ⟨k, d⟩), (gk20, 52, Mg.cells d)], y.1 < wk22.heap.size := Fq.lt HF.out
      have hls : w.heap.size ≤ wk22.heap.size := HF.out.kept.size
      have HF : Hid (Fq No w (wk23) [(gk1, 34, #[.iface 115 (.pointer (some ⟨m, 0, none⟩)), .pointer (some ⟨r, 0, none⟩)]), (gk3, 54, Stp.cells ⟨k, d⟩), (gk20, 52, Mg.cells d)]) := HF.out.no hk
      have hLB := Len.lb hL
      have HLe : Hid (Len wk23 wk22.heap.size d zs es ls cs gb E L C) := hL
      generalize wk22.heap.size = nl at HLe hlf hls hLB
      have HKl : Hid (Kept No wk23 wk23) := Kept.refl No _
      clear hL hk
      refine ⟨.agg (Mg.cells (lenM d gb E L C)), rfl, ?_⟩
      try simp only [pS]
      refine uR (.pointer (some ⟨wk23.heap.size, 0, none⟩)) (wk23.alloc (.cells (Mg.cells mgZ) 52)) (exec_alloc 52 rfl (Mg.cells mgZ) Z52) ?_
      try simp only [pS]
      have HKl : Hid (Kept No wk23 (wk23.alloc (.cells (Mg.cells mgZ) 52))) := HKl.out.alloc _
      have HF : Hid (Fq No w (wk23.alloc (.cells (Mg.cells mgZ) 52)) [(gk1, 34, #[.iface 115 (.pointer (some ⟨m, 0, none⟩)), .pointer (some ⟨r, 0, none⟩)]), (gk3, 54, Stp.cells ⟨k, d⟩), (gk20, 52, Mg.cells d), (wk23.heap.size, 52, Mg.cells mgZ)]) := HF.out.alloc _ _
      generalize wk23.alloc (.cells (Mg.cells mgZ) 52) = wk25 at HF HKl ⊢
      generalize hzgk24 : wk23.heap.size = gk24 at HF ⊢
      refine uT 52 ⟨gk24, 0, none⟩ (.agg (Mg.cells (lenM d gb E L C))) (wk25.setRow gk24 (Mg.cells (lenM d gb E L C))) (rs (Mg.cs mgZ) (Mg.cs (lenM d gb E L C)) (Mg.cs (lenM d gb E L C)) (HF.out.box 3 _ _ _ rfl) S52 (Mg.oneL _)) ?_
      try simp only [pS]
      have HKl : Hid (Kept No wk23 (wk25.setRow gk24 (Mg.cells (lenM d gb E L C)))) := kept_row HKl.out (.inl (Nat.le_of_eq hzgk24)) _
      have HF : Hid (Fq No w (wk25.setRow gk24 (Mg.cells (lenM d gb E L C))) [(gk1, 34, #[.iface 115 (.pointer (some ⟨m, 0, none⟩)), .pointer (some ⟨r, 0, none⟩)]), (gk3, 54, Stp.cells ⟨k, d⟩), (gk20, 52, Mg.cells d), (gk24, 52, Mg.cells (lenM d gb E L C))]) := HF.out.set 3 rfl _
      generalize wk25.setRow gk24 (Mg.cells (lenM d gb E L C)) = wk26 at HF HKl ⊢
      refine WL.nil ?_
      try simp only [pS]
      have HLe : Hid (Len wk26 nl d zs es ls cs gb E L C) := HLe.out.off HKl.out (fun k _ e => e)
      have hKls := HKl.out.size
      go_upto_region 15 with fail
      refine WL.start <| uK (.pointer (some ⟨gk1, 0, none⟩)) <| uL 31 ⟨gk1, 0, none⟩ (.iface 115 (.pointer (some ⟨m, 0, none⟩))) (load_one ((HF.out.box 0 _ _ _ rfl).cell 0 |>.trans (by kernel_rfl)) U31 V31) <| uL 52 ⟨gk24, 0, none⟩ (.agg (Mg.cells (lenM d gb E L C))) (run_load_part (cs := Mg.cs (lenM d gb E L C)) (sub := Mg.cs (lenM d gb E L C)) (HF.out.box 3 _ _ _ rfl) (Part.all _) U52 rfl S52) <| ?_
      try simp only [pS]
      refine uC 85 #[.pointer (some ⟨m, 0, none⟩), .agg (Mg.cells (lenM d gb E L C))] (take_M (HW.out.mch.no HF.out.kept) (lenM d gb E L C) zs (lent_rd HLe.out.b HD.out.inn.b.len) HD.out.inn.nb HD.out.h63) ?_
      rintro e wk27 ho
      rw [takP_len] at ho
      have hsz : w.heap.size ≤ wk26.heap.size := HF.out.kept.size
      obtain ⟨la, n, lc, I', rfl, hT, hW2, hR2, hk2, hI2⟩ := prog_step HW.out HR.out HF.out.kept ho
      have HLe : Hid (Len wk27 nl d zs es ls cs gb E L C) := HLe.out.off hk2 (fun k e f => by have := (hLB k e).1; have := hIw k f; omega)
      have HD2 : Hid (MgOk w0 wk27 d zs es ls cs) := (HD.out.no HF.out.kept).kept hk2 (fun k e f => by have := hI0 k f; omega)
      have hle2 : ∀ k, LB gb E L C k → k < wk26.heap.size := fun k e => by have := (hLB k e).2; have := HKl.out.size; omega
      have HT : Hid (TlM wk27 wk26.heap.size la n lc (takP s d zs)) := hT
      have HW2 : Hid (Wq w0 wk27 I' m r g LV (takP s d zs).1 x) := hW2
      have HR2 : Hid (∀ (L : Nat → Prop) (W3 : World), Kept L wk27 W3 → (∀ k, L k → w.heap.size ≤ k) → Rel (Bw H W3 I' (Jx r g LV)) s x) := hR2
      have HLo : Hid (∀ y ∈ [(gk1, 34, #[.iface 115 (.pointer (some ⟨m, 0, none⟩)), .pointer (some ⟨r, 0, none⟩)]), (gk3, 54, Stp.cells ⟨k, d⟩), (gk20, 52, Mg.cells d), (gk24, 52, Mg.cells (lenM d gb E L C))], w.heap.size ≤ y.1) := Fq.lowNo HF.out
      have HF : Hid (Fq (fun k => I k ∨ Jx r g LV k) w (wk27) [(gk1, 34, #[.iface 115 (.pointer (some ⟨m, 0, none⟩)), .pointer (some ⟨r, 0, none⟩)]), (gk3, 54, Stp.cells ⟨k, d⟩), (gk20, 52, Mg.cells d), (gk24, 52, Mg.cells (lenM d gb E L C))]) := Fq.any' HF.out hk2 (fun y hy e => by have := HLo.out y hy; have := hIw _ e; omega) (fun _ e => e.elim) (fun k _ e => .inl e)
      clear ho hT hW2 hR2 hk2
      refine ⟨.slice la n lc, rfl, ?_⟩
      try simp only [pS]
      refine uK (.slice la n lc) <| WL.nil <| ?_
      try simp only [pS]
      go_upto_region 16 with fail
      refine WL.start <| uL 52 ⟨gk24, 0, none⟩ (.agg (Mg.cells (lenM d gb E L C))) (run_load_part (cs := Mg.cs (lenM d gb E L C)) (sub := Mg.cs (lenM d gb E L C)) (HF.out.box 3 _ _ _ rfl) (Part.all _) U52 rfl S52) <| uL 52 ⟨gk20, 0, none⟩ (.agg (Mg.cells d)) (run_load_part (cs := Mg.cs d) (sub := Mg.cs d) (HF.out.box 2 _ _ _ rfl) (Part.all _) U52 rfl S52) <| ?_
      try simp only [pS]
      refine uC 36 #[.agg (Mg.cells (lenM d gb E L C)), .agg (Mg.cells d)] (backM HD2.out.inn HLe.out (fun hne k e f => by have := HD2.out.off hne k e; have := (hLB k f).1; omega)) ?_
      rintro e wk28 ⟨rfl, hk⟩
      have HF : Hid (Fq (fun k => I k ∨ Jx r g LV k) w (wk28) [(gk1, 34, #[.iface 115 (.pointer (some ⟨m, 0, none⟩)), .pointer (some ⟨r, 0, none⟩)]), (gk3, 54, Stp.cells ⟨k, d⟩), (gk20, 52, Mg.cells d)]) := Fq.any' (Fq.front (l := [(gk1, 34, #[.iface 115 (.pointer (some ⟨m, 0, none⟩)), .pointer (some ⟨r, 0, none⟩)]), (gk3, 54, Stp.cells ⟨k, d⟩), (gk20, 52, Mg.cells d)]) (m := [_]) HF.out) hk (fun y hy e => by have := hlf y hy; have := (hLB _ e).1; omega) (fun _ e => e) (fun k l e => by exfalso; have := (hLB k e).1; omega)
      have HLo : Hid (∀ y ∈ [(gk1, 34, #[.iface 115 (.pointer (some ⟨m, 0, none⟩)), .pointer (some ⟨r, 0, none⟩)]), (gk3, 54, Stp.cells ⟨k, d⟩), (gk20, 52, Mg.cells d)], w.heap.size ≤ y.1) := fun y hy => HLo.out y (List.mem_append_left [_] hy)
      have HT : Hid (TlM wk28 wk26.heap.size la n lc (takP s d zs)) := HT.out.kept hk (fun k e f => by have := hle2 k f; omega)
      have HR2 := show Hid (Rel (Bw H wk28 I' (Jx r g LV)) s x) from HR2.out _ _ hk (fun k e => by have := (hLB k e).1; omega)
      have HW2 : Hid (Wq w0 wk28 I' m r g LV (takP s d zs).1 x) := HW2.out.off hk (fun k e => ⟨by have := (hLB k e).1; omega, fun f => by have := hle2 k e; have := (hLB k e).1; rcases hI2 k f with f | f; have := hIw k f; omega; omega, fun f => by have := (hLB k e).1; have := hJw k f; omega⟩)
      have HD2 : Hid (MgOk w0 wk28 d zs es ls cs) := HD2.out.kept hk (fun k e f => by have := (hLB k f).1; omega)
      clear hk
      refine ⟨.bool true, rfl, ?_⟩
      try simp only [pS]
      refine uK (.bool true) <| uK (.slice la n lc) <| uK (.pointer (some ⟨gk1, 1, none⟩)) <| uL 32 ⟨gk1, 1, none⟩ (.pointer (some ⟨r, 0, none⟩)) (load_one ((HF.out.box 0 _ _ _ rfl).cell 1 |>.trans (by kernel_rfl)) U32 V32) <| uL 52 ⟨gk20, 0, none⟩ (.agg (Mg.cells d)) (run_load_part (cs := Mg.cs d) (sub := Mg.cs d) (HF.out.box 2 _ _ _ rfl) (Part.all _) U52 rfl S52) <| ?_
      try simp only [pS]
      refine uC 37 #[.pointer (some ⟨r, 0, none⟩), .agg (Mg.cells d)] (refTake HW2.out HR2.out d zs ⟨HD2.out.inn.b, HD2.out.inn.nb, fun hne k e => ⟨by have := HD2.out.off hne k e; have := HW2.out.kp.size; omega, fun f => by have := HD2.out.off hne k e; have := (HW2.out.ia k f).1; omega, fun f => by have := HD2.out.off hne k e; have := HW2.out.jb k f; omega, hH k (.inl (HD2.out.off hne k e))⟩⟩ HD2.out.h63 (fun k e => hH k (.inr (by have := HF.out.kept.size; omega)))) ?_
      rintro e wk29 ⟨t, l, LV', x', rfl, hRd, hl, hW3, hR3, hLk, hkJ, hJ'⟩
      have hsJ : w.heap.size ≤ wk28.heap.size := HF.out.kept.size
      have HT : Hid (TlM wk29 wk26.heap.size la n lc (takP s d zs)) := HT.out.kept hkJ (fun k e f => by have := hJw k f; omega)
      have HF : Hid (Fq (fun k => I k ∨ Jx r g LV k) w (wk29) [(gk1, 34, #[.iface 115 (.pointer (some ⟨m, 0, none⟩)), .pointer (some ⟨r, 0, none⟩)]), (gk3, 54, Stp.cells ⟨k, d⟩), (gk20, 52, Mg.cells d)]) := Fq.any' HF.out hkJ (fun y hy e => by have := HLo.out y hy; have := hJw _ e; omega) (fun _ e => e) (fun k _ e => .inr e)
      have HRd : Hid (RdM wk29 t l) := hRd
      have HW3 : Hid (Wq w0 wk29 I' m r g LV' (takP s d zs).1 x') := hW3
      have HR3 : Hid (RelW H wk29 I' (Jx r g LV') (takP s d zs).1 x') := hR3
      have HLk : Hid (LikeT (Bw H wk29 I' (Jx r g LV')) x' (takP s d zs) l) := hLk
      clear hRd hW3 hR3 hLk hkJ
      refine ⟨t.v, rfl, ?_⟩
      try simp only [pS]
      refine uC 31 #[.slice la n lc, t.v] (sameT HT.out HRd.out HLk.out hl) ?_
      rintro e wk30 ⟨rfl, hk⟩
      have HW3 : Hid (Wq w0 (wk30) I' m r g LV' (takP s d zs).1 x') := HW3.out.no hk
      have HR3 : Hid (RelW H (wk30) I' (Jx r g LV') (takP s d zs).1 x') := HR3.out.no hk
      have HF : Hid (Fq (fun k => I k ∨ Jx r g LV k) w (wk30) [(gk1, 34, #[.iface 115 (.pointer (some ⟨m, 0, none⟩)), .pointer (some ⟨r, 0, none⟩)]), (gk3, 54, Stp.cells ⟨k, d⟩), (gk20, 52, Mg.cells d)]) := HF.out.no hk
      clear hk
      refine ⟨.bool true, rfl, ?_⟩
      try simp only [pS]
      refine uK (.bool true) <| uK (.bool true) <| WL.nil <| ?_
      try simp only [pS]
      go_upto_region 17 with fail
      refine WL.start <| uK (.bool true) <| uK (.bool true) <| uL 34 ⟨gk1, 0, none⟩ (.agg #[.iface 115 (.pointer (some ⟨m, 0, none⟩)), .pointer (some ⟨r, 0, none⟩)]) (run_load_part (cs := [.iface 115 (.pointer (some ⟨m, 0, none⟩)), .pointer (some ⟨r, 0, none⟩)]) (sub := [.iface 115 (.pointer (some ⟨m, 0, none⟩)), .pointer (some ⟨r, 0, none⟩)]) (HF.out.box 0 _ _ _ rfl) (Part.all _) U34 rfl S34) <| ?_
      try simp only [pS]
      refine uC 11 #[.agg #[.iface 115 (.pointer (some ⟨m, 0, none⟩)), .pointer (some ⟨r, 0, none⟩)]] (look_any w0 I' m r g LV' (takP s d zs).1 x' wk30 HW3.out HR3.out) ?_
      rintro e wk31 ⟨rfl, hk⟩
      have HW3 : Hid (Wq w0 (wk31) I' m r g LV' (takP s d zs).1 x') := HW3.out.no hk
      have HR3 : Hid (RelW H (wk31) I' (Jx r g LV') (takP s d zs).1 x') := HR3.out.no hk
      have HF : Hid (Fq (fun k => I k ∨ Jx r g LV k) w (wk31) [(gk1, 34, #[.iface 115 (.pointer (some ⟨m, 0, none⟩)), .pointer (some ⟨r, 0, none⟩)]), (gk3, 54, Stp.cells ⟨k, d⟩), (gk20, 52, Mg.cells d)]) := HF.out.no hk
      clear hk
      refine ⟨.bool true, rfl, ?_⟩
      try simp only [pS]
      refine uK (.bool true) <| uK (.bool true) <| WL.nil <| ?_
      try simp only [pS]
      go_wp2
      rw [HC.out]
      exact ⟨I', LV', _, x', rfl, HW3.out, HR3.out, HF.out.kept, fun k e => by
        rcases e with e | e
        · exact (hI2 k e).elim (fun f => .inl (.inl f)) (fun f => .inr (by omega))
        · exact (hJ' k e).elim (fun f => .inl (.inr f)) (fun f => .inr (by omega))⟩
     · rw [beq_iff_eq] at q5 q3; omega
   ·skip
    refine uB .eql 3 (.int .i64 k) (.int .i64 3) (.bool true) (by rw [b_eql, q2]; try rfl) <| uK (.bool true) <| WL.nil <| ?_
    try simp only [pS]
    go_upto_region 7 with fail
    refine WL.start <| uK (.pointer (some ⟨gk1, 0, none⟩)) <| uL 31 ⟨gk1, 0, none⟩ (.iface 115 (.pointer (some ⟨m, 0, none⟩))) (load_one ((HF.out.box 0 _ _ _ rfl).cell 0 |>.trans (by kernel_rfl)) U31 V31) <| ?_
    try simp only [pS]
    refine uC 86 #[.pointer (some ⟨m, 0, none⟩)] (tick_M (HW.out.mch.no HF.out.kept)) ?_
    rintro e wk32 ho
    have hsz : w.heap.size ≤ wk4.heap.size := HF.out.kept.size
    obtain ⟨la, n, lc, I', rfl, hT, hW2, hR2, hk2, hI2⟩ := prog_step HW.out HR.out HF.out.kept ho
    have HT : Hid (TlM wk32 wk4.heap.size la n lc ((s, tikP s))) := hT
    have HW2 : Hid (Wq w0 wk32 I' m r g LV ((s, tikP s)).1 x) := hW2
    have HR2 : Hid (∀ (L : Nat → Prop) (W3 : World), Kept L wk32 W3 → (∀ k, L k → w.heap.size ≤ k) → Rel (Bw H W3 I' (Jx r g LV)) s x) := hR2
    have HLo : Hid (∀ y ∈ [(gk1, 34, #[.iface 115 (.pointer (some ⟨m, 0, none⟩)), .pointer (some ⟨r, 0, none⟩)]), (gk3, 54, Stp.cells ⟨k, d⟩)], w.heap.size ≤ y.1) := Fq.lowNo HF.out
    have HF : Hid (Fq (fun k => I k ∨ Jx r g LV k) w (wk32) [(gk1, 34, #[.iface 115 (.pointer (some ⟨m, 0, none⟩)), .pointer (some ⟨r, 0, none⟩)]), (gk3, 54, Stp.cells ⟨k, d⟩)]) := Fq.any' HF.out hk2 (fun y hy e => by have := HLo.out y hy; have := hIw _ e; omega) (fun _ e => e.elim) (fun k _ e => .inl e)
    clear ho hT hW2 hR2 hk2
    refine ⟨.slice la n lc, rfl, ?_⟩
    try simp only [pS]
    refine uK (.slice la n lc) <| WL.nil <| ?_
    try simp only [pS]
    go_upto_region 8 with fail
    refine WL.start <| uK (.slice la n lc) <| uK (.pointer (some ⟨gk1, 1, none⟩)) <| uL 32 ⟨gk1, 1, none⟩ (.pointer (some ⟨r, 0, none⟩)) (load_one ((HF.out.box 0 _ _ _ rfl).cell 1 |>.trans (by kernel_rfl)) U32 V32) <| ?_
    try simp only [pS]
    refine uC 33 #[.pointer (some ⟨r, 0, none⟩)] (refTick HW2.out (HR2.out No _ (Kept.refl No _) (fun k e => e.elim))) ?_
    rintro e wk33 ⟨t, l, LV', x', rfl, hRd, hl, hW3, hR3, hLk, hkJ, hJ'⟩
    have hsJ : w.heap.size ≤ wk32.heap.size := HF.out.kept.size
    have HT : Hid (TlM wk33 wk4.heap.size la n lc ((s, tikP s))) := HT.out.kept hkJ (fun k e f => by have := hJw k f; omega)
    have HF : Hid (Fq (fun k => I k ∨ Jx r g LV k) w (wk33) [(gk1, 34, #[.iface 115 (.pointer (some ⟨m, 0, none⟩)), .pointer (some ⟨r, 0, none⟩)]), (gk3, 54, Stp.cells ⟨k, d⟩)]) := Fq.any' HF.out hkJ (fun y hy e => by have := HLo.out y hy; have := hJw _ e; omega) (fun _ e => e) (fun k _ e => .inr e)
    have HRd : Hid (RdM wk33 t l) := hRd
    have HW3 : Hid (Wq w0 wk33 I' m r g LV' ((s, tikP s)).1 x') := hW3
    have HR3 : Hid (RelW H wk33 I' (Jx r g LV') ((s, tikP s)).1 x') := hR3
    have HLk : Hid (LikeT (Bw H wk33 I' (Jx r g LV')) x' ((s, tikP s)) l) := hLk
    clear hRd hW3 hR3 hLk hkJ
    refine ⟨t.v, rfl, ?_⟩
    try simp only [pS]
    refine uC 31 #[.slice la n lc, t.v] (sameT HT.out HRd.out HLk.out hl) ?_
    rintro e wk34 ⟨rfl, hk⟩
    have HW3 : Hid (Wq w0 (wk34) I' m r g LV' ((s, tikP s)).1 x') := HW3.out.no hk
    have HR3 : Hid (RelW H (wk34) I' (Jx r g LV') ((s, tikP s)).1 x') := HR3.out.no hk
    have HF : Hid (Fq (fun k => I k ∨ Jx r g LV k) w (wk34) [(gk1, 34, #[.iface 115 (.pointer (some ⟨m, 0, none⟩)), .pointer (some ⟨r, 0, none⟩)]), (gk3, 54, Stp.cells ⟨k, d⟩)]) := HF.out.no hk
    clear hk
    refine ⟨.bool true, rfl, ?_⟩
    try simp only [pS]
    refine uK (.bool true) <| WL.nil <| ?_
    try simp only [pS]
    go_upto_region 17 with fail
    refine WL.start <| uK (.bool true) <| uK (.bool true) <| uL 34 ⟨gk1, 0, none⟩ (.agg #[.iface 115 (.pointer (some ⟨m, 0, none⟩)), .pointer (some ⟨r, 0, none⟩)]) (run_load_part (cs := [.iface 115 (.pointer (some ⟨m, 0, none⟩)), .pointer (some ⟨r, 0, none⟩)]) (sub := [.iface 115 (.pointer (some ⟨m, 0, none⟩)), .pointer (some ⟨r, 0, none⟩)]) (HF.out.box 0 _ _ _ rfl) (Part.all _) U34 rfl S34) <| ?_
    try simp only [pS]
    refine uC 11 #[.agg #[.iface 115 (.pointer (some ⟨m, 0, none⟩)), .pointer (some ⟨r, 0, none⟩)]] (look_any w0 I' m r g LV' ((s, tikP s)).1 x' wk34 HW3.out HR3.out) ?_
    rintro e wk35 ⟨rfl, hk⟩
    have HW3 : Hid (Wq w0 (wk35) I' m r g LV' ((s, tikP s)).1 x') := HW3.out.no hk
    have HR3 : Hid (RelW H (wk35) I' (Jx r g LV') ((s, tikP s)).1 x') := HR3.out.no hk
    have HF : Hid (Fq (fun k => I k ∨ Jx r g LV k) w (wk35) [(gk1, 34, #[.iface 115 (.pointer (some ⟨m, 0, none⟩)), .pointer (some ⟨r, 0, none⟩)]), (gk3, 54, Stp.cells ⟨k, d⟩)]) := HF.out.no hk
    clear hk
    refine ⟨.bool true, rfl, ?_⟩
    try simp only [pS]
    refine uK (.bool true) <| uK (.bool true) <| WL.nil <| ?_
    try simp only [pS]
    go_wp2
    rw [HC.out]
    exact ⟨I', LV', _, x', rfl, HW3.out, HR3.out, HF.out.kept, fun k e => by
      rcases e with e | e
      · exact (hI2 k e).elim (fun f => .inl (.inl f)) (fun f => .inr (by omega))
      · exact (hJ' k e).elim (fun f => .inl (.inr f)) (fun f => .inr (by omega))⟩
  ·skip
   refine uB .eql 3 (.int .i64 k) (.int .i64 1) (.bool true) (by rw [b_eql, q1]; try rfl) <| uK (.bool true) <| WL.nil <| ?_
   try simp only [pS]
   go_upto_region 4 with fail
   refine WL.start <| uK (.pointer (some ⟨gk1, 0, none⟩)) <| uL 31 ⟨gk1, 0, none⟩ (.iface 115 (.pointer (some ⟨m, 0, none⟩))) (load_one ((HF.out.box 0 _ _ _ rfl).cell 0 |>.trans (by kernel_rfl)) U31 V31) <| ?_
   try simp only [pS]
   refine uC 82 #[.pointer (some ⟨m, 0, none⟩)] (begin_M (HW.out.mch.no HF.out.kept)) ?_
   rintro e wk36 ho
   have hsz : w.heap.size ≤ wk4.heap.size := HF.out.kept.size
   obtain ⟨la, n, lc, I', rfl, hT, hW2, hR2, hk2, hI2⟩ := prog_step HW.out HR.out HF.out.kept ho
   have HT : Hid (TlM wk36 wk4.heap.size la n lc (begP s)) := hT
   have HW2 : Hid (Wq w0 wk36 I' m r g LV (begP s).1 x) := hW2
   have HR2 : Hid (∀ (L : Nat → Prop) (W3 : World), Kept L wk36 W3 → (∀ k, L k → w.heap.size ≤ k) → Rel (Bw H W3 I' (Jx r g LV)) s x) := hR2
   have HLo : Hid (∀ y ∈ [(gk1, 34, #[.iface 115 (.pointer (some ⟨m, 0, none⟩)), .pointer (some ⟨r, 0, none⟩)]), (gk3, 54, Stp.cells ⟨k, d⟩)], w.heap.size ≤ y.1) := Fq.lowNo HF.out
   have HF : Hid (Fq (fun k => I k ∨ Jx r g LV k) w (wk36) [(gk1, 34, #[.iface 115 (.pointer (some ⟨m, 0, none⟩)), .pointer (some ⟨r, 0, none⟩)]), (gk3, 54, Stp.cells ⟨k, d⟩)]) := Fq.any' HF.out hk2 (fun y hy e => by have := HLo.out y hy; have := hIw _ e; omega) (fun _ e => e.elim) (fun k _ e => .inl e)
   clear ho hT hW2 hR2 hk2
   refine ⟨.slice la n lc, rfl, ?_⟩
   try simp only [pS]
   refine uK (.slice la n lc) <| WL.nil <| ?_
   try simp only [pS]
   go_upto_region 5 with fail
   refine WL.start <| uK (.slice la n lc) <| uK (.pointer (some ⟨gk1, 1, none⟩)) <| uL 32 ⟨gk1, 1, none⟩ (.pointer (some ⟨r, 0, none⟩)) (load_one ((HF.out.box 0 _ _ _ rfl).cell 1 |>.trans (by kernel_rfl)) U32 V32) <| ?_
   try simp only [pS]
   refine uC 32 #[.pointer (some ⟨r, 0, none⟩)] (refBegin HW2.out (HR2.out No _ (Kept.refl No _) (fun k e => e.elim))) ?_
   rintro e wk37 ⟨t, l, LV', x', rfl, hRd, hl, hW3, hR3, hLk, hkJ, hJ'⟩
   have hsJ : w.heap.size ≤ wk36.heap.size := HF.out.kept.size
   have HT : Hid (TlM wk37 wk4.heap.size la n lc (begP s)) := HT.out.kept hkJ (fun k e f => by have := hJw k f; omega)
   have HF : Hid (Fq (fun k => I k ∨ Jx r g LV k) w (wk37) [(gk1, 34, #[.iface 115 (.pointer (some ⟨m, 0, none⟩)), .pointer (some ⟨r, 0, none⟩)]), (gk3, 54, Stp.cells ⟨k, d⟩)]) := Fq.any' HF.out hkJ (fun y hy e => by have := HLo.out y hy; have := hJw _ e; omega) (fun _ e => e) (fun k _ e => .inr e)
   have HRd : Hid (RdM wk37 t l) := hRd
   have HW3 : Hid (Wq w0 wk37 I' m r g LV' (begP s).1 x') := hW3
   have HR3 : Hid (RelW H wk37 I' (Jx r g LV') (begP s).1 x') := hR3
   have HLk : Hid (LikeT (Bw H wk37 I' (Jx r g LV')) x' (begP s) l) := hLk
   clear hRd hW3 hR3 hLk hkJ
   refine ⟨t.v, rfl, ?_⟩
   try simp only [pS]
   refine uC 31 #[.slice la n lc, t.v] (sameT HT.out HRd.out HLk.out hl) ?_
   rintro e wk38 ⟨rfl, hk⟩
   have HW3 : Hid (Wq w0 (wk38) I' m r g LV' (begP s).1 x') := HW3.out.no hk
   have HR3 : Hid (RelW H (wk38) I' (Jx r g LV') (begP s).1 x') := HR3.out.no hk
   have HF : Hid (Fq (fun k => I k ∨ Jx r g LV k) w (wk38) [(gk1, 34, #[.iface 115 (.pointer (some ⟨m, 0, none⟩)), .pointer (some ⟨r, 0, none⟩)]), (gk3, 54, Stp.cells ⟨k, d⟩)]) := HF.out.no hk
   clear hk
   refine ⟨.bool true, rfl, ?_⟩
   try simp only [pS]
   refine uK (.bool true) <| WL.nil <| ?_
   try simp only [pS]
   go_upto_region 17 with fail
   refine WL.start <| uK (.bool true) <| uK (.bool true) <| uL 34 ⟨gk1, 0, none⟩ (.agg #[.iface 115 (.pointer (some ⟨m, 0, none⟩)), .pointer (some ⟨r, 0, none⟩)]) (run_load_part (cs := [.iface 115 (.pointer (some ⟨m, 0, none⟩)), .pointer (some ⟨r, 0, none⟩)]) (sub := [.iface 115 (.pointer (some ⟨m, 0, none⟩)), .pointer (some ⟨r, 0, none⟩)]) (HF.out.box 0 _ _ _ rfl) (Part.all _) U34 rfl S34) <| ?_
   try simp only [pS]
   refine uC 11 #[.agg #[.iface 115 (.pointer (some ⟨m, 0, none⟩)), .pointer (some ⟨r, 0, none⟩)]] (look_any w0 I' m r g LV' (begP s).1 x' wk38 HW3.out HR3.out) ?_
   rintro e wk39 ⟨rfl, hk⟩
   have HW3 : Hid (Wq w0 (wk39) I' m r g LV' (begP s).1 x') := HW3.out.no hk
   have HR3 : Hid (RelW H (wk39) I' (Jx r g LV') (begP s).1 x') := HR3.out.no hk
   have HF : Hid (Fq (fun k => I k ∨ Jx r g LV k) w (wk39) [(gk1, 34, #[.iface 115 (.pointer (some ⟨m, 0, none⟩)), .pointer (some ⟨r, 0, none⟩)]), (gk3, 54, Stp.cells ⟨k, d⟩)]) := HF.out.no hk
   clear hk
   refine ⟨.bool true, rfl, ?_⟩
   try simp only [pS]
   refine uK (.bool true) <| uK (.bool true) <| WL.nil <| ?_
   try simp only [pS]
   go_wp2
   rw [HC.out]
   exact ⟨I', LV', _, x', rfl, HW3.out, HR3.out, HF.out.kept, fun k e => by
     rcases e with e | e
     · exact (hI2 k e).elim (fun f => .inl (.inl f)) (fun f => .inr (by omega))
     · exact (hJ' k e).elim (fun f => .inl (.inr f)) (fun f => .inr (by omega))⟩

end Go.Proofs.Ytgiokkcdgoloaaa.Md
