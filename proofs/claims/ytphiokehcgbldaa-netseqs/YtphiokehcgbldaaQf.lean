import Derived.Test.YtphiokehcgbldaaQe
namespace Go.Proofs.Ytphiokehcgbldaa
open Go.RowKit Go.Shelf
set_option linter.unusedVariables false
set_option linter.unusedSimpArgs false

/-- The program's net and the reference's side by side: all their blocks within X. -/
structure Wd (w0 w : World) (n r : Nat) (s : Ns) (ys : List Tp) (ss : List Ad) (X : Nat → Prop) : Prop where
  net : ∃ I la lc sa sc, NetM w n s I ∧ RfM w r ys ss la lc sa sc w0.heap.size ∧ (∀ k, I k → X k) ∧ ∀ k, RfB r la sa k → X k ∧ ¬ I k
  eq : ys.map Tp.q = s.L
  snt : ∀ f, s.sent f = ss.count f
  dat : ∀ y ∈ ys, Bytes w0 y.a y.q.zs ∧ y.q.zs.length ≤ 140737488351232
  kept : Kept No w0 w
  low : ∀ k, X k → w0.heap.size ≤ k
section
variable {S X X' : Nat → Prop} {w0 w w' : World} {n r : Nat} {s : Ns} {ys : List Tp} {ss : List Ad}
theorem Wd.kept' (h : Wd w0 w n r s ys ss X) (hk : Kept S w w') (hS : ∀ k, X k → k < w.heap.size → ¬ S k ∧ X' k) (hS0 : ∀ k, k < w0.heap.size → ¬ S k) (hX : ∀ k, X' k → w0.heap.size ≤ k) : Wd w0 w' n r s ys ss X' := by
  obtain ⟨I, la, lc, sa, sc, hN, hR, hI, hB⟩ := h.net
  refine ⟨⟨fun k => I k ∧ k < w.heap.size, la, lc, sa, sc, hN.kept hk (fun k e l => ⟨(hS k (hI k e) l).1, e, l⟩), hR.kept hk (fun k e => (hS k (hB k e).1 (hR.lt e)).1), fun k e => (hS k (hI k e.1) e.2).2, fun k e => ⟨(hS k (hB k e).1 (hR.lt e)).2, fun f => (hB k e).2 f.1⟩⟩, h.eq, h.snt, h.dat, h.kept.trans hk (fun _ e => e) (fun i hi e => (hS0 i hi e).elim), hX⟩
theorem Wd.no (h : Wd w0 w n r s ys ss X) (hk : Kept No w w') : Wd w0 w' n r s ys ss X := h.kept' hk (fun k e _ => ⟨fun f => f, e⟩) (fun _ _ e => e) h.low
theorem Wd.cut (h : Wd w0 w n r s ys ss X) : Wd w0 w n r s ys ss (fun k => X k ∧ k < w.heap.size) := h.kept' (Kept.refl No w) (fun k e l => ⟨fun f => f, e, l⟩) (fun _ _ e => e) (fun k e => h.low k e.1)
theorem Wd.ok (h : Wd w0 w n r s ys ss X) : NOk s := by obtain ⟨I, _, _, _, _, hN, _⟩ := h.net; exact hN.ok
theorem Wd.len (h : Wd w0 w n r s ys ss X) : ys.length ≤ s.came + 1 := by
  have := len_came h.ok
  rw [← h.eq, List.length_map] at this
  exact this
theorem Wd.zs (h : Wd w0 w n r s ys ss X) : ∀ q ∈ s.L, q.zs.length ≤ 140737488355328 := fun q hq => by
  rw [← h.eq] at hq
  obtain ⟨y, hy, rfl⟩ := List.mem_map.1 hq
  have := (h.dat y hy).2
  omega
theorem RfM.w5 {lc sc base : Nat} {la sa : Option Addr} (h : RfM w r ys ss la lc sa sc base) {k : Nat} (hk : RfB r la sa k) (hX : X k) : W5 w X k := by
  rcases hk with e | e | e
  · rw [e] at hX ⊢; exact W5.box h.box (by decide) hX
  · refine ⟨hX, fun cs fr f => ?_⟩
    obtain ⟨c, h1⟩ := Gx.own_type h.row e
    rw [h1] at f; simp at f
  · refine ⟨hX, fun cs fr f => ?_⟩
    obtain ⟨c, h1⟩ := Gx.own_type h.snt e
    rw [h1] at f; simp at f
/-- What a step answers. -/
def StO (w0 w : World) (n r : Nat) (s : Ns) (ss : List Ad) (X : Nat → Prop) (d : Nat) (e : Ending) (w' : World) : Prop :=
  e = .returned (.bool true) ∧ ∃ s' ys' ss', Wd w0 w' n r s' ys' ss' (fun k => X k ∨ w.heap.size ≤ k) ∧ Kept (W5 w X) w w' ∧ s'.came ≤ s.came + d ∧ ss'.length ≤ ss.length + d
theorem add_eq {pq : Pq} {y : Tp} (h : ys.map Tp.q = s.L) (hy : y.q = pq) : (rfAdd ys y).map Tp.q = (addS s pq).L := by
  unfold rfAdd addS
  rw [h, hy]
  split
  · exact h
  · rw [List.map_append, h, List.map_singleton, hy]
theorem add_eqS {f : Ad} {pq : Pq} {y : Tp} (h : ys.map Tp.q = s.L) (hy : y.q = pq) : (rfAdd ys y).map Tp.q = (addS (sentS s f) pq).L := add_eq (s := sentS s f) h hy
theorem add_dat {y : Tp} {P : Tp → Prop} (h : ∀ z ∈ ys, P z) (hy : P y) : ∀ z ∈ rfAdd ys y, P z := fun z hz => by
  unfold rfAdd at hz
  split at hz
  · exact h z hz
  · rcases List.mem_append.1 hz with hz | hz
    · exact h z hz
    · rw [List.mem_singleton.1 hz]; exact hy
theorem addS_came (q : Pq) : (addS s q).came ≤ s.came + 1 := by unfold addS; split <;> simp
theorem addS_sent (q : Pq) : (addS s q).sent = s.sent := by unfold addS; split <;> rfl
theorem sent_app (hs : ∀ f, s.sent f = ss.count f) (f g : Ad) : (sentS s f).sent g = (ss ++ [f]).count g := by
  rw [List.count_append, ← hs]
  unfold sentS
  by_cases e : g = f
  · simp [e]
  · have e' : ¬ f = g := fun h => e h.symm
    simp [e, e']
end

set_option maxRecDepth 100000 in
set_option maxHeartbeats 8000000 in
theorem wsend_any {X : Nat → Prop} {w0 : World} {n r : Nat} {s : Ns} {ys : List Tp} {ss : List Ad} (x : St) (w : World) (h : Wd w0 w n r s ys ss X) (hx : StOk w0 x) (hc : s.came < 1000000000) (hsl : ss.length < 1000000000) :
    Calls Try.prog 28 #[.agg #[.pointer (some ⟨n, 0, none⟩), .pointer (some ⟨r, 0, none⟩)], .agg x.cs.toArray] w (StO w0 w n r s ss X 1) := by
  obtain ⟨xk, ⟨fc, fi⟩, ⟨tc, ti⟩, cc, da, dl, dcp, zs⟩ := x
  obtain ⟨I, la, lc, sa, sc, hN, hR, hIX, hBX⟩ := h.cut.net
  have hzl : zs.length = dl := hx.len
  subst hzl
  have HH : Hid (Wd w0 w n r s ys ss X ∧ StOk w0 ⟨xk, (fc, fi), (tc, ti), cc, da, zs.length, dcp, zs⟩) := ⟨h, hx⟩
  have HN : Hid (NetM w n s I ∧ RfM w r ys ss la lc sa sc w0.heap.size ∧ (∀ k, I k → X k ∧ k < w.heap.size) ∧ ∀ k, RfB r la sa k → (X k ∧ k < w.heap.size) ∧ ¬ I k) := ⟨hN, hR, hIX, hBX⟩
  have hzb : zs.length ≤ 140737488351232 := hx.big
  have hyl : ys.length ≤ 1000000000 := by have := h.len; omega
  obtain ⟨sf, hsf⟩ : ∃ sf, s.sent (fc, fi) = sf := ⟨_, rfl⟩
  obtain ⟨cn, hcn⟩ : ∃ cn, cnP s.L ((fc, fi), (tc, ti)) = cn := ⟨_, rfl⟩
  have hsb : sf < 1000000000 := by
    rw [← hsf, h.snt]; exact Nat.lt_of_le_of_lt List.count_le_length hsl
  have HG : Hid (s.sent (fc, fi) = sf ∧ cnP s.L ((fc, fi), (tc, ti)) = cn) := ⟨hsf, hcn⟩
  clear h hx hN hR hIX hBX hsf hcn
  simp only [St.cs]
  go_enter Try.func28, Try.ntmps28
  go_upto_region 1 with fail
  have h2 := two w 31 37 #[.pointer (some ⟨n, 0, none⟩), .pointer (some ⟨r, 0, none⟩)] #[.int .i64 xk, .bool fc, .int .i64 fi, .bool tc, .int .i64 ti, .int .i64 cc, .slice da zs.length dcp]
  obtain ⟨bW, hbW⟩ : ∃ b, b = w.heap.size := ⟨_, rfl⟩
  obtain ⟨bX, hbX⟩ : ∃ b, b = w.heap.size + 1 := ⟨_, rfl⟩
  rw [← hbX, ← hbW] at h2
  rw [← hbX, ← hbW]
  generalize (w.alloc (.cells #[.pointer (some ⟨n, 0, none⟩), .pointer (some ⟨r, 0, none⟩)] 31)).alloc (.cells #[.int .i64 xk, .bool fc, .int .i64 fi, .bool tc, .int .i64 ti, .int .i64 cc, .slice da zs.length dcp] 37) = w1 at h2 ⊢
  have HB1 : Hid (Box w1 bW 31 #[.pointer (some ⟨n, 0, none⟩), .pointer (some ⟨r, 0, none⟩)] ∧ Box w1 bX 37 #[.int .i64 xk, .bool fc, .int .i64 fi, .bool tc, .int .i64 ti, .int .i64 cc, .slice da zs.length dcp] ∧ Kept No w w1 ∧ bW = w.heap.size ∧ bX = w.heap.size + 1) := ⟨h2.1, h2.2.1, h2.2.2, hbW, hbX⟩
  clear h2 hbW hbX
  have x6 : w1.cell? ⟨bX, 6, none⟩ = some (.slice da zs.length dcp) := HB1.out.2.1.cell 6
  have HK01 : Hid (Kept No w0 w1) := HH.out.1.kept.then HB1.out.2.2.1
  go_upto_region 2 with (go_at_call 23; refine (lend_any da dcp zs w1 (by omega) (HH.out.2.nums.no HK01.out)).mono ?_; rintro e w2 ⟨rfl, hb2, hk2⟩; have H2 : Hid (Blk w2 w1.heap.size (lent zs 5) ∧ Kept No w1 w2) := ⟨hb2, hk2⟩; clear hb2 hk2)
  obtain ⟨g, hg⟩ : ∃ g, g = w1.heap.size := ⟨_, rfl⟩
  rw [← hg]
  rw [← hg] at H2
  have HGg : Hid (g = w1.heap.size) := hg
  clear hg x6
  have HB2 : Hid (Box w2 bW 31 #[.pointer (some ⟨n, 0, none⟩), .pointer (some ⟨r, 0, none⟩)] ∧ Box w2 bX 37 #[.int .i64 xk, .bool fc, .int .i64 fi, .bool tc, .int .i64 ti, .int .i64 cc, .slice da zs.length dcp] ∧ Kept No w w2) := ⟨HB1.out.1.kept H2.out.2 (fun e => e), HB1.out.2.1.kept H2.out.2 (fun e => e), HB1.out.2.2.1.then H2.out.2⟩
  have v0 : w2.cell? ⟨bW, 0, none⟩ = some (.pointer (some ⟨n, 0, none⟩)) := HB2.out.1.cell 0
  obtain ⟨x0, x1, x2, x3, x4, x5, x6⟩ := Box.stAt (x := ⟨xk, (fc, fi), (tc, ti), cc, da, zs.length, dcp, zs⟩) HB2.out.2.1
  simp only at x0 x1 x2 x3 x4 x5 x6
  obtain ⟨bb, hbb⟩ : ∃ bb, decide (cn < 64) = bb := ⟨_, rfl⟩
  have HBb : Hid (decide (cn < 64) = bb) := hbb
  clear hbb
  go_upto_region 3 with (go_at_call 13; refine (send_r fc tc fi ti cc (some ⟨g, 0, none⟩) zs.length (zs.length + 5) zs w2 (HN.out.1.no HB2.out.2.2) rfl (by omega) (by have h := H2.out.1.bytes0 zs.length; rw [lent_take] at h; exact h) (fun _ k hk => by obtain ⟨ad, e, e'⟩ := hk; cases e; have e' : g = k := e'; have h1 := HGg.out; have h2 := HB1.out.2.2.1.size; exact ⟨fun f => by have := (HN.out.2.2.1 k f).2; omega, by have := H2.out.1.lt; omega⟩) (by omega) sf cn bb HG.out.1 HG.out.2 HBb.out (by omega)).mono ?_; rintro e w3 ⟨ra, rc, rfl, hk3, hN3⟩; have H3 : Hid (Kept (W5 w2 I) w2 w3 ∧ NetM w3 n (addS (sentS s (fc, fi)) ⟨((fc, fi), ((sf + 1 : Nat) : Int)), (tc, ti), ra, rc, zs, s.came + 1⟩) (fun j => I j ∨ w2.heap.size ≤ j)) := ⟨hk3, hN3⟩; clear hk3 hN3)
  have hoff : ∀ j, w.heap.size ≤ j → ¬ W5 w2 I j := fun j hj e => by have := (HN.out.2.2.1 j e.1).2; omega
  have hs12 := H2.out.2.size
  have hgv := HGg.out
  have hsw1 := HB1.out.2.2.1.size
  have HB3 : Hid (Box w3 bW 31 #[.pointer (some ⟨n, 0, none⟩), .pointer (some ⟨r, 0, none⟩)] ∧ Box w3 bX 37 #[.int .i64 xk, .bool fc, .int .i64 fi, .bool tc, .int .i64 ti, .int .i64 cc, .slice da zs.length dcp] ∧ Kept (W5 w X) w w3 ∧ Blk w3 g (lent zs 5) ∧ RfM w3 r ys ss la lc sa sc w0.heap.size ∧ Kept No w0 w3) := by
    have hkw : Kept (W5 w X) w w3 := W5.trans (I := No) HB2.out.2.2.of_no H3.out.1 (fun _ e => e.elim) (fun i _ e => (HN.out.2.2.1 i e).1)
    refine ⟨HB2.out.1.kept H3.out.1 (hoff _ (by have := HB1.out.2.2.2; omega)), HB2.out.2.1.kept H3.out.1 (hoff _ (by have := HB1.out.2.2.2; omega)), hkw, H2.out.1.kept H3.out.1 (hoff _ (by omega)), (HN.out.2.1.no HB2.out.2.2).kept H3.out.1 (fun k e f => (HN.out.2.2.2 k e).2 f.1), HH.out.1.kept.trans hkw (fun _ e => e) (fun i hi e => by have := HH.out.1.low i e.1; omega)⟩
  clear v0 x0 x1 x2 x3 x4 x5 x6 hoff hs12 hgv hsw1
  have v1 : w3.cell? ⟨bW, 1, none⟩ = some (.pointer (some ⟨r, 0, none⟩)) := HB3.out.1.cell 1
  obtain ⟨x0, x1, x2, x3, x4, x5, x6⟩ := Box.stAt (x := ⟨xk, (fc, fi), (tc, ti), cc, da, zs.length, dcp, zs⟩) HB3.out.2.1
  simp only at x0 x1 x2 x3 x4 x5 x6
  go_upto_region 4 with (go_at_call 41; refine (sendR_any fc tc fi ti cc da zs.length dcp ⟨((fc, fi), ((sf + 1 : Nat) : Int)), (tc, ti), ra, rc, zs, s.came + 1⟩ w3 HB3.out.2.2.2.2.1 (by omega) (by omega) (HB3.out.2.2.2.2.2.size) (sf + 1) cn (by rw [← HH.out.1.snt, HG.out.1]) (by rw [HH.out.1.eq]; exact HG.out.2) rfl rfl rfl).mono ?_; rintro e w4 ⟨la4, lc4, sa4, sc4, rfl, hR4, hk4, hB4⟩; rw [HBb.out]; have H4 : Hid (RfM w4 r (rfAdd ys ⟨⟨((fc, fi), ((sf + 1 : Nat) : Int)), (tc, ti), ra, rc, zs, s.came + 1⟩, da, dcp⟩) (ss ++ [(fc, fi)]) la4 lc4 sa4 sc4 w0.heap.size ∧ Kept (RfB r la sa) w3 w4 ∧ ∀ k, RfB r la4 sa4 k → RfB r la sa k ∨ w3.heap.size ≤ k) := ⟨hR4, hk4, hB4⟩; clear hR4 hk4 hB4)
  have hrl : ∀ k, RfB r la sa k → k < w.heap.size := fun k e => (HN.out.2.2.2 k e).1.2
  have hsw1 := HB1.out.2.2.1.size
  have hgv := HGg.out
  have hs12 := H2.out.2.size
  have hs23 := H3.out.1.size
  have hgl := H2.out.1.lt
  have HB4 : Hid (Box w4 bX 37 #[.int .i64 xk, .bool fc, .int .i64 fi, .bool tc, .int .i64 ti, .int .i64 cc, .slice da zs.length dcp] ∧ Kept (W5 w X) w w4 ∧ Blk w4 g (lent zs 5) ∧ Kept No w0 w4) := by
    have hkw : Kept (W5 w X) w w4 := W5.trans (J := X) HB3.out.2.2.1 (H4.out.2.1.mono (fun k _ e => HB3.out.2.2.2.2.1.w5 e (HN.out.2.2.2 k e).1.1)) (fun _ e => e) (fun _ _ e => e)
    exact ⟨HB3.out.2.1.kept H4.out.2.1 (fun e => by have := hrl _ e; have := HB1.out.2.2.2; omega), hkw, HB3.out.2.2.2.1.kept H4.out.2.1 (fun e => by have := hrl _ e; omega), HH.out.1.kept.trans hkw (fun _ e => e) (fun i hi e => by have := HH.out.1.low i e.1; omega)⟩
  clear v1 x0 x1 x2 x3 x4 x5 x6
  have x6 : w4.cell? ⟨bX, 6, none⟩ = some (.slice da zs.length dcp) := HB4.out.1.cell 6
  clear hgv hsw1 hs12 hs23 hgl hrl
  go_wp2_with (go_at_call 24; refine (back_any g da dcp zs w4 (by omega) HB4.out.2.2.1 (HH.out.2.nums.no HB4.out.2.2.2)).mono ?_; rintro e w5 ⟨rfl, hk5⟩; have H5 : Hid (Kept (Only g) w4 w5) := hk5; clear hk5)
  go_ret
  have hrl : ∀ k, RfB r la sa k → k < w.heap.size := fun k e => (HN.out.2.2.2 k e).1.2
  have hIl : ∀ k, I k → k < w.heap.size := fun k e => (HN.out.2.2.1 k e).2
  have hsw1 := HB1.out.2.2.1.size
  have hgv := HGg.out
  have hs12 := H2.out.2.size
  have hs23 := H3.out.1.size
  have hs34 := H4.out.2.1.size
  have hgl := H2.out.1.lt
  refine ⟨by simp, addS (sentS s (fc, fi)) ⟨((fc, fi), ((sf + 1 : Nat) : Int)), (tc, ti), ra, rc, zs, s.came + 1⟩, rfAdd ys ⟨⟨((fc, fi), ((sf + 1 : Nat) : Int)), (tc, ti), ra, rc, zs, s.came + 1⟩, da, dcp⟩, ss ++ [(fc, fi)], ⟨⟨fun j => (I j ∨ w2.heap.size ≤ j) ∧ j < w3.heap.size, la4, lc4, sa4, sc4, ?_, ?_, ?_, ?_⟩, add_eqS HH.out.1.eq rfl, ?_, add_dat HH.out.1.dat ⟨HH.out.2.nums, hzb⟩, ?_, ?_⟩, ?_, ?_, by rw [List.length_append]; exact Nat.le_refl _⟩
  · refine (H3.out.2.cut.kept H4.out.2.1 (fun k e _ => ⟨fun f => ?_, e⟩)).kept H5.out (fun k e _ => ⟨fun f => ?_, e⟩)
    · rcases e.1 with e | e
      · exact (HN.out.2.2.2 k f).2 e
      · have := hrl k f; omega
    · have f : k = g := f
      rcases e.1 with e | e
      · have := hIl k e; omega
      · omega
  · refine H4.out.1.kept H5.out (fun k e f => ?_)
    have f : k = g := f
    rcases H4.out.2.2 k e with e | e
    · have := hrl k e; omega
    · omega
  · intro k e
    rcases e.1 with e | e
    · exact .inl (HN.out.2.2.1 k e).1
    · exact .inr (by omega)
  · intro k e
    rcases H4.out.2.2 k e with e | e
    · exact ⟨.inl (HN.out.2.2.2 k e).1.1, fun f => by rcases f.1 with f | f; exact (HN.out.2.2.2 k e).2 f; have := hrl k e; omega⟩
    · exact ⟨.inr (by omega), fun f => by have := f.2; omega⟩
  · intro f
    rw [addS_sent]
    exact sent_app HH.out.1.snt (fc, fi) f
  · exact HB4.out.2.2.2.trans H5.out (fun _ e => e) (fun i hi e => by have e : i = g := e; have := HH.out.1.kept.size; omega)
  · intro k e
    rcases e with e | e
    · exact HH.out.1.low k e
    · exact Nat.le_trans HH.out.1.kept.size e
  · exact HB4.out.2.1.trans H5.out (fun _ e => e) (fun i hi e => by have e : i = g := e; omega)
  · exact addS_came (s := sentS s (fc, fi)) _
end Go.Proofs.Ytphiokehcgbldaa
