import Derived.Test.YtphiokehcgbldaaQl
namespace Go.Proofs.Ytphiokehcgbldaa
open Go.RowKit Go.Shelf
set_option linter.unusedVariables false
set_option linter.unusedSimpArgs false

/-- A new pair of nets. -/
theorem wd_new {w0 w1 w2 : World} {n r : Nat} (hN : NetM w1 n ns0 (fun k => k = n)) (hk1 : Kept No w0 w1) (hn : w0.heap.size ≤ n) (hb : Box w2 r 29 #[.slice none 0 0, .slice none 0 0]) (hk2 : Kept No w1 w2) (hr : w1.heap.size ≤ r) : Wd w0 w2 n r ns0 [] [] (fun k => k = n ∨ k = r) := by
  have hnl : n < w1.heap.size := by
    rcases hN with ⟨_, h, _⟩ | ⟨_, _, _, _, h⟩
    · exact h.lt
    · exact h.box.lt
  refine ⟨⟨fun k => k = n, none, 0, none, 0, hN.no hk2, ⟨hb, Own.nil _ _ _ _, Own.nil _ _ _ _, Nat.le_trans hk1.size hr⟩, fun k e => .inl e, fun k e => ?_⟩, rfl, fun f => rfl, fun y hy => by (cases hy), hk1.then hk2, fun k e => ?_⟩
  · rcases e with e | e | e
    · exact ⟨.inr e, fun f => by omega⟩
    · exact (At.none e).elim
    · exact (At.none e).elim
  · have := hk1.size
    rcases e with e | e <;> omega
/-- Behind a step of a script. -/
def PlR (w0 : World) (n r k : Nat) (X : Nat → Prop) (W w' : World) : Prop := ∃ s ys ss, Wd w0 w' n r s ys ss X ∧ s.came ≤ k ∧ ss.length ≤ k
theorem step_p {w0 wr : World} {n r bW D p i : Nat} {s : Ns} {ys : List Tp} {ss : List Ad} {X : Nat → Prop} {x : St} (h : Wd w0 wr n r s ys ss X) (hX : ∀ k, wr.heap.size ≤ k → X k) (hx : StOk w0 x) (hc : s.came ≤ i) (hs : ss.length ≤ i) (hi : i ≤ 800000000) (hB : Box wr bW 31 #[.pointer (some ⟨n, 0, none⟩), .pointer (some ⟨r, 0, none⟩)]) (hbX : ¬ X bW) (hr : w0.rangeAt D p x.cs) (W : World) (hW : W = wr.drew) :
    Calls Try.prog 9 #[.agg #[.pointer (some ⟨n, 0, none⟩), .pointer (some ⟨r, 0, none⟩)], .agg x.cs.toArray] W (fun e w' => e = .returned (.bool true) ∧ (PlR w0 n r (i + 70) X W w' ∧ Kept (W5 W X) W w') ∧ Box w' bW 31 #[.pointer (some ⟨n, 0, none⟩), .pointer (some ⟨r, 0, none⟩)] ∧ w'.rangeAt D p x.cs) := by
  have hk : Kept No wr W := by rw [hW]; exact (Kept.refl No wr).drew
  refine (wstep_any x W (h.no hk) hx (by omega) (by omega)).mono ?_
  rintro e w' ⟨rfl, s', ys', ss', h1, h2, h3, h4⟩
  have hk0 : Kept No w0 w' := h1.kept
  refine ⟨rfl, ⟨⟨s', ys', ss', h1.kept' (Kept.refl No _) (fun k e _ => ⟨fun f => f, e.elim id (fun f => hX k (Nat.le_trans hk.size f))⟩) (fun _ _ e => e) h.low, by omega, by omega⟩, h2⟩, (hB.kept hk (fun e => e)).kept h2 (fun e => hbX e.1), fun j v hv => hk0.cell (hr j v hv) (fun e => e)⟩

set_option maxRecDepth 100000 in
set_option maxHeartbeats 16000000 in
theorem playsWalk (a0 : Option Addr) (m c0 : Nat) (xs : List St) (w0 : World) (hm : xs.length = m) (hml : m ≤ 140737488351232) (hX : Sts w0 a0 xs) (hok : ∀ x ∈ xs, StOk w0 x) :
    Calls Try.prog 3 #[.slice a0 m c0] w0 (fun e w' => e = .returned (.bool true) ∧ Kept No w0 w') := by
  have HM : Hid (xs.length = m) := hm
  have HXs : Hid (Sts w0 a0 xs ∧ ∀ x ∈ xs, StOk w0 x) := ⟨hX, hok⟩
  clear hm hX hok
  go_enter Try.func3, Try.ntmps3
  go_upto_region 2 with (go_at_call 8; refine (new_net w0).mono ?_; rintro e w1 ⟨rfl, hN, hk⟩; have H1 : Hid (NetM w1 w0.heap.size ns0 (fun k => k = w0.heap.size) ∧ Kept No w0 w1) := ⟨hN, hk⟩; clear hN hk)
  obtain ⟨n, hn⟩ : ∃ n, n = w0.heap.size := ⟨_, rfl⟩
  obtain ⟨r, hr⟩ : ∃ r, r = w1.heap.size := ⟨_, rfl⟩
  obtain ⟨bW, hbW⟩ : ∃ b, b = w1.heap.size + 1 := ⟨_, rfl⟩
  rw [← hbW, ← hr, ← hn]
  obtain ⟨w3, hw3⟩ : ∃ w3, w3 = (w1.alloc (.cells #[.slice none 0 0, .slice none 0 0] 29)).alloc (.cells #[.pointer (some ⟨n, 0, none⟩), .pointer (some ⟨r, 0, none⟩)] 31) := ⟨_, rfl⟩
  rw [← hw3]
  have H3 : Hid (Wd w0 w3 n r ns0 [] [] (fun k => k = n ∨ k = r) ∧ Box w3 bW 31 #[.pointer (some ⟨n, 0, none⟩), .pointer (some ⟨r, 0, none⟩)] ∧ bW ≠ n ∧ bW ≠ r ∧ bW < w3.heap.size) := by
    have h2 := two w1 29 31 #[.slice none 0 0, .slice none 0 0] #[.pointer (some ⟨n, 0, none⟩), .pointer (some ⟨r, 0, none⟩)]
    rw [← hbW, ← hr, ← hw3] at h2
    have hs := H1.out.2.size
    refine ⟨wd_new (by rw [hn]; exact H1.out.1) H1.out.2 (by omega) h2.1 h2.2.2 (by omega), h2.2.1, ?_, by omega, h2.2.1.lt⟩
    intro e
    have : n < w1.heap.size := by
      rw [hn]
      rcases H1.out.1 with ⟨_, h, _⟩ | ⟨_, _, _, _, h⟩
      · exact h.lt
      · exact h.box.lt
    omega
  clear hw3 hbW hr hn H1
  have v0 : w3.cell? ⟨bW, 0, none⟩ = some (.pointer (some ⟨n, 0, none⟩)) := H3.out.2.1.cell 0
  go_wp2
  clear v0
  go_loopw [4] (fun iv wr => ∃ (i : Nat) (s : Ns) (ys : List Tp) (ss : List Ad), i ≤ m ∧ i ≤ 300 ∧ iv = .int .i64 (i : Int) ∧ Hid (Wd w0 wr n r s ys ss (fun k => (k = n ∨ k = r) ∨ w3.heap.size ≤ k) ∧ Box wr bW 31 #[.pointer (some ⟨n, 0, none⟩), .pointer (some ⟨r, 0, none⟩)] ∧ s.came ≤ 70 * i ∧ ss.length ≤ 70 * i ∧ w3.heap.size ≤ wr.heap.size)) (fun iv _ => m - (intOf iv).toNat)
  case atStart =>
    refine ⟨0, ns0, [], [], by omega, by omega, rfl, H3.out.1.kept' (Kept.refl No _) (fun k e _ => ⟨fun f => f, .inl e⟩) (fun _ _ e => e) (fun k e => ?_), H3.out.2.1, Nat.le_refl _, Nat.le_refl _, Nat.le_refl _⟩
    rcases e with e | e
    · exact H3.out.1.low k e
    · exact Nat.le_trans H3.out.1.kept.size e
  case round =>
    obtain ⟨i, s, ys, ss, him, hi3, rfl, HI⟩ := hrel
    by_cases hlt : i < m ∧ i < 300
    · obtain ⟨x, hx⟩ : ∃ x, xs[i]? = some x := ⟨_, List.getElem?_eq_getElem (by rw [HM.out]; exact hlt.1)⟩
      have h1 : (i : Int) < (m : Int) := by omega
      have h2 : (i : Int) < 300 := by omega
      obtain ⟨D, off, rfl, hc⟩ := HXs.out.1 i x hx
      have HXk : Hid (StOk w0 x ∧ w0.rangeAt D (off + i * 7) x.cs) := ⟨HXs.out.2 x (List.mem_of_getElem? hx), hc⟩
      have him' : i < m := hlt.1
      clear hc hx hlt
      go_upto_region 7 with fail
      refine p7 _ bW n r D off m c0 i x (fun W w' => PlR w0 n r (70 * i + 70) (fun k => (k = n ∨ k = r) ∨ w3.heap.size ≤ k) W w' ∧ Kept (W5 W (fun k => (k = n ∨ k = r) ∨ w3.heap.size ≤ k)) W w') wr _ rfl rfl rfl rfl HI.out.2.1 (fun j v hv => HI.out.1.kept.cell (HXk.out.2 j v hv) (fun e => e)) him' (step_p HI.out.1 (fun k e => .inr (Nat.le_trans HI.out.2.2.2.2 e)) HXk.out.1 HI.out.2.2.1 HI.out.2.2.2.1 (by omega) HI.out.2.1 (fun e => by have := H3.out.2.2; rcases e with e | e; omega; omega) HXk.out.2) ?_
      intro wo hR
      have HR : Hid (PlR w0 n r (70 * i + 70) (fun k => (k = n ∨ k = r) ∨ w3.heap.size ≤ k) wr.drew wo ∧ Box wo bW 31 #[.pointer (some ⟨n, 0, none⟩), .pointer (some ⟨r, 0, none⟩)] ∧ w3.heap.size ≤ wo.heap.size) := ⟨hR.1, (HI.out.2.1.kept (Kept.refl No wr).drew (fun e => e)).kept hR.2 (fun e => by have := H3.out.2.2; rcases e.1 with e | e; omega; omega), Nat.le_trans HI.out.2.2.2.2 (Nat.le_trans ((Kept.refl No wr).drew).size hR.2.size)⟩
      clear hR
      simp only [Wa.pA, Wa.pB, Wa.p1, Wa.p2, Wa.p3]
      go_wp2
      go_roundw
      case rel =>
        obtain ⟨s', ys', ss', g1, g2, g3⟩ := HR.out.1
        exact ⟨i + 1, s', ys', ss', by omega, by omega, by go_num, g1, HR.out.2.1, by omega, by omega, HR.out.2.2⟩
      case measure => simp [intOf]; omega
    · have v0 : wr.cell? ⟨bW, 0, none⟩ = some (.pointer (some ⟨n, 0, none⟩)) := HI.out.2.1.cell 0
      have v1 : wr.cell? ⟨bW, 1, none⟩ = some (.pointer (some ⟨r, 0, none⟩)) := HI.out.2.1.cell 1
      have hcb : s.came < 1000000000 := by have := HI.out.2.2.1; omega
      by_cases h1 : i < m
      · have h1' : (i : Int) < (m : Int) := by omega
        have h2' : ¬ (i : Int) < 300 := by omega
        clear hlt
        go_wp2_with (first
          | (go_at_call 10; refine (wunder_any _ HI.out.1 hcb).mono ?_; rintro e wn ⟨rfl, hkn⟩; have HK2 : Hid (Kept No w0 wn) := HI.out.1.kept.then hkn; clear hkn)
          | (go_at_call 11; refine (head_any wn).mono ?_; rintro e wh ⟨rfl, hkh⟩; have HK3 : Hid (Kept No w0 wh) := HK2.out.then hkh; clear hkh))
        go_ret
        exact ⟨rfl, HK3.out⟩
      · have h1' : ¬ (i : Int) < (m : Int) := by omega
        clear hlt
        go_wp2_with (first
          | (go_at_call 10; refine (wunder_any _ HI.out.1 hcb).mono ?_; rintro e wn ⟨rfl, hkn⟩; have HK2 : Hid (Kept No w0 wn) := HI.out.1.kept.then hkn; clear hkn)
          | (go_at_call 11; refine (head_any wn).mono ?_; rintro e wh ⟨rfl, hkh⟩; have HK3 : Hid (Kept No w0 wh) := HK2.out.then hkh; clear hkh))
        go_ret
        exact ⟨rfl, HK3.out⟩
end Go.Proofs.Ytphiokehcgbldaa
