import Derived.Test.YtphiokehcgbldaaQh
namespace Go.Proofs.Ytphiokehcgbldaa
open Go.RowKit Go.Shelf
set_option linter.unusedVariables false
set_option linter.unusedSimpArgs false

attribute [local go_sem] Oper.semAt_some
theorem results_c1 {fn : Func} {p : Tmp} {t : TypeId} (h : fn.results = #[.cell p t]) (tmps : Array Value) (w : World) (g : Nat) (v : Value) (hp : tmps.getD p undef = .pointer (some ⟨g, 0, none⟩)) (hrun : (loadVar t ⟨g, 0, none⟩).run Try.prog w = .ok v w) :
    (results fn tmps).run Try.prog w = .ok v w := by
  have hp' : tmps[p]?.getD undef = .pointer (some ⟨g, 0, none⟩) := by simpa using hp
  simp [results, h, hp', asAddr, hrun]
/-- What under holds. -/
structure UnI (w0 w W : World) (n r : Nat) (s : Ns) (ys : List Tp) (ss : List Ad) (la : Option Addr) (lc : Nat) (sa : Option Addr) (sc bW bR bN : Nat) (pre : List Tp) : Prop where
  bn : Box W bN 3 #[.int .i64 (pre.length : Nat)]
  bw : Box W bW 31 #[.pointer (some ⟨n, 0, none⟩), .pointer (some ⟨r, 0, none⟩)]
  br : Box W bR 4 #[.bool false]
  rf : RfM W r ys ss la lc sa sc w0.heap.size
  kept : Kept No w W
section
variable {w0 w W W' : World} {n r : Nat} {s : Ns} {ys : List Tp} {ss : List Ad} {la sa : Option Addr} {lc sc bW bR bN : Nat} {pre : List Tp} {S : Nat → Prop}
theorem UnI.off (h : UnI w0 w W n r s ys ss la lc sa sc bW bR bN pre) (hk : Kept S W W') (hS : ∀ k, S k → k ≠ bN ∧ k ≠ bW ∧ k ≠ bR ∧ ¬ RfB r la sa k ∧ w.heap.size ≤ k) : UnI w0 w W' n r s ys ss la lc sa sc bW bR bN pre :=
  ⟨h.bn.kept hk (fun e => (hS _ e).1 rfl), h.bw.kept hk (fun e => (hS _ e).2.1 rfl), h.br.kept hk (fun e => (hS _ e).2.2.1 rfl), h.rf.kept hk (fun k e f => (hS k f).2.2.2.1 e), h.kept.trans hk (fun _ e => e) (fun i hi e => by have := (hS i e).2.2.2.2; omega)⟩
end
set_option maxRecDepth 100000 in
set_option maxHeartbeats 4000000 in
theorem wunder_any {X : Nat → Prop} {w0 : World} {n r : Nat} {s : Ns} {ys : List Tp} {ss : List Ad} (w : World) (h : Wd w0 w n r s ys ss X) (hc : s.came < 1000000000) :
    Calls Try.prog 10 #[.agg #[.pointer (some ⟨n, 0, none⟩), .pointer (some ⟨r, 0, none⟩)]] w (fun e w' => e = .returned (.bool true) ∧ Kept No w w') := by
  obtain ⟨C, hC⟩ : ∃ C : Ending → World → Prop, C = (fun e w' => e = .returned (.bool true) ∧ Kept No w w') := ⟨_, rfl⟩
  have HC : Hid (C = (fun e w' => e = .returned (.bool true) ∧ Kept No w w')) := hC
  rw [← hC]
  clear hC
  obtain ⟨I, la, lc, sa, sc, hN, hR, hIX, hBX⟩ := h.net
  have HH : Hid (Wd w0 w n r s ys ss X) := h
  have HN : Hid (NetM w n s I ∧ RfM w r ys ss la lc sa sc w0.heap.size) := ⟨hN, hR⟩
  have hyl : ys.length ≤ 1000000000 := by have := h.len; omega
  have hLy : s.L.length = ys.length := by rw [← h.eq, List.length_map]
  clear h hN hR hIX hBX
  refine (callsIn_wide (n := 3)).1 ?_
  refine callsIn_of_wp_marks Try.func10 rfl trivial ?_ rfl
  refine wpIn_wide.2 ?_
  simp only [Try.ntmps10, List.size_toArray, List.length_cons, List.length_nil, Nat.reduceAdd, Nat.reduceSub, Array.replicate_succ, Array.replicate_zero, List.push_toArray, List.append_toArray, List.nil_append, List.cons_append]
  go_upto_region 1 with fail
  have h2 := two w 31 4 #[.pointer (some ⟨n, 0, none⟩), .pointer (some ⟨r, 0, none⟩)] #[.bool false]
  obtain ⟨bW, hbW⟩ : ∃ b, b = w.heap.size := ⟨_, rfl⟩
  obtain ⟨bR, hbR⟩ : ∃ b, b = w.heap.size + 1 := ⟨_, rfl⟩
  rw [← hbR, ← hbW] at h2
  rw [← hbR, ← hbW]
  generalize (w.alloc (.cells #[.pointer (some ⟨n, 0, none⟩), .pointer (some ⟨r, 0, none⟩)] 31)).alloc (.cells #[.bool false] 4) = w1 at h2 ⊢
  have HB1 : Hid (Box w1 bW 31 #[.pointer (some ⟨n, 0, none⟩), .pointer (some ⟨r, 0, none⟩)] ∧ Box w1 bR 4 #[.bool false] ∧ Kept No w w1 ∧ bW = w.heap.size ∧ bR = w.heap.size + 1) := ⟨h2.1, h2.2.1, h2.2.2, hbW, hbR⟩
  clear h2 hbW hbR
  have v0 : w1.cell? ⟨bW, 0, none⟩ = some (.pointer (some ⟨n, 0, none⟩)) := HB1.out.1.cell 0
  go_wp2_with (go_at_call 21; refine (under_any (s := s) (I := I) _ (HN.out.1.no HB1.out.2.2.1) (by omega)).mono ?_; intro e w2 hu; obtain ⟨lb, ra, rc, P, rfl, hsq, hof, hk⟩ := hu.use HN.out.1 HB1.out.2.2.1; have HU : Hid (SeqN w2 lb ra rc s.L P s.L ∧ (∀ k, SqB lb ra s.L k → (k < w.heap.size ∨ w1.heap.size ≤ k) ∧ k < w2.heap.size) ∧ Kept No w1 w2) := ⟨hsq, fun k e => ⟨hof k e, hsq.lt e⟩, hk⟩; have heq := eqFn lb w2; clear hsq hof hk hu)
  refine (wpIn_wide (n := 3)).1 ?_
  clear heq v0
  obtain ⟨w3, hw3⟩ : ∃ w3, w3 = w2.alloc (.cells #[.int .i64 0] 3) := ⟨_, rfl⟩
  obtain ⟨bN, hbN⟩ : ∃ b, b = w2.heap.size := ⟨_, rfl⟩
  rw [← hw3, ← hbN]
  have H3 : Hid (Box w3 bN 3 #[.int .i64 0] ∧ Kept No w2 w3 ∧ bN = w2.heap.size ∧ w2.heap.size < w3.heap.size) := by
    rw [hw3, hbN]; exact ⟨Box.new _ _ _, (Kept.refl No w2).alloc _, rfl, by simp⟩
  clear hw3 hbN
  have hk13 := HU.out.2.2.then H3.out.2.1
  have hk3 := HB1.out.2.2.1.then hk13
  have HI0 : Hid (UnI w0 w w3 n r s ys ss la lc sa sc bW bR bN []) := ⟨H3.out.1, HB1.out.1.kept hk13 (fun e => e), HB1.out.2.1.kept hk13 (fun e => e), HN.out.2.no hk3, hk3⟩
  have s01 := HB1.out.2.2.1.size
  have s12 := HU.out.2.2.size
  have hrl : ∀ k, RfB r la sa k → k < w.heap.size := fun k e => HN.out.2.lt e
  have hbv : w.heap.size ≤ bW ∧ w.heap.size ≤ bR ∧ bW < w1.heap.size ∧ bR < w1.heap.size ∧ bW < bR := by have h := HB1.out.2.2.2; have h1 := HB1.out.1.lt; have h2 := HB1.out.2.1.lt; omega
  have hb3 : w2.heap.size ≤ bN ∧ bN ≤ w2.heap.size ∧ w2.heap.size < w3.heap.size := by have h := H3.out.2.2; omega
  have hR1 := HB1.out.2.1.lt
  refine' rf_net (by omega) (lb := lb) rfl (HU.out.1.no H3.out.2.1) (by omega) HH.out.zs (fun pre W => UnI w0 w W n r s ys ss la lc sa sc bW bR bN pre) (fun _ _ _ => False) HI0.out ?hI (fun _ _ _ _ h _ => h) ?round ?done ?stop
  case hI =>
    intro xs W W' hi hk
    refine hi.off hk (fun k e => ?_)
    have e : k = w3.heap.size ∨ k = w3.heap.size + 1 := e
    refine ⟨by omega, by omega, by omega, fun f => by have := hrl k f; omega, by omega⟩
  case stop => exact fun _ _ _ h => h.elim
  case round =>
    intro pre x W0 W1 hi hk01 hO hp hl0 hsq hlo
    obtain ⟨y, hy, hyq⟩ : ∃ y, ys[pre.length]? = some y ∧ y.q = x.q := by
      have h1 := hp
      rw [← HH.out.eq, List.getElem?_map] at h1
      cases hy : ys[pre.length]? with
      | none => rw [hy] at h1; cases h1
      | some y => rw [hy] at h1; exact ⟨y, rfl, by simpa using h1⟩
    have hpl : pre.length < ys.length := (List.getElem?_eq_some_iff.1 hy).1
    have HD : Hid (Bytes w0 y.a y.q.zs ∧ y.q.zs.length ≤ 140737488351232 ∧ ys[pre.length]? = some y ∧ y.q = x.q) := ⟨(HH.out.dat y (List.mem_of_getElem? hy)).1, (HH.out.dat y (List.mem_of_getElem? hy)).2, hy, hyq⟩
    have HI1 : Hid (UnI w0 w W1 n r s ys ss la lc sa sc bW bR bN pre) := hi.off hk01 (fun k e => e.elim)
    have HO : Hid (OwnB W1 W0.heap.size x.a x.c x.q.zs) := hO
    have hl1 : w3.heap.size + 1 < W1.heap.size := Nat.lt_of_lt_of_le hl0 hk01.size
    have hs03 := HI0.out.bn.lt
    have HL0 : Hid (w3.heap.size + 1 < W0.heap.size) := hl0
    clear hi hk01 hO hp hl0 hsq hlo hy hyq
    simp only [tdV]
    gi_wp2
    refine ⟨(Kept.refl _ W1).alloc _, fun Wb hkb hlo' => ?_⟩
    have hkA : Kept No W1 (W1.alloc (.cells #[.bool x.q.nm.1.1, .int .i64 x.q.nm.1.2, .int .i64 x.q.nm.2, .bool x.q.to'.1, .int .i64 x.q.to'.2, .slice x.a x.q.zs.length x.c] 44)) := (Kept.refl No W1).alloc _
    have hoff : ∀ k, Only (w3.heap.size + 1) k → k ≠ bN ∧ k ≠ bW ∧ k ≠ bR ∧ ¬ RfB r la sa k ∧ w.heap.size ≤ k := fun k e => by
      have e : k = w3.heap.size + 1 := e
      exact ⟨by omega, by omega, by omega, fun f => by have := hrl k f; omega, by omega⟩
    have HIb : Hid (UnI w0 w Wb n r s ys ss la lc sa sc bW bR bN pre ∧ Box Wb W1.heap.size 44 #[.bool x.q.nm.1.1, .int .i64 x.q.nm.1.2, .int .i64 x.q.nm.2, .bool x.q.to'.1, .int .i64 x.q.to'.2, .slice x.a x.q.zs.length x.c] ∧ OwnB Wb W0.heap.size x.a x.c x.q.zs) :=
      ⟨(HI1.out.off hkA (fun k e => e.elim)).off hkb hoff, (Box.new W1 44 _).kept hkb (fun e => by have e : W1.heap.size = w3.heap.size + 1 := e; omega), (Own.no HO.out hkA).kept hkb (fun k e f => by have f : k = w3.heap.size + 1 := f; have := Own.base HO.out e; have := HL0.out; omega)⟩
    clear HI1 HO hkb hlo' hkA hoff
    obtain ⟨pg, CS, ela, hbg, hpart⟩ := own_box HIb.out.1.rf.row HD.out.2.2.1
    subst ela
    have HG : Hid (Box Wb pg 44 CS.toArray ∧ Wa.Part CS (pre.length * 6) (pkL y)) := ⟨hbg, hpart⟩
    clear hbg hpart
    refine wpIn_block (wpIn_seq (wpIn_seq ?_))
    refine u7 _ bW bN W1.heap.size r n pg pre.length ys.length lc CS y x.q.nm.1.1 x.q.to'.1 x.q.nm.1.2 x.q.nm.2 x.q.to'.2 x.a x.q.zs.length x.c (.slice sa ss.length sc) Wb _ _ _ rfl rfl rfl rfl HIb.out.1.bn HIb.out.1.bw HIb.out.1.rf.box HIb.out.2.1 HG.out.1 hpl HG.out.2 (fun W hk => ?_) ?_
    · have hq := HD.out.2.2.2
      have hz : x.q.zs.length ≤ 140737488355328 := by rw [← hq]; have := HD.out.2.1; omega
      refine (same_pk x.q.nm.1 y.q.nm.1 x.q.to' y.q.to' x.q.nm.2 y.q.nm.2 x.a y.a x.c y.c x.q.zs y.q.zs W hz (by rw [hq]; exact hz) (OwnB.bytes (Own.no HIb.out.2.2 hk)) (HD.out.1.no ((HH.out.kept.then HIb.out.1.kept).then hk))).mono ?_
      rintro e w' ⟨rfl, hk'⟩
      refine ⟨?_, hk'⟩
      rw [hq]
      simp [eqB_refl]
    · intro wo hko
      simp only [Wa.pA, Wa.pB, Wa.p1, Wa.p2, Wa.p3]
      have HIo : Hid (UnI w0 w wo n r s ys ss (some ⟨pg, 0, none⟩) lc sa sc bW bR bN pre ∧ Kept No Wb wo) := ⟨HIb.out.1.off hko (fun k e => e.elim), hko⟩
      have e1 : wo.cell? ⟨bN, 0, none⟩ = some (.int .i64 (pre.length : Nat)) := HIo.out.1.bn.cell 0
      have f1 := HIo.out.1.bn.frozen 0
      clear hko HIb HG
      gi_wp2
      have hne : ∀ k, k = bN → ¬ (SqB lb ra s.L k ∨ Bk2 w3.heap.size k) := fun k e f => by
        rcases f with f | f
        · have := HU.out.2.1 k f; omega
        · have f : k = w3.heap.size ∨ k = w3.heap.size + 1 := f; omega
      have hks : Kept (Only bN) wo (wo.setCell ⟨bN, 0, none⟩ (.int .i64 ((pre.length : Int) + 1))) := (Kept.refl (Only bN) wo).setCell (p := ⟨bN, 0, none⟩) (fun _ => rfl) _
      have hbx := HIo.out.1.bn.set 0 (.int .i64 ((pre.length : Int) + 1))
      refine ⟨HIo.out.2.of_no.then (hks.mono (fun k _ e => hne k e)), ?_, HIo.out.1.bw.kept hks (fun e => by have e : bW = bN := e; omega), HIo.out.1.br.kept hks (fun e => by have e : bR = bN := e; omega), HIo.out.1.rf.kept hks (fun k e f => by have f : k = bN := f; have := hrl k e; omega), HIo.out.1.kept.trans hks (fun _ e => e) (fun i hi e => by have e : i = bN := e; omega)⟩
      simpa using hbx
  case done =>
    intro xs W hxs hi hD
    have hl : xs.length = ys.length := by rw [← hLy, ← hxs, List.length_map]
    have HW : Hid (UnI w0 w W n r s ys ss la lc sa sc bW bR bN xs ∧ Box W bN 3 #[.int .i64 (ys.length : Nat)] ∧ W.heap[w3.heap.size]? = some (.deferred (some []))) := ⟨hi, by have := hi.bn; rw [hl] at this; exact this, hD⟩
    clear hi hD hxs hl
    go_upto_region 10 with fail
    refine u10 _ bW bN bR r n ys.length lc la (.slice sa ss.length sc) false W _ rfl rfl rfl rfl HW.out.2.1 HW.out.1.bw HW.out.1.rf.box HW.out.1.br ?_
    intro wo hBo hko
    have HO : Hid (Box wo bR 4 #[.bool true] ∧ Kept (Only bR) W wo) := ⟨hBo, hko⟩
    clear hBo hko
    simp only [Wa.pA, Wa.pB, Wa.p1, Wa.p2, Wa.p3]
    go_wp2
    rw [HC.out]
    have hlW : w3.heap.size < W.heap.size := (Array.getElem?_eq_some_iff.1 HW.out.2.2).1
    have hD : wo.heap[w3.heap.size]? = some (.deferred (some [])) := (HO.out.2.block _ hlW (fun e => by have e : w3.heap.size = bR := e; omega)).trans HW.out.2.2
    have hkp : Kept (Only w3.heap.size) wo (wo.putObj w3.heap.size (.deferred none)) := kept_put (Kept.refl _ wo) (.inl rfl)
    refine ⟨by simp, .inl ⟨_, _, rfl, run_takeDeferred hD, ?_⟩⟩
    refine ⟨.bool true, results_c1 (fn := Try.f10) rfl _ _ bR (.bool true) rfl (Wa.load_one ((HO.out.1.kept hkp (fun e => by have e : bR = w3.heap.size := e; omega)).cell 0) Try.underlying4 rfl), rfl, ?_⟩
    refine (HW.out.1.kept.trans HO.out.2 (fun _ e => e) (fun i hi e => by have e : i = bR := e; omega)).trans hkp (fun _ e => e) (fun i hi e => by have e : i = w3.heap.size := e; omega)
end Go.Proofs.Ytphiokehcgbldaa
