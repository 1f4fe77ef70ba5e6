import Derived.Test.YtphiokehcgbldaaNi
namespace Go.Proofs.Ytphiokehcgbldaa
open Go.RowKit
set_option linter.unusedVariables false
set_option linter.unusedSimpArgs false

theorem NetM.pair {w : World} {n : Nat} {s : Ns} {I : Nat → Prop} (h : NetM w n s I) : ∃ m0 mv m2 m3, Box w n 69 #[m0, mv, m2, m3] ∧ ∀ p, LkV mkP w mv p (gP s.L p) := by
  rcases h with ⟨h1, h2, h3⟩ | ⟨b1, b2, b3, P, h⟩
  · exact ⟨_, _, _, _, h2, fun p => .inl ⟨rfl, by rw [h1]; rfl⟩⟩
  · exact ⟨_, _, _, _, h.box, fun p => .inr ⟨b2, _, rfl, h.m2, rfl⟩⟩
theorem wp_clear {ops : Array Oper} {rest : List Oper} {o : Oper} {a : Act} {w w' : World} {Q : Exit → Act → World → Prop} (hg : o.guard = none) (x : Operand) (t : TypeId) (u : Value) (ho : o.op = .call { callee := .builtin .clear, args := #[x], argTypes := #[t] }) (hx : a.eval x = u) (hrun : (Builtin.clear_ #[t] o.type #[u]).run Try.prog w = .ok (.tuple #[]) w') (h : wpList Try.prog ops Q rest (a.put o.dst (.tuple #[])) w') : wpList Try.prog ops Q (o :: rest) a w := by
  refine wp_runTo hg _ w' ?_ h
  subst hx
  simp [execOp, ho, resolve, invoke, builtin, hrun, Result.andThen]
section
set_option maxRecDepth 100000 in
set_option maxHeartbeats 8000000 in
theorem pair_any {I : Nat → Prop} {n : Nat} {s : Ns} (x y : Ad) (w : World) (h : NetM w n s I) :
    Calls Try.prog 12 #[.pointer (some ⟨n, 0, none⟩), .agg #[.bool x.1, .int .i64 x.2], .agg #[.bool y.1, .int .i64 y.2]] w (fun e w' => e = .returned (.int .i64 (cnP s.L (x, y) : Nat)) ∧ Kept No w w') := by
  have HN : Hid (NetM w n s I) := h
  clear h
  obtain ⟨xc, xi⟩ := x
  obtain ⟨yc, yi⟩ := y
  simp only
  go_enter Try.func12, Try.ntmps12
  go_upto_region 1 with fail
  have h2 := two w 34 34 #[.bool xc, .int .i64 xi] #[.bool yc, .int .i64 yi]
  generalize (w.alloc (.cells #[.bool xc, .int .i64 xi] 34)).alloc (.cells #[.bool yc, .int .i64 yi] 34) = w2 at h2 ⊢
  obtain ⟨hA, hB, hk⟩ := h2
  obtain ⟨m0, mv, m2, m3, hb, hl⟩ := HN.out.pair
  have hg : tupOk ((gP s.L ((xc, xi), (yc, yi))).getD (.int .i64 0)) (gP s.L ((xc, xi), (yc, yi))).isSome false = .int .i64 (cnP s.L ((xc, xi), (yc, yi)) : Nat) := by unfold tupOk; exact gP_get _ _
  refine p1 _ n _ _ (xc, xi) (yc, yi) mv _ _ m0 m2 m3 w2 _ rfl rfl rfl rfl (hb.kept hk (fun e => e)) hA hB ((hl _).kept hk (fun _ _ e => e)) hg (fun _ _ t _ _ h => by cases t <;> exact h) ?_
  intro wo hko
  have HK : Hid (Kept No w wo) := hk.then hko
  clear hA hB hk hb hl hg hko
  simp only [Wa.pA, Wa.pB, Wa.p1, Wa.p2, Wa.p3]
  go_wp2
  go_ret
  exact ⟨rfl, HK.out⟩
set_option maxRecDepth 100000 in
set_option maxHeartbeats 8000000 in
theorem lose_any {I : Nat → Prop} {n : Nat} {s : Ns} (f : Ad) (c : Int) (w : World) (h : NetM w n s I) :
    Calls Try.prog 16 #[.pointer (some ⟨n, 0, none⟩), .agg #[.bool f.1, .int .i64 f.2], .int .i64 c] w (fun e w' => (s.L.find? (isN (f, c)) = none ∧ e = .returned (.int .i64 150) ∧ Kept No w w') ∨ (∃ q, s.L.find? (isN (f, c)) = some q ∧ e = .returned (.int .i64 0) ∧ Kept (W5 w I) w w' ∧ NetM w' n ⟨s.sent, rmN (f, c) s.L, s.came⟩ (fun j => I j ∨ w.heap.size ≤ j))) := by
  have HN : Hid (NetM w n s I) := h
  clear h
  obtain ⟨fc, fi⟩ := f
  simp only
  go_enter Try.func16, Try.ntmps16
  go_wp2_with fail
  have HK3 : Hid (Kept No w (w.alloc (.cells #[.bool fc, .int .i64 fi] 34))) := (Kept.refl No w).alloc _
  generalize w.alloc (.cells #[.bool fc, .int .i64 fi] 34) = w3 at HK3 ⊢
  have HN3 : Hid (NetM w3 n s (fun j => I j ∧ j < w.heap.size)) := HN.out.kept HK3.out (fun j e l => ⟨fun f => f, e, l⟩)
  refine Calls.mono (leave_any ((fc, fi), c) w3 HN3.out) ?_
  rintro e w4 (⟨hf, rfl, hk4⟩ | ⟨q, pv, hf, ⟨xa, xn, xc, rfl⟩, rfl, hk4, hO4, hN4⟩)
  · have HK4 : Hid (Kept No w w4) := HK3.out.then hk4
    clear hk4
    simp only [zAl]
    go_wp2
    go_ret
    exact .inl ⟨hf, rfl, HK4.out.alloc _⟩
  · have HF : Hid (NetM w4 n ⟨s.sent, rmN ((fc, fi), c) s.L, s.came⟩ (fun j => (I j ∧ j < w.heap.size) ∨ w3.heap.size ≤ j) ∧ Kept (W5 w (fun j => I j ∧ j < w.heap.size)) w w4) := ⟨hN4, W5.trans (I := No) HK3.out.of_no hk4 (fun _ e => e.elim) (fun _ _ e => e)⟩
    clear hk4 hN4 hO4
    have HFd : Hid (s.L.find? (isN ((fc, fi), c)) = some q) := hf
    clear hf
    have hs := HK3.out.size
    obtain ⟨qn, ⟨tc, ti⟩, da, dc, zs, pl⟩ := q
    simp only [alV]
    go_wp2
    go_ret
    exact .inr ⟨_, HFd.out, rfl, (W5.mono HF.out.2 (fun j l e => e.1)).then (Kept.of_no ((Kept.refl No _).alloc _)), HF.out.1.kept ((Kept.refl No _).alloc _) (fun j e _ => ⟨fun f => f, by rcases e with e | e; exact .inl e.1; exact .inr (by omega)⟩)⟩
/-- The state behind one that came. -/
def addS (s : Ns) (q : Pq) : Ns := if 64 ≤ cnP s.L (q.nm.1, q.to') then s else ⟨s.sent, s.L ++ [q], s.came + 1⟩
set_option maxRecDepth 100000 in
set_option maxHeartbeats 8000000 in
theorem double_any {I : Nat → Prop} {n : Nat} {s : Ns} (f : Ad) (c : Int) (w : World) (h : NetM w n s I) (hfew : s.came < 1000000000000) :
    Calls Try.prog 18 #[.pointer (some ⟨n, 0, none⟩), .agg #[.bool f.1, .int .i64 f.2], .int .i64 c] w (fun e w' => (s.L.find? (isN (f, c)) = none ∧ e = .returned (.int .i64 150) ∧ Kept No w w') ∨ (∃ q, s.L.find? (isN (f, c)) = some q ∧ e = .returned (.int .i64 0) ∧ Kept (W5 w I) w w' ∧ NetM w' n (addS s { q with pl := s.came + 1 }) (fun j => I j ∨ w.heap.size ≤ j))) := by
  have HN : Hid (NetM w n s I) := h
  clear h
  obtain ⟨fc, fi⟩ := f
  simp only
  go_enter Try.func18, Try.ntmps18
  go_upto_region 2 with fail
  have h2 := two w 34 79 #[.bool fc, .int .i64 fi] #[.bool fc, .int .i64 fi, .int .i64 c]
  generalize (w.alloc (.cells #[.bool fc, .int .i64 fi] 34)).alloc (.cells #[.bool fc, .int .i64 fi, .int .i64 c] 79) = w2 at h2 ⊢
  have hs1 : w.heap.size ≤ w.heap.size + 1 := by omega
  generalize w.heap.size + 1 = bK at h2 hs1 ⊢
  have HBK : Hid (Box w2 bK 79 #[.bool fc, .int .i64 fi, .int .i64 c] ∧ w.heap.size ≤ bK ∧ Kept No w w2) := ⟨h2.2.1, hs1, h2.2.2⟩
  clear h2 hs1
  have HN2 : Hid (NetM w2 n s (fun j => I j ∧ j < w.heap.size)) := HN.out.kept HBK.out.2.2 (fun j e l => ⟨fun f => f, e, l⟩)
  cases hf : s.L.find? (isN ((fc, fi), c)) with
  | none =>
    obtain ⟨m0, m1, mv, m3, hb, hl⟩ : ∃ m0 m1 mv m3, Box w2 n 69 #[m0, m1, mv, m3] ∧ LkV mkN w2 mv ((fc, fi), c) none := by
      rcases HN2.out with ⟨h1, h2, h3⟩ | ⟨b1, b2, b3, P, h⟩
      · exact ⟨_, _, _, _, h2, .inl ⟨rfl, rfl⟩⟩
      · exact ⟨_, _, _, _, h.box, .inr ⟨b3, _, rfl, h.m3, gN_miss hf⟩⟩
    refine d2 _ n bK ((fc, fi), c) mv none (.bool false) (.int .i64 0) (.slice none 0 0) (.slice none 0 0) false _ _ _ w2 _ rfl rfl rfl hb HBK.out.1 hl rfl (by simp [Value.oneCell']) (fun _ _ t _ _ h => by cases t <;> exact h) ?_
    intro w4 G hG hGl hk4
    have HK4 : Hid (Kept No w w4) := HBK.out.2.2.then hk4
    clear hb hl hG hGl hk4
    simp only [Wa.pA, Wa.pB, Wa.p1, Wa.p2, Wa.p3]
    go_wp2
    go_ret
    exact .inl ⟨hf, rfl, HK4.out⟩
  | some q =>
    have HF : Hid (s.L.find? (isN ((fc, fi), c)) = some q) := hf
    obtain ⟨hqL, hqn⟩ := find_mem hf
    have HQ : Hid (q ∈ s.L ∧ q.nm = ((fc, fi), c)) := ⟨hqL, hqn⟩
    clear hqL hqn
    obtain ⟨b1, b2, b3, P, hB⟩ : ∃ b1 b2 b3 P, NetB w2 n s (fun j => I j ∧ j < w.heap.size) b1 b2 b3 P := by
      rcases HN2.out with ⟨h1, h2, h3⟩ | h
      · rw [h1] at hf; simp [ns0] at hf
      · exact h
    have HB : Hid (NetB w2 n s (fun j => I j ∧ j < w.heap.size) b1 b2 b3 P) := hB
    clear hB hf HN2
    obtain ⟨qn, ⟨tc, ti⟩, da, dc, zs, pl⟩ := q
    refine d2 _ n bK ((fc, fi), c) (.map (some b3)) _ (.bool tc) (.int .i64 ti) (.slice da zs.length dc) (plV P ((fc, fi), c) (pls s.L ((fc, fi), c)).length) true _ _ _ w2 _ rfl rfl rfl HB.out.box HBK.out.1 (.inr ⟨b3, _, rfl, HB.out.m3, gN_find HF.out⟩) rfl (by simp [Value.oneCell', plV]) (fun _ _ t _ _ h => by cases t <;> exact h) ?_
    intro w4 G hG hGl hk4
    have HG : Hid (Box w4 G 81 #[.bool tc, .int .i64 ti, .slice da zs.length dc, plV P ((fc, fi), c) (pls s.L ((fc, fi), c)).length] ∧ Kept No w2 w4) := ⟨hG, hk4⟩
    clear hG hGl hk4
    simp only [Wa.pA, Wa.pB, Wa.p1, Wa.p2, Wa.p3]
    have k0 := (HBK.out.1.kept HG.out.2 (fun e => e)).cell 0
    have k1 := (HBK.out.1.kept HG.out.2 (fun e => e)).cell 1
    have k2 := (HBK.out.1.kept HG.out.2 (fun e => e)).cell 2
    have g0 := HG.out.1.cell 0
    have g1 := HG.out.1.cell 1
    have g2 := HG.out.1.cell 2
    have g3 := HG.out.1.cell 3
    simp only [List.getElem?_toArray, List.getElem?_cons_zero, List.getElem?_cons_succ] at k0 k1 k2 g0 g1 g2 g3
    go_wp2_with fail
    have hB4 := HB.out.no HG.out.2
    have hQ : qn = ((fc, fi), c) := HQ.out.2
    subst hQ
    refine Calls.mono (come_any ⟨((fc, fi), c), (tc, ti), da, dc, zs, s.came + 1⟩ _ w4 hB4 ⟨fun p hp e => hB4.ok.alike p hp ⟨((fc, fi), c), (tc, ti), da, dc, zs, pl⟩ HQ.out.1 e, hB4.ok.cnt ⟨((fc, fi), c), (tc, ti), da, dc, zs, pl⟩ HQ.out.1, hB4.dt ⟨((fc, fi), c), (tc, ti), da, dc, zs, pl⟩ HQ.out.1, .inr ⟨⟨⟨((fc, fi), c), (tc, ti), da, dc, zs, pl⟩, HQ.out.1, rfl⟩, rfl⟩, rfl, hfew⟩) ?_
    have hs2 := HBK.out.2.2.size
    have hs4 := HG.out.2.size
    rintro e w6 (⟨hge, rfl, hk6⟩ | ⟨hlt, rfl, hk6, P', hN6⟩)
    · have HR : Hid (64 ≤ cnP s.L ((fc, fi), (tc, ti)) ∧ Kept No w4 w6) := ⟨hge, hk6⟩
      clear hge hk6 k0 k1 k2 g0 g1 g2 g3 hB4
      go_wp2
      go_ret
      refine .inr ⟨_, HF.out, rfl, (HBK.out.2.2.then (HG.out.2.then HR.out.2)).of_no, ?_⟩
      rw [addS, if_pos (by exact HR.out.1)]
      exact .inr ⟨b1, b2, b3, P, HB.out.kept (HG.out.2.then HR.out.2) (fun j e _ => ⟨fun f => f, .inl e.1⟩)⟩
    · have HR : Hid (cnP s.L ((fc, fi), (tc, ti)) < 64 ∧ Kept (W5 w4 (fun j => I j ∧ j < w.heap.size)) w4 w6 ∧ NetB w6 n ⟨s.sent, s.L ++ [⟨((fc, fi), c), (tc, ti), da, dc, zs, s.came + 1⟩], s.came + 1⟩ (fun k => (I k ∧ k < w.heap.size) ∨ w4.heap.size ≤ k ∨ At da k) b1 b2 b3 P') := ⟨hlt, hk6, hN6⟩
      have HD : Hid (∀ j, At da j → I j) := fun j e => (hB4.ind _ HQ.out.1 j e).1
      clear hlt hk6 hN6 k0 k1 k2 g0 g1 g2 g3 hB4
      go_wp2
      go_ret
      refine .inr ⟨_, HF.out, rfl, W5.trans (I := No) ((HBK.out.2.2.then HG.out.2).of_no) HR.out.2.1 (fun _ e => e.elim) (fun j l e => e.1), ?_⟩
      rw [addS, if_neg (by have := HR.out.1; show ¬ 64 ≤ cnP s.L ((fc, fi), (tc, ti)); omega)]
      refine .inr ⟨b1, b2, b3, P', HR.out.2.2.kept (Kept.refl No _) (fun j e _ => ⟨fun f => f, ?_⟩)⟩
      rcases e with e | e | e
      · exact .inl e.1
      · exact .inr (by omega)
      · exact .inl (HD.out j e)
set_option maxRecDepth 100000 in
set_option maxHeartbeats 8000000 in
theorem clear_any {I : Nat → Prop} {n : Nat} {s : Ns} (w : World) (h : NetM w n s I) :
    Calls Try.prog 19 #[.pointer (some ⟨n, 0, none⟩)] w (fun e w' => e = .returned (.tuple #[]) ∧ Kept (W5 w I) w w' ∧ NetM w' n ⟨s.sent, [], s.came⟩ I) := by
  rcases h with ⟨rfl, h2, h3⟩ | ⟨b1, b2, b3, P, h⟩
  · have c1 := h2.cell 1
    have c2 := h2.cell 2
    simp only [List.getElem?_toArray, List.getElem?_cons_zero, List.getElem?_cons_succ] at c1 c2
    go_enter Try.func19, Try.ntmps19
    have hr1 : Sem.run Try.prog (Builtin.clear_ #[66] 0 #[.map none]) w = .ok (.tuple #[]) w := by kernel_rfl
    have hr2 : Sem.run Try.prog (Builtin.clear_ #[67] 0 #[.map none]) w = .ok (.tuple #[]) w := by kernel_rfl
    go_wp2
    go_end0
    exact ⟨rfl, Kept.refl _ _, .inl ⟨rfl, h2, h3⟩⟩
  · have HN : Hid (NetB w n s I b1 b2 b3 P) := h
    have c1 := h.box.cell 1
    simp only [List.getElem?_toArray, List.getElem?_cons_zero, List.getElem?_cons_succ] at c1
    clear h
    go_enter Try.func19, Try.ntmps19
    obtain ⟨w1, hr1, hm1, hk1, hz1⟩ := clrG (mk := mkP) (ty := 0) HN.out.m2 und66
    have HM1 : Hid (MapG mkP w1 b2 (fun _ => none) ∧ Kept (Only b2) w w1) := ⟨hm1, hk1⟩
    clear hm1 hk1 hz1
    go_upto_region 1 with (at_builtin; refine wp_clear rfl _ _ _ rfl rfl hr1 ?_)
    have HB1 : Hid (Box w1 n 69 #[.map (some b1), .map (some b2), .map (some b3), .int .i64 (s.came : Nat)]) := HN.out.box.kept HM1.out.2 (fun e => HN.out.box.neMap HN.out.m2 e)
    have HM31 : Hid (MapG mkN w1 b3 (gN s.L P)) := HN.out.m3.kept HM1.out.2 (fun e => HN.out.ne.2.2 e.symm)
    have c2 := HB1.out.cell 2
    simp only [List.getElem?_toArray, List.getElem?_cons_zero, List.getElem?_cons_succ] at c2
    obtain ⟨w2, hr2, hm2, hk2, hz2⟩ := clrG (mk := mkN) (ty := 0) HM31.out und67
    have HM2 : Hid (MapG mkN w2 b3 (fun _ => none) ∧ Kept (Only b3) w1 w2) := ⟨hm2, hk2⟩
    clear hm2 hk2 hz2 hr1 c1
    go_wp2_with (at_builtin; refine wp_clear rfl _ _ _ rfl rfl hr2 ?_)
    go_end0
    have hok : NOk ⟨s.sent, [], s.came⟩ := ⟨List.Pairwise.nil, fun q h => by simp at h, fun q h => by simp at h, fun q h => by simp at h, fun p => by simp [cnP]⟩
    refine ⟨rfl, W5.trans (I := I) (J := I) (HM1.out.2.mono (fun j l e => by have e : j = b2 := e; rw [e]; exact W5.map HN.out.m2 HN.out.inn.2.2.1)) (HM2.out.2.mono (fun j l e => by have e : j = b3 := e; rw [e]; exact W5.map HM31.out HN.out.inn.2.2.2)) (fun _ e => e) (fun _ _ e => e), .inr ⟨b1, b2, b3, P, hok, HB1.out.kept HM2.out.2 (fun e => HN.out.box.neMap HN.out.m3 e), (HN.out.m1.kept HM1.out.2 (fun e => HN.out.ne.1 e)).kept HM2.out.2 (fun e => HN.out.ne.2.1 e), ?_, ?_, HN.out.ne, fun q h => by simp at h, fun q h => by simp at h, fun q h => by simp at h, HN.out.inn, fun q h => by simp at h, fun q h => by simp at h⟩⟩
    · have e : gP [] = fun _ => none := by funext p; rfl
      rw [e]
      exact HM1.out.1.kept HM2.out.2 (fun e => HN.out.ne.2.2 e)
    · have e : gN [] P = fun _ => none := by funext p; rfl
      rw [e]
      exact HM2.out.1
end

end Go.Proofs.Ytphiokehcgbldaa
