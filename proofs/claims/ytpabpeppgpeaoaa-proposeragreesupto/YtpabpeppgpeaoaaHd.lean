import Derived.Test.YtpabpeppgpeaoaaHb
import Derived.ArgAppend
namespace Go.Proofs.Ytpabpeppgpeaoaa.Md
open Go.RowKit Gx
set_option linter.unusedVariables false
set_option linter.unusedSimpArgs false

/-- Rows of the hall read. -/
theorem sl_v {s : Sl} {g o : Nat} (h : s.a = some ⟨g, o, none⟩) : s.v = .slice (some ⟨g, o, none⟩) s.l s.k := by unfold Sl.v; rw [h]
theorem own_some {t : TypeId} {c : Nat} {w : World} {base : Nat} {s : Sl} {vs : List Value} (h : Own t c w base s.a s.k s.l vs) {i : Nat} (hi : i < s.l) : ∃ g, s.a = some ⟨g, 0, none⟩ := Own.sm h (by omega)
section
variable {w W W' : World} {J0 J J2 S : Nat → Prop} {hb : Nat} {v v2 : Hv} {pp pp2 : List Nat} {h h2 : Pax.Hl} {l l2 : List (Nat × TypeId × Array Value)} {T T' : List (Sl × List Mg)}
theorem Hg.gl (H : Hg w W J0 J hb v pp h l T) : h.zs.length = v.g.l := H.hal.gr.len
theorem Hg.il (H : Hg w W J0 J hb v pp h l T) : h.ins.length = v.i.l := by rw [← H.hal.ins.len, List.length_map]
theorem Hg.pl (H : Hg w W J0 J hb v pp h l T) : h.ps.length = v.p.l := by rw [← H.hal.prs.len, H.hal.pl]
theorem Hg.yl (H : Hg w W J0 J hb v pp h l T) : h.way.length = v.y.l := by rw [← H.hal.way.len, List.length_map]
theorem Hg.dl (H : Hg w W J0 J hb v pp h l T) : h.dec.length = v.d.l := by rw [← H.hal.dec.len, List.length_map]
theorem Hg.al (H : Hg w W J0 J hb v pp h l T) : h.nkd.length = v.a.l := H.hal.nkd.len
theorem Hg.bl (H : Hg w W J0 J hb v pp h l T) : h.nks.length = v.b.l := H.hal.nks.len
theorem Hg.rG (H : Hg w W J0 J hb v pp h l T) {i : Nat} (hi : i < v.g.l) : ∃ g, v.g.a = some ⟨g, 0, none⟩ := own_some H.hal.gr.own hi
theorem Hg.rI (H : Hg w W J0 J hb v pp h l T) {i : Nat} (hi : i < v.i.l) : ∃ g, v.i.a = some ⟨g, 0, none⟩ := own_some H.hal.ins.own hi
theorem Hg.rP (H : Hg w W J0 J hb v pp h l T) {i : Nat} (hi : i < v.p.l) : ∃ g, v.p.a = some ⟨g, 0, none⟩ := own_some H.hal.prs.own hi
theorem Hg.rY (H : Hg w W J0 J hb v pp h l T) {i : Nat} (hi : i < v.y.l) : ∃ g, v.y.a = some ⟨g, 0, none⟩ := own_some H.hal.way.own hi
theorem Hg.rA (H : Hg w W J0 J hb v pp h l T) {i : Nat} (hi : i < v.a.l) : ∃ g, v.a.a = some ⟨g, 0, none⟩ := own_some H.hal.nkd.own hi
theorem Hg.rB (H : Hg w W J0 J hb v pp h l T) {i : Nat} (hi : i < v.b.l) : ∃ g, v.b.a = some ⟨g, 0, none⟩ := own_some H.hal.nks.own hi
theorem Hg.rD (H : Hg w W J0 J hb v pp h l T) {i : Nat} (hi : i < v.d.l) : ∃ g o, v.d.a = some ⟨g, o, none⟩ := by
  rcases H.hal.dec.pl with ⟨_, _, e⟩ | ⟨g, off, cur, e, _⟩
  · omega
  · exact ⟨g, off, e⟩
theorem ints_cell {W : World} {s : Sl} {zs : List Int} (h : OwI W 0 s zs) {g i : Nat} {z : Int} (hg : s.a = some ⟨g, 0, none⟩) (hz : zs[i]? = some z) : W.cell? ⟨g, 0 + i * 1, none⟩ = some (.int .i64 z) := by
  obtain ⟨g', e, hc⟩ := h.at (i := i) (by rw [← h.len]; exact (List.getElem?_eq_some_iff.1 hz).1)
  rw [hg] at e; cases e
  rw [hz] at hc; exact hc
theorem Hg.cG (H : Hg w W J0 J hb v pp h l T) {g i : Nat} {z : Int} (hg : v.g.a = some ⟨g, 0, none⟩) (hz : h.zs[i]? = some z) : W.cell? ⟨g, 0 + i * 1, none⟩ = some (.int .i64 z) := ints_cell H.hal.gr hg hz
theorem Hg.cB (H : Hg w W J0 J hb v pp h l T) {g i : Nat} {z : Int} (hg : v.b.a = some ⟨g, 0, none⟩) (hz : h.nks[i]? = some z) : W.cell? ⟨g, 0 + i * 1, none⟩ = some (.int .i64 z) := ints_cell H.hal.nks hg hz
theorem Hg.cP (H : Hg w W J0 J hb v pp h l T) {g i k : Nat} (hg : v.p.a = some ⟨g, 0, none⟩) (hk : pp[i]? = some k) : W.cell? ⟨g, 0 + i * 1, none⟩ = some (.pointer (some ⟨k, 0, none⟩)) := by
  have := Own.rows (xs := pp.map (fun k => [ptV k])) (c := 1) (by have := H.hal.prs.own; rw [show (pp.map (fun k => [ptV k])).flatten = pp.map ptV by simp [← List.flatMap_def]; exact (List.map_eq_flatMap ..).symm]; exact this) (by intro x hx; obtain ⟨y, _, rfl⟩ := List.mem_map.1 hx; rfl) (by omega)
  obtain ⟨b, o, e, hc⟩ := this i [ptV k] (by rw [List.getElem?_map, hk]; rfl)
  rw [hg] at e; cases e
  exact hc 0 _ rfl
theorem Hg.cI (H : Hg w W J0 J hb v pp h l T) {g i : Nat} {x : Ytpabpeppgpeaoaa.In} (hg : v.i.a = some ⟨g, 0, none⟩) (hx : h.ins[i]? = some x) : ∀ (j : Nat) u, (In.cs (dI x))[j]? = some u → W.cell? ⟨g, 0 + i * 14 + j, none⟩ = some u := by
  have := Own.rows H.hal.ins.own (insL_c _) (by omega)
  obtain ⟨b, o, e, hc⟩ := this i (In.cs (dI x)) (by rw [List.getElem?_map, List.getElem?_map, hx]; rfl)
  rw [hg] at e; cases e
  exact hc
theorem msgs_cell {W : World} {s : Sl} {ms : List Mg} (h : OwM W 0 s ms) {g i : Nat} {m : Mg} (hg : s.a = some ⟨g, 0, none⟩) (hm : ms[i]? = some m) : ∀ (j : Nat) u, (Mg.cs m)[j]? = some u → W.cell? ⟨g, 0 + i * 30 + j, none⟩ = some u := by
  obtain ⟨b, o, e, hc⟩ := h.rd.at hm
  rw [hg] at e; cases e
  exact hc
theorem Hg.cY (H : Hg w W J0 J hb v pp h l T) {g i : Nat} {m : Ms} (hg : v.y.a = some ⟨g, 0, none⟩) (hm : h.way[i]? = some m) : ∀ (j : Nat) u, (Mg.cs (dM m))[j]? = some u → W.cell? ⟨g, 0 + i * 30 + j, none⟩ = some u := msgs_cell H.hal.way hg (by rw [List.getElem?_map, hm]; rfl)
theorem Hg.cT (H : Hg w W J0 J hb v pp h l T) {q : Nat} {x : Sl × List Mg} (hx : T[q]? = some x) {g i : Nat} {m : Mg} (hg : x.1.a = some ⟨g, 0, none⟩) (hm : x.2[i]? = some m) : ∀ (j : Nat) u, (Mg.cs m)[j]? = some u → W.cell? ⟨g, 0 + i * 30 + j, none⟩ = some u := msgs_cell (H.tl q x hx) hg hm
theorem OwD.cell {W : World} {s : Sl} {cs : List Cm} (h : OwD W s cs) {g o i : Nat} {c : Cm} (hg : s.a = some ⟨g, o, none⟩) (hc : cs[i]? = some c) : ∀ (j : Nat) u, (Cm.cs c)[j]? = some u → W.cell? ⟨g, o + i * 9 + j, none⟩ = some u := by
  rcases h.pl with ⟨e, _⟩ | ⟨g', off, cur, e, _, hb, _, hp⟩
  · rw [hg] at e; cases e
  · rw [hg] at e; cases e
    intro j u hj
    rw [hb.cell, List.getElem?_toArray, Nat.add_assoc]
    exact hp _ _ (flat_get 9 (cs.map Cm.cs) (cmL_c cs) i (Cm.cs c) (by rw [List.getElem?_map, hc]; rfl) j u hj)
theorem Hg.cD (H : Hg w W J0 J hb v pp h l T) {g o i : Nat} {c : Ytpabpeppgpeaoaa.Cm} (hg : v.d.a = some ⟨g, o, none⟩) (hc : h.dec[i]? = some c) : ∀ (j : Nat) u, (Cm.cs (dC' c))[j]? = some u → W.cell? ⟨g, o + i * 9 + j, none⟩ = some u := H.hal.dec.cell hg (by rw [List.getElem?_map, hc]; rfl)
end
/-- Loads out of rows. -/
theorem ld_M {w : World} {b off i : Nat} {m : Mg} (hc : ∀ (j : Nat) u, (Mg.cs m)[j]? = some u → w.cell? ⟨b, off + i * 30 + j, none⟩ = some u) : (loadVar 47 ⟨b, off + i * 30, none⟩).run Try.prog w = .ok (.agg (Mg.cells m)) w := load_at hc U47 rfl S47
theorem ld_N {w : World} {b off i : Nat} {m : In} (hc : ∀ (j : Nat) u, (In.cs m)[j]? = some u → w.cell? ⟨b, off + i * 14 + j, none⟩ = some u) : (loadVar 142 ⟨b, off + i * 14, none⟩).run Try.prog w = .ok (.agg (In.cells m)) w := load_at hc U142 rfl S142
theorem ld_D {w : World} {b off i : Nat} {m : Cm} (hc : ∀ (j : Nat) u, (Cm.cs m)[j]? = some u → w.cell? ⟨b, off + i * 9 + j, none⟩ = some u) : (loadVar 28 ⟨b, off + i * 9, none⟩).run Try.prog w = .ok (.agg (Cm.cells m)) w := load_at hc U28 rfl S28
theorem cmL_len' (cs : List Cm) : (cmL cs).length = cs.length * 9 := by show ((cs.map Cm.cs).flatten).length = _; rw [flat_len 9 _ (cmL_c cs), List.length_map]
theorem cmL_app' (a b : List Cm) : cmL (a ++ b) = cmL a ++ cmL b := by simp [cmL]
theorem cmL_1' (c : Cm) : cmL [c] = Cm.cs c := by simp [cmL]
theorem part_put {cur old news : List Value} {off : Nat} (h : Part cur off old) (hl : off + old.length + news.length ≤ cur.length) : Part (putL cur (off + old.length) news) off (old ++ news) := by
  intro j u hj
  unfold putL
  by_cases e : j < old.length
  · rw [List.getElem?_append_left e] at hj
    rw [List.getElem?_append_left (by rw [List.length_take]; omega), List.getElem?_take, if_pos (by omega)]
    exact h j u hj
  · rw [List.getElem?_append_right (by omega)] at hj
    have hj2 := (List.getElem?_eq_some_iff.1 hj).1
    rw [List.getElem?_append_right (by rw [List.length_take]; omega), List.length_take, Nat.min_eq_left (by omega), List.getElem?_append_left (by omega)]
    rw [show off + j - (off + old.length) = j - old.length by omega]
    exact hj
theorem putL_len {cur news : List Value} {k : Nat} (h : k + news.length ≤ cur.length) : (putL cur k news).length = cur.length := by
  unfold putL
  simp only [List.length_append, List.length_take, List.length_drop]
  omega
/-- append in place, from any place of a block on. -/
theorem run_app_in {w : World} (T ty E : TypeId) (c by' : Nat) (z : Value) (ht : Try.prog.underlying T = some (.slice E)) (hinf : (Try.prog.info? E).map (fun i => (i.zero, i.size, i.bytes)) = some (some z, c, by'))
    {g off n cap : Nat} {t : TypeId} {cur : List Value} (hb : Box w g t cur.toArray) (hroom : n + 1 ≤ cap) (hl : off + cap * c ≤ cur.length) (ad : Addr) (cc : Nat) (news : List Value) (hn : news.length = c) (hnews : ∀ j u, news[j]? = some u → w.cell? (ad.add j) = some u) (h1 : ∀ u ∈ news, u.oneCell' = true) :
    (Builtin.append_ #[T, T] ty #[.slice (some ⟨g, off, none⟩) n cap, .slice (some ad) 1 cc]).run Try.prog w = .ok (.slice (some ⟨g, off, none⟩) (n + 1) cap) (w.setRow g (putL cur (off + n * c) news).toArray) := by
  obtain ⟨i0, hi, hz0, hz1, hz2⟩ := info_parts hinf
  subst hz1
  have hfc := run_firstCells_some (P := Try.prog) w i0.size 1 ad 1 cc news (by omega) hnews
  have hle : n * i0.size + i0.size ≤ cap * i0.size := by rw [← Nat.succ_mul]; exact Nat.mul_le_mul_right _ hroom
  have hst := run_storeCells_at g (off + n * i0.size) t news 0 cur w hb (by omega) h1
  simp only [Nat.add_zero] at hst
  simp [Builtin.append_, run_underlying ht, sizeOf, typeInfo, hi, Builtin.lenOf, hroom, hfc, Addr.add_lit, hst]
theorem OwD.of {w : World} {base : Nat} {s : Sl} {cs : List Cm} (h : Own 28 9 w base s.a s.k s.l (cmL cs)) (hl : cs.length = s.l) : OwD w s cs := by
  refine ⟨hl, ?_⟩
  rcases h.cases (by rw [cmL_len', hl]) with ⟨a, b, d⟩ | ⟨g, ha, _, _, sp, hh, hs⟩
  · exact .inl ⟨a, b, by omega⟩
  · have hs' := hs
    rw [cmL_len', hl] at hs
    refine .inr ⟨g, 0, cmL cs ++ sp, ha, by omega, hh, by rw [List.length_append]; omega, fun j u hj => ?_⟩
    rw [Nat.zero_add, List.getElem?_append_left (List.getElem?_eq_some_iff.1 hj).1]; exact hj
/-- One more is decided. -/
theorem OwD.push {w : World} {s : Sl} {cs : List Cm} (h : OwD w s cs) (hn : s.l ≤ 1000) {ad : Addr} {cc : Nat} {c : Cm} (hc : ∀ j u, (Cm.cs c)[j]? = some u → w.cell? (ad.add j) = some u) : ∃ a' k' w', (Builtin.append_ #[45, 45] 45 #[s.v, .slice (some ad) 1 cc]).run Try.prog w = .ok (.slice a' (s.l + 1) k') w' ∧ OwD w' ⟨a', s.l + 1, k'⟩ (cs ++ [c]) ∧ Kept (At s.a) w w' ∧ ∀ k, At a' k → At s.a k ∨ w.heap.size ≤ k := by
  rcases h.pl with ⟨e1, e2, e0⟩ | ⟨g, off, cur, e1, e2, e3, e4, e5⟩
  · have ecs : cs = [] := List.eq_nil_of_length_eq_zero (by rw [h.len, e0])
    subst ecs
    obtain ⟨a', k', w', hrun, hO, hk, hat⟩ := run_appN (w := w) 45 45 28 9 80 (.agg cZ.cells) U45 I28 rfl (by omega) w.heap.size 0 0 none [] (Own.nil _ _ _ _) (some ad) 1 cc (Cm.cs c) rfl (fun e => by cases e) (fun j u hj => ⟨ad, rfl, hc j u hj⟩) (Cm.oneL c) (by omega) (by omega) (Nat.le_refl _)
    refine ⟨a', k', w', by unfold Sl.v; rw [e1, e2, e0]; exact hrun, OwD.of (s := ⟨a', s.l + 1, k'⟩) (base := w.heap.size) (by show Own 28 9 w' _ a' k' (s.l + 1) _; rw [e0]; simpa [cmL] using hO) (by simp [e0]), by rw [e1]; exact hk, fun k e => ?_⟩
    rcases hat k e with f | f
    · exact absurd f At.none
    · exact .inr (by omega)
  · by_cases hr : s.l + 1 ≤ s.k
    · have hrun := run_app_in 45 45 28 9 80 (.agg cZ.cells) U45 I28 e3 hr e4 ad cc (Cm.cs c) rfl hc (Cm.oneL c)
      rw [← sl_v e1] at hrun
      refine ⟨some ⟨g, off, none⟩, s.k, _, hrun, ⟨by simp [h.len], .inr ⟨g, off, putL cur (off + s.l * 9) (Cm.cs c), rfl, hr, Box.setRow e3 _, ?_, ?_⟩⟩, (Kept.setRow w g _).mono (fun k _ e => (show k = g from e) ▸ ⟨_, e1, rfl⟩), fun k e => .inl (by rw [e1]; exact e)⟩
      · have : (Cm.cs c).length = 9 := rfl
        rw [putL_len (by rw [this]; omega)]; exact e4
      · have := part_put (news := Cm.cs c) e5 (by have : (Cm.cs c).length = 9 := rfl; rw [cmL_len', h.len, this]; omega)
        rw [cmL_len', h.len] at this
        rw [cmL_app', cmL_1']; exact this
    · obtain ⟨i0, hi, hz0, hz1, hz2⟩ := info_parts I28
      obtain ⟨v', w', hrun, hO, hg⟩ := run_append_arg_grows (P := Try.prog) (w := w) 45 45 28 i0 (.agg cZ.cells) 9 80 U45 hi hz0 hz1 hz2 rfl (by omega) ⟨g, off, none⟩ s.l s.k (cmL cs) (by rw [cmL_len', h.len]) (fun j u hj => by rw [addr_add, e3.cell, List.getElem?_toArray]; exact e5 j u hj) ad 1 cc (Cm.cs c) rfl hc (by omega) (by unfold maxLen; omega) (by omega)
      have hk : Kept No w w' := (Kept.refl No w).grown hg (fun k e _ => by cases e)
      rcases hO.2 with ⟨_, h0⟩ | ⟨g2, cap', cur', e, hbg, _⟩
      · omega
      · subst e
        refine ⟨some ⟨g2, 0, none⟩, cap', w', by rw [sl_v e1]; exact hrun, OwD.of (s := ⟨some ⟨g2, 0, none⟩, s.l + 1, cap'⟩) (base := w.heap.size) (by rw [cmL_app', cmL_1']; exact hO) (by simp [h.len]), hk.of_no, fun k e => .inr ?_⟩
        obtain ⟨ad', e, rfl⟩ := e
        cases e
        exact hbg
end Go.Proofs.Ytpabpeppgpeaoaa.Md
namespace Go.Proofs.Ytpabpeppgpeaoaa.Md
open Go.RowKit Gx
set_option linter.unusedVariables false
set_option linter.unusedSimpArgs false

theorem b_remN (x y : Nat) (yi : Int) (hy : yi = (y : Int)) (h0 : 0 < y) (w : World) : (binOp .rem 3 (.int .i64 (x : Int)) (.int .i64 yi)).run Try.prog w = .ok (.int .i64 ((x % y : Nat) : Int)) w := by
  subst hy
  rw [binOp_rem]
  unfold Op.intDiv
  rw [if_neg (by omega)]
  show Result.ok (Value.int .i64 ((x : Int).tmod (y : Int))) w = _
  rw [Int.tmod_eq_emod_of_nonneg (by omega)]
  rfl
theorem b_quoN (x y : Nat) (yi : Int) (hy : yi = (y : Int)) (h0 : 0 < y) (hx : x ≤ 4611686018427387904) (w : World) : (binOp .quo 3 (.int .i64 (x : Int)) (.int .i64 yi)).run Try.prog w = .ok (.int .i64 ((x / y : Nat) : Int)) w := by
  subst hy
  rw [binOp_quo]
  unfold Op.intDiv
  rw [if_neg (by omega)]
  show Result.ok (Value.int .i64 (IntKind.i64.wrap ((x : Int).tdiv (y : Int)))) w = _
  have h1 : x / y ≤ x := Nat.div_le_self x y
  rw [Int.tdiv_eq_ediv_of_nonneg (by omega), ← Int.natCast_ediv]
  generalize x / y = z at h1 ⊢
  rw [show IntKind.i64.wrap (z : Int) = (z : Int) by rw [IntKind.wrap_i64]; omega]
theorem b_mulN (x y z : Nat) (h : x * y = z) (hz : z ≤ 4611686018427387904) (w : World) : (binOp .mul 3 (.int .i64 (x : Int)) (.int .i64 (y : Int))).run Try.prog w = .ok (.int .i64 ((z : Nat) : Int)) w := by
  have e : (binOp .mul 3 (.int .i64 (x : Int)) (.int .i64 (y : Int))).run Try.prog w = .ok (.int .i64 (IntKind.i64.wrap ((x : Int) * (y : Int)))) w := by kernel_rfl
  have h2 : IntKind.i64.wrap ((z : Nat) : Int) = ((z : Nat) : Int) := by rw [IntKind.wrap_i64]; omega
  rw [e, ← Int.natCast_mul, h, h2]
set_option maxRecDepth 100000 in
set_option maxHeartbeats 1000000 in
/-- round, with its value. -/
theorem rnd_eq (v : Int) (n : Nat) (w : World) (hn : 0 < n) (hb : n ≤ 1099511627776) : Calls Try.prog 13 #[.int .i64 v, .int .i64 n] w (fun e w' => ∃ r : Nat, (r : Int) = v % (n : Int) ∧ r < n ∧ e = .returned (.int .i64 r) ∧ w' = w) := by
  have hn0 : ¬ (n : Int) = 0 := by omega
  have hn1 : ¬ (n : Int) < 1 := by omega
  have h1 : v.tmod n < n := Int.tmod_lt_of_pos v (by omega)
  have h2 : -(n : Int) < v.tmod n := by
    have := Int.lt_tmod_of_pos v (b := (n : Int)) (by omega)
    omega
  have hm : IntKind.i64.wrap (v.tmod n) = v.tmod n := by rw [IntKind.wrap_i64]; omega
  have hE : v % (n : Int) = if v.tmod n < 0 then v.tmod n + n else v.tmod n := by
    have e0 := Int.tmod_add_mul_tdiv v n
    have e1 : v % (n : Int) = (v.tmod n) % (n : Int) := by
      conv => lhs; rw [← e0]
      rw [Int.add_mul_emod_self_left]
    split
    · rw [e1, ← Int.add_emod_right, Int.emod_eq_of_lt (by omega) (by omega)]
    · rw [e1, Int.emod_eq_of_lt (by omega) (by omega)]
  generalize hE' : v % (n : Int) = E at hE
  clear hE'
  generalize hq : v.tmod n = q at h1 h2 hm hE
  have HQ : Hid (v.tmod n = q) := hq
  by_cases hneg : q < 0
  · rw [if_pos hneg] at hE
    have e : ∃ r : Nat, (r : Int) = q + n ∧ r < n := ⟨(q + n).toNat, by omega, by omega⟩
    obtain ⟨r, hr, hrn⟩ := e
    have HE : Hid ((r : Int) = E) := by show (r : Int) = E; rw [hE, hr]
    clear hE
    have hw : IntKind.i64.wrap (q + n) = r := by rw [← hr, IntKind.wrap_i64]; omega
    go_enter Try.func13, Try.ntmps13
    go_wp2
    go_ret
    exact ⟨r, HE.out, hrn, by simp_all, rfl⟩
  · rw [if_neg hneg] at hE
    have e : ∃ r : Nat, (r : Int) = q ∧ r < n := ⟨q.toNat, by omega, by omega⟩
    obtain ⟨r, hr, hrn⟩ := e
    have HE : Hid ((r : Int) = E) := by show (r : Int) = E; rw [hE, hr]
    clear hE
    go_enter Try.func13, Try.ntmps13
    go_wp2
    go_ret
    exact ⟨r, HE.out, hrn, by simp_all, rfl⟩
section
variable {w W W2 : World} {J0 J J2 S : Nat → Prop} {hb : Nat} {v v2 : Hv} {pp pp2 : List Nat} {h h2 : Pax.Hl} {l l2 : List (Nat × TypeId × Array Value)} {T T' : List (Sl × List Mg)}
theorem Hg.yj (H : Hg w W J0 J hb v pp h l T) (hk : Kept (At v.y.a) W W2) : Kept J W W2 := hk.mono (fun k _ e => H.hal.rj k (.inr (.inr (.inr (.inr (.inl e))))))
theorem Hg.dj (H : Hg w W J0 J hb v pp h l T) (hk : Kept (At v.d.a) W W2) : Kept J W W2 := hk.mono (fun k _ e => H.hal.rj k (.inr (.inr (.inr (.inr (.inr (.inl e)))))))
theorem Hg.tlJ (H : Hg w W J0 J hb v pp h l T) (hk : Kept J W W2) (i : Nat) {x : Sl × List Mg} (hx : T[i]? = some x) : OwM W2 0 x.1 x.2 := (H.tl i x hx).kept hk (fun k e => H.tj i x k hx e)
theorem Hg.boxJ (H : Hg w W J0 J hb v pp h l T) (hk : Kept J W W2) (i : Nat) {g : Nat} {t : TypeId} {cs : Array Value} (hi : l[i]? = some (g, t, cs)) : Box W2 g t cs := (H.fr.box i g t cs hi).kept hk (H.li i g t cs hi)
theorem mgL_len (l : List Mg) : (mgL l).length = l.length * 30 := by unfold mgL; rw [flat_len 30 _ (mgL_c l), List.length_map]
theorem mgL_one (l : List Mg) : ∀ u ∈ mgL l, u.oneCell' = true := by
  intro u hu
  obtain ⟨y, hy, hu⟩ := List.mem_flatten.1 hu
  obtain ⟨m, _, rfl⟩ := List.mem_map.1 hy
  exact Mg.oneL m u hu
/-- A message more is under way. -/
theorem Hg.push (H : Hg w W J0 J hb v pp h l T) (hn : v.y.l ≤ 4000000) {ad : Addr} {cc : Nat} {m : Ms} (hm : ∀ j u, (Mg.cs (dM m))[j]? = some u → W.cell? (ad.add j) = some u) :
    ∃ a' k' W2 J2, (Builtin.append_ #[66, 66] 66 #[v.y.v, .slice (some ad) 1 cc]).run Try.prog W = .ok (.slice a' (v.y.l + 1) k') W2 ∧ Kept (At v.y.a) W W2 ∧ Box W2 hb 68 v.cells ∧
      Hg w (W2.setRow hb (Hv.cells ⟨v.ky, v.g, v.i, v.p, ⟨a', v.y.l + 1, k'⟩, v.d, v.a, v.b⟩)) J0 J2 hb ⟨v.ky, v.g, v.i, v.p, ⟨a', v.y.l + 1, k'⟩, v.d, v.a, v.b⟩ pp { h with way := h.way ++ [m] } l T := by
  have hl := H.hal.way.len
  obtain ⟨a', k', W2, hrun, hO, hk, hat⟩ := run_appN (w := W) 66 66 47 30 312 (.agg mgZ.cells) U66 I47 rfl (by omega) 0 v.y.l v.y.k v.y.a (mgL (h.way.map dM)) H.hal.way.own (some ad) 1 cc (Mg.cs (dM m)) rfl (fun e => by cases e) (fun j u hj => ⟨ad, rfl, hm j u hj⟩) (Mg.oneL _) (by omega) (by omega) (Nat.zero_le _)
  obtain ⟨b2, J2, hal, u⟩ := H.hal.setY hk (y := ⟨a', v.y.l + 1, k'⟩) (l := h.way ++ [m]) ⟨by rw [List.map_append, mgL_app]; simpa [mgL_1] using hO, by rw [List.map_append, List.length_append, hl]; rfl⟩ (fun k e => (hat k e).imp id (fun e => by omega))
  exact ⟨a', k', W2, J2, hrun, hk, b2, H.upd hal u⟩
/-- One more is decided. -/
theorem Hg.pushD (H : Hg w W J0 J hb v pp h l T) (hn : v.d.l ≤ 1000) {ad : Addr} {cc : Nat} {c : Ytpabpeppgpeaoaa.Cm} (hc : ∀ j u, (Cm.cs (dC' c))[j]? = some u → W.cell? (ad.add j) = some u) :
    ∃ a' k' W2 J2, (Builtin.append_ #[45, 45] 45 #[v.d.v, .slice (some ad) 1 cc]).run Try.prog W = .ok (.slice a' (v.d.l + 1) k') W2 ∧ Kept (At v.d.a) W W2 ∧ Box W2 hb 68 v.cells ∧
      Hg w (W2.setRow hb (Hv.cells ⟨v.ky, v.g, v.i, v.p, v.y, ⟨a', v.d.l + 1, k'⟩, v.a, v.b⟩)) J0 J2 hb ⟨v.ky, v.g, v.i, v.p, v.y, ⟨a', v.d.l + 1, k'⟩, v.a, v.b⟩ pp { h with dec := h.dec ++ [c] } l T := by
  obtain ⟨a', k', W2, hrun, hO, hk, hat⟩ := H.hal.dec.push hn hc (cc := cc)
  obtain ⟨b2, J2, hal, u⟩ := H.hal.setD hk (d := ⟨a', v.d.l + 1, k'⟩) (l := h.dec ++ [c]) (by rw [List.map_append]; exact hO) hat
  exact ⟨a', k', W2, J2, hrun, hk, b2, H.upd hal u⟩
/-- The first ones of what is decided are left out. -/
theorem OwD.drop {w : World} {s : Sl} {cs : List Cm} (h : OwD w s cs) {n g o : Nat} (hn : n ≤ s.l) (hg : s.a = some ⟨g, o, none⟩) : OwD w ⟨some ⟨g, o + n * 9, none⟩, s.l - n, s.k - n⟩ (cs.drop n) := by
  rcases h.pl with ⟨e, _⟩ | ⟨g', off, cur, e, e2, e3, e4, e5⟩
  · rw [hg] at e; cases e
  · rw [hg] at e; cases e
    refine ⟨by simp [h.len], .inr ⟨g, o + n * 9, cur, rfl, by show s.l - n ≤ s.k - n; omega, e3, by show o + n * 9 + (s.k - n) * 9 ≤ cur.length; omega, fun j u hj => ?_⟩⟩
    have e6 : cmL cs = cmL (cs.take n) ++ cmL (cs.drop n) := by rw [← cmL_app', List.take_append_drop]
    have hl : (cmL (cs.take n)).length = n * 9 := by rw [cmL_len', List.length_take, h.len, Nat.min_eq_left hn]
    rw [Nat.add_assoc]
    refine e5 _ u ?_
    rw [e6, List.getElem?_append_right (by omega), hl, Nat.add_sub_cancel_left]
    exact hj
theorem Hg.cutD (H : Hg w W J0 J hb v pp h l T) {n g o : Nat} (hn : n ≤ v.d.l) (hg : v.d.a = some ⟨g, o, none⟩) :
    ∃ J2, Hg w (W.setRow hb (Hv.cells ⟨v.ky, v.g, v.i, v.p, v.y, ⟨some ⟨g, o + n * 9, none⟩, v.d.l - n, v.d.k - n⟩, v.a, v.b⟩)) J0 J2 hb ⟨v.ky, v.g, v.i, v.p, v.y, ⟨some ⟨g, o + n * 9, none⟩, v.d.l - n, v.d.k - n⟩, v.a, v.b⟩ pp { h with dec := h.dec.drop n } l T := by
  obtain ⟨b2, J2, hal, u⟩ := H.hal.setD (Kept.refl _ W) (d := ⟨some ⟨g, o + n * 9, none⟩, v.d.l - n, v.d.k - n⟩) (l := h.dec.drop n) (by rw [List.map_drop]; exact H.hal.dec.drop hn hg) (fun k e => .inl (by obtain ⟨ad, e, rfl⟩ := e; cases e; exact ⟨_, hg, rfl⟩))
  exact ⟨J2, H.upd hal u⟩
/-- Nothing is under way. -/
theorem Hg.noY (H : Hg w W J0 J hb v pp h l T) : ∃ J2, Hg w (W.setRow hb (Hv.cells ⟨v.ky, v.g, v.i, v.p, slZ, v.d, v.a, v.b⟩)) J0 J2 hb ⟨v.ky, v.g, v.i, v.p, slZ, v.d, v.a, v.b⟩ pp { h with way := [] } l T := by
  obtain ⟨b2, J2, hal, u⟩ := H.hal.setY (Kept.refl _ W) (y := slZ) (l := []) (OwM.nil _ _) (fun k e => absurd e At.none)
  exact ⟨J2, H.upd hal u⟩
/-- A row of numbers is written. -/
theorem Hg.setA (H : Hg w W J0 J hb v pp h l T) {g j : Nat} (hg : v.a.a = some ⟨g, 0, none⟩) (hj : j < v.a.l) (z : Int) : ∃ cs, (storeVar 3 ⟨g, 0 + j * 1, none⟩ (.int .i64 z)).run Try.prog W = .ok () (W.setRow g cs) ∧ Hg w (W.setRow g cs) J0 J hb v pp { h with nkd := h.nkd.set j z } l T := by
  obtain ⟨I, A⟩ := H.hal
  have ho : Own 3 1 W 0 v.a.a v.a.k v.a.l (h.nkd.map (fun b => [Value.int .i64 b])).flatten := by rw [← List.flatMap_def, ← List.map_eq_flatMap]; exact A.nkd.own
  obtain ⟨cs, hrun, hO⟩ := Own.setN (ty := 3) (v := .int .i64 z) (y := [.int .i64 z]) ho (by intro x hx; obtain ⟨y, _, rfl⟩ := List.mem_map.1 hx; rfl) (by rw [List.length_map]; exact A.nkd.len) hj hg rfl S3 (by simp [Value.oneCell']) rfl
  have hO' : OwI (W.setRow g cs) 0 v.a (h.nkd.set j z) := ⟨by rw [← List.map_set] at hO; rw [List.map_eq_flatMap, List.flatMap_def]; exact hO, by rw [List.length_set]; exact A.nkd.len⟩
  have hk : Kept (Only g) W (W.setRow g cs) := Kept.setRow W g cs
  have off : ∀ {a : Option Addr}, (∀ k, At v.a.a k → ¬ At a k) → ∀ k, At a k → ¬ Only g k := fun hne k e f => hne g ⟨_, hg, rfl⟩ ((show k = g from f) ▸ e)
  obtain ⟨A', u⟩ := A.rows hk (fun k e => .inr (.inl ((show k = g from e) ▸ ⟨_, hg, rfl⟩))) (ins := h.ins) (nkd := h.nkd.set j z) (nks := h.nks) (A.ins.kept hk (off (fun k e f => no_ty (A.tyA e) (A.tyI f) (by decide)))) hO' (A.nks.kept hk (off (fun k e => A.ab k e)))
  exact ⟨cs, hrun, H.upd ⟨I, A'⟩ u⟩
theorem Hg.setB (H : Hg w W J0 J hb v pp h l T) {g j : Nat} (hg : v.b.a = some ⟨g, 0, none⟩) (hj : j < v.b.l) (z : Int) : ∃ cs, (storeVar 3 ⟨g, 0 + j * 1, none⟩ (.int .i64 z)).run Try.prog W = .ok () (W.setRow g cs) ∧ Hg w (W.setRow g cs) J0 J hb v pp { h with nks := h.nks.set j z } l T := by
  obtain ⟨I, A⟩ := H.hal
  have ho : Own 3 1 W 0 v.b.a v.b.k v.b.l (h.nks.map (fun b => [Value.int .i64 b])).flatten := by rw [← List.flatMap_def, ← List.map_eq_flatMap]; exact A.nks.own
  obtain ⟨cs, hrun, hO⟩ := Own.setN (ty := 3) (v := .int .i64 z) (y := [.int .i64 z]) ho (by intro x hx; obtain ⟨y, _, rfl⟩ := List.mem_map.1 hx; rfl) (by rw [List.length_map]; exact A.nks.len) hj hg rfl S3 (by simp [Value.oneCell']) rfl
  have hO' : OwI (W.setRow g cs) 0 v.b (h.nks.set j z) := ⟨by rw [← List.map_set] at hO; rw [List.map_eq_flatMap, List.flatMap_def]; exact hO, by rw [List.length_set]; exact A.nks.len⟩
  have hk : Kept (Only g) W (W.setRow g cs) := Kept.setRow W g cs
  have off : ∀ {a : Option Addr}, (∀ k, At v.b.a k → ¬ At a k) → ∀ k, At a k → ¬ Only g k := fun hne k e f => hne g ⟨_, hg, rfl⟩ ((show k = g from f) ▸ e)
  obtain ⟨A', u⟩ := A.rows hk (fun k e => .inr (.inr ((show k = g from e) ▸ ⟨_, hg, rfl⟩))) (ins := h.ins) (nkd := h.nkd) (nks := h.nks.set j z) (A.ins.kept hk (off (fun k e f => no_ty (A.tyB e) (A.tyI f) (by decide)))) (A.nkd.kept hk (off (fun k e f => A.ab k f e))) hO'
  exact ⟨cs, hrun, H.upd ⟨I, A'⟩ u⟩
theorem Hg.setI (H : Hg w W J0 J hb v pp h l T) {g j : Nat} (hg : v.i.a = some ⟨g, 0, none⟩) (hj : j < v.i.l) (x : Ytpabpeppgpeaoaa.In) : ∃ cs, (storeVar 142 ⟨g, 0 + j * 14, none⟩ (.agg (In.cells (dI x)))).run Try.prog W = .ok () (W.setRow g cs) ∧ Hg w (W.setRow g cs) J0 J hb v pp { h with ins := h.ins.set j x } l T := by
  obtain ⟨I, A⟩ := H.hal
  obtain ⟨cs, hrun, hO⟩ := Own.setN (ty := 142) (v := .agg (In.cells (dI x))) (y := In.cs (dI x)) A.ins.own (insL_c _) (by rw [List.length_map]; exact A.ins.len) hj hg rfl S142 (In.oneL _) rfl
  have hO' : OwN (W.setRow g cs) 0 v.i ((h.ins.set j x).map dI) := ⟨by rw [List.map_set]; show Own 142 14 _ 0 _ _ _ (((h.ins.map dI).set j (dI x)).map In.cs).flatten; rw [List.map_set]; exact hO, by rw [List.length_map, List.length_set, ← List.length_map (f := dI)]; exact A.ins.len⟩
  have hk : Kept (Only g) W (W.setRow g cs) := Kept.setRow W g cs
  have off : ∀ {a : Option Addr}, (∀ k, At v.i.a k → ¬ At a k) → ∀ k, At a k → ¬ Only g k := fun hne k e f => hne g ⟨_, hg, rfl⟩ ((show k = g from f) ▸ e)
  obtain ⟨A', u⟩ := A.rows hk (fun k e => .inl ((show k = g from e) ▸ ⟨_, hg, rfl⟩)) (ins := h.ins.set j x) (nkd := h.nkd) (nks := h.nks) hO' (A.nkd.kept hk (off (fun k e f => no_ty (A.tyI e) (A.tyA f) (by decide)))) (A.nks.kept hk (off (fun k e f => no_ty (A.tyI e) (A.tyB f) (by decide))))
  exact ⟨cs, hrun, H.upd ⟨I, A'⟩ u⟩
/-- A proposer is asked. -/
theorem Hg.ask (H : Hg w W J0 J hb v pp h l T) {j : Nat} {s : PS} (hj : h.ps[j]? = some s) : ∃ k Ij, pp[j]? = some k ∧ Prp W Ij k s ∧ ∀ s' q e W2, PrOut W Ij k s' q e W2 → ∃ la lc J2, e = .returned (.slice la q.length lc) ∧ Hg w W2 J0 J2 hb v pp { h with ps := h.ps.set j s' } l (T ++ [(⟨la, q.length, lc⟩, q.map dM)]) := by
  obtain ⟨k, Ij, hk, hp, hO⟩ := H.hal.ask hj
  refine ⟨k, Ij, hk, hp, fun s' q e W2 ho => ?_⟩
  obtain ⟨la, lc, J2, he, hal, u, hM, hd⟩ := hO s' q e W2 ho
  exact ⟨la, lc, J2, he, (H.upd hal u).add hM hd (fun i g t cs hi e => by have := Own.base hM.own e; have := (H.fr.box i g t cs hi).lt; omega)⟩
theorem Hg.hcall (H : Hg w W J0 J hb v pp h l T) {e : Ending} (ho : HlO W J hb pp h2 e W2) : ∃ J2 v2, e = .returned (.tuple #[]) ∧ Hg w W2 J0 J2 hb v2 pp h2 l T := by
  obtain ⟨he, J2, v2, hal, u⟩ := ho
  exact ⟨J2, v2, he, H.upd hal u⟩
end
theorem send_step {way ms : List Ms} {i : Nat} {m : Ms} (hm : ms[i]? = some m) : Pax.sendW way (ms.take (i + 1)) = if (Pax.sendW way (ms.take i)).length < 4000 then Pax.sendW way (ms.take i) ++ [m] else Pax.sendW way (ms.take i) := by
  have hi := (List.getElem?_eq_some_iff.1 hm).1
  unfold Pax.sendW
  rw [List.take_take, List.take_take, List.length_append, List.length_take]
  by_cases e : way.length + min (4000 - way.length) i < 4000
  · rw [if_pos (by omega), Nat.min_eq_right (by omega), Nat.min_eq_right (by omega), List.take_add_one, hm, List.append_assoc]; rfl
  · rw [if_neg (by omega), Nat.min_eq_left (by omega), Nat.min_eq_left (by omega)]
end Go.Proofs.Ytpabpeppgpeaoaa.Md
