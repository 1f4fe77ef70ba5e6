import Derived.Test.YtcgnbpaaalmkoaaBj
namespace Go.Proofs.Ytcgnbpaaalmkoaa
open Go.RowKit
set_option linter.unusedVariables false
set_option linter.unusedSimpArgs false

/-- A message in memory, and one that is lent. -/
structure MgAt (w : World) (m : Mg) (bs : List Int) (es : List En) (ls : List La) (cs : List Cm) : Prop where
  b : RdB w m.bl bs
  e : RdE w m.bk.e es
  l : RdL w m.bk.l ls
  c : RdC w m.cm cs
  nb : m.bl.l ≤ 140737488351232
  ne : m.bk.e.l ≤ 3518437208780
  nl : m.bk.l.l ≤ 2513169434843
  nc : m.cm.l ≤ 1759218604390
theorem MgAt.no {w w' : World} {m : Mg} {bs : List Int} {es : List En} {ls : List La} {cs : List Cm} (H : MgAt w m bs es ls cs) (hk : Kept No w w') : MgAt w' m bs es ls cs := ⟨H.b.no hk, H.e.no hk, H.l.no hk, H.c.no hk, H.nb, H.ne, H.nl, H.nc⟩
theorem rd_C {w : World} {g : Nat} {s : Sl} {xs : List Cm} (hn : xs.length = s.l) (hb : Box w g 47 (cmL (tab (s.l + 67) (lntC s.l xs))).toArray) : RdC w (lent s g) xs := by
  refine ⟨fun i it hi => ⟨g, 0, rfl, fun j v hv => ?_⟩, hn, fun e => by cases e⟩
  rw [List.getElem?_map] at hi
  cases hx : xs[i]? with
  | none => rw [hx] at hi; cases hi
  | some x =>
    rw [hx] at hi
    cases hi
    exact row_C hb (lnt_get hn i x hx) j v hv
theorem RdC.src {w : World} {s : Sl} {cs : List Cm} (h : RdC w s cs) : ∀ (j : Nat) u, (cmL cs)[j]? = some u → ∃ ad, s.a = some ad ∧ w.cell? (ad.add j) = some u := by
  intro j u hj
  have hlt := (List.getElem?_eq_some_iff.1 hj).1
  rw [cmL_len] at hlt
  have hi : j / 9 < cs.length := by omega
  obtain ⟨b, off, e, hc⟩ := Cs.at h.row hi
  refine ⟨⟨b, off, none⟩, e, ?_⟩
  rw [addr_add]
  have h9 : j = j / 9 * 9 + j % 9 := by omega
  have hx : (cAt cs (j / 9)).cs[j % 9]? = some u := by
    have hl : (cAt cs (j / 9)).cs.length = 9 := rfl
    have h1 := flat_get 9 (cs.map Cm.cs) (cmL_c cs) (j / 9) (cAt cs (j / 9)).cs (by rw [List.getElem?_map, cAt_some hi]; rfl) (j % 9) _ (List.getElem?_eq_getElem (by rw [hl]; omega))
    rw [← h9] at h1
    rw [List.getElem?_eq_getElem (by rw [hl]; omega)]
    have h2 : (cmL cs)[j]? = _ := h1
    rw [hj] at h2
    exact h2.symm
  rw [show off + j = off + j / 9 * 9 + j % 9 by omega]
  exact hc _ _ hx
theorem cpy_C {w : World} {g : Nat} {s : Sl} {es : List Cm} (ty : TypeId) (hb : Box w g 47 (cmL (List.replicate (s.l + 67) cZ)).toArray) (he : RdC w s es) : (Builtin.copy_ #[48, 48] ty #[.slice (some ⟨g, 0, none⟩) (s.l + 67) (s.l + 67), s.v]).run Try.prog w = .ok (goInt s.l) (w.setRow g (cmL (tab (s.l + 67) (upt (lntC s.l es) cZ s.l))).toArray) := by
  obtain ⟨ea, en, ec⟩ := s
  dsimp only at hb ⊢
  have hl : es.length = en := he.len
  unfold lntC
  rw [← app_tab _ _ 67 hl]
  have hp : putL (cmL (List.replicate (en + 67) cZ)) 0 (cmL es) = cmL (es ++ List.replicate 67 cZ) := by
    rw [cmL_app]
    unfold putL
    rw [List.take_zero, List.nil_append, Nat.zero_add, cmL_len, hl, ← List.replicate_append_replicate, cmL_app, List.drop_append_of_le_length (by rw [cmL_len, List.length_replicate]; exact Nat.le_refl _), List.drop_of_length_le (by rw [cmL_len, List.length_replicate]; exact Nat.le_refl _)]
    rfl
  show (Builtin.copy_ #[48, 48] ty #[.slice (some ⟨g, 0, none⟩) (en + 67) (en + 67), .slice ea en ec]).run Try.prog w = .ok (goInt en) (w.setRow g (cmL (es ++ List.replicate 67 cZ)).toArray)
  cases ea with
  | none =>
    have hes : es = [] := by
      cases es with
      | nil => rfl
      | cons x r =>
        obtain ⟨b, off, e, _⟩ := he.row 0 x.cs rfl
        cases e
    subst hes
    have hn : en = 0 := hl.symm
    subst hn
    have : (Builtin.copy_ #[48, 48] ty #[.slice (some ⟨g, 0, none⟩) (0 + 67) (0 + 67), .slice none 0 ec]).run Try.prog w = .ok (goInt 0) w := by
      simp [Builtin.copy_, run_underlying Try.und48, Builtin.lenOf, size_of Try.size47, run_firstCells_none, storeCells]
    rw [this]
    rw [show w.setRow g (cmL ([] ++ List.replicate 67 cZ)).toArray = w from setRow_self hb]
    rfl
  | some ad =>
    rw [← hp]
    exact run_copyN 48 ty 47 9 Try.und48 Try.size47 hb (en + 67) (en + 67) ad en ec en (by omega) (cmL es) (by rw [cmL_len, hl]) (fun j u h => by
      obtain ⟨ad', e1, e2⟩ := he.src j u h
      cases e1; exact e2) (by rw [Nat.zero_add, cmL_len, cmL_len, List.length_replicate, hl]; omega) (cmL_one _)
def lentM (m : Mg) (gb ge gl gc : Nat) : Mg := ⟨m.k, m.fr, m.to, m.op, m.rd, m.ky, m.st, m.hd, lent m.bl gb, m.c, ⟨m.bk.up, lent m.bk.e ge, lent m.bk.l gl⟩, lent m.cm gc, m.mo⟩
structure LmAt (W : World) (base : Nat) (m : Mg) (bs : List Int) (es : List En) (ls : List La) (cs : List Cm) (gb ge gl gc : Nat) : Prop where
  b : Box W gb 5 (u8L (tab (m.bl.l + 67) (lntB m.bl.l bs))).toArray
  e : Box W ge 110 (enL (tab (m.bk.e.l + 67) (lntE m.bk.e.l es))).toArray
  l : Box W gl 113 (laL (tab (m.bk.l.l + 67) (lntL m.bk.l.l ls))).toArray
  c : Box W gc 47 (cmL (tab (m.cm.l + 67) (lntC m.cm.l cs))).toArray
  lb : base ≤ gb
  le : base ≤ ge
  ll : base ≤ gl
  lc : base ≤ gc
theorem LmAt.no {W W' : World} {base : Nat} {m : Mg} {bs : List Int} {es : List En} {ls : List La} {cs : List Cm} {gb ge gl gc : Nat} (H : LmAt W base m bs es ls cs gb ge gl gc) (hk : Kept No W W') : LmAt W' base m bs es ls cs gb ge gl gc := ⟨H.b.no hk, H.e.no hk, H.l.no hk, H.c.no hk, H.lb, H.le, H.ll, H.lc⟩
def LmOut (w : World) (m : Mg) (bs : List Int) (es : List En) (ls : List La) (cs : List Cm) (e : Ending) (w' : World) : Prop := ∃ gb ge gl gc : Nat, e = .returned (.agg (Mg.cells (lentM m gb ge gl gc))) ∧ LmAt w' w.heap.size m bs es ls cs gb ge gl gc ∧ Kept No w w'
set_option maxRecDepth 100000 in
set_option maxHeartbeats 4000000 in
theorem lendM_any (m : Mg) (bs : List Int) (es : List En) (ls : List La) (cs : List Cm) (w : World) (hh : MgAt w m bs es ls cs) : Calls Try.prog 16 #[.agg (Mg.cells m)] w (LmOut w m bs es ls cs) := by
  obtain ⟨C, hC⟩ : ∃ C : Ending → World → Prop, C = (LmOut w m bs es ls cs) := ⟨_, rfl⟩
  have HC : Hid (C = (LmOut w m bs es ls cs)) := hC
  rw [← hC]
  clear hC
  have HH : Hid (MgAt w m bs es ls cs) := hh
  have hn := hh.nc
  clear hh
  have HF : Hid (Fr No w w []) := Fr.start _ _
  go_enter Try.func16, Try.ntmps16
  go_upto_region 0 with fail
  refine WL.start ?_
  refine wp_runW (.pointer (some ⟨w.heap.size, 0, none⟩)) (w.alloc (.cells (Mg.cells m) 50)) (exec_box 50 _ rfl (Mg.cells m) (by kernel_rfl)) (by kernel_rfl) ?_
  try simp only [pA, pB, p1, p2, p3]
  have HF : Hid (Fr No w (w.alloc (.cells (Mg.cells m) 50)) [(w.heap.size, 50, Mg.cells m)]) := HF.out.alloc _ _
  generalize w.alloc (.cells (Mg.cells m) 50) = wk2 at HF ⊢
  generalize w.heap.size = gk1 at HF ⊢
  refine wp_runW (.pointer (some ⟨wk2.heap.size, 0, none⟩)) (wk2.alloc (.cells (Mg.cells mgZ) 50)) (exec_alloc 50 rfl (Mg.cells mgZ) zero50) (by kernel_rfl) ?_
  try simp only [pA, pB, p1, p2, p3]
  have HF : Hid (Fr No w (wk2.alloc (.cells (Mg.cells mgZ) 50)) [(gk1, 50, Mg.cells m), (wk2.heap.size, 50, Mg.cells mgZ)]) := HF.out.alloc _ _
  generalize wk2.alloc (.cells (Mg.cells mgZ) 50) = wk4 at HF ⊢
  generalize wk2.heap.size = gk3 at HF ⊢
  refine WL.nil ?_
  try simp only [pA, pB, p1, p2, p3]
  go_upto_region 1 with fail
  refine WL.start ?_
  refine tW (.agg (Mg.cells m)) (exec_load 50 _ rfl ⟨gk1, 0, none⟩ (by kernel_rfl) (.agg (Mg.cells m)) (run_load_part (cs := Mg.cs m) (sub := Mg.cs m) (HF.out.box 0 _ _ _ rfl) (Part.all _) Try.und50 rfl Try.size50)) ?_
  try simp only [pA, pB, p1, p2, p3]
  refine wp_runW (.pointer (some ⟨wk4.heap.size, 0, none⟩)) (wk4.alloc (.cells (Mg.cells mgZ) 50)) (exec_alloc 50 rfl (Mg.cells mgZ) zero50) (by kernel_rfl) ?_
  try simp only [pA, pB, p1, p2, p3]
  have HF : Hid (Fr No w (wk4.alloc (.cells (Mg.cells mgZ) 50)) [(gk1, 50, Mg.cells m), (gk3, 50, Mg.cells mgZ), (wk4.heap.size, 50, Mg.cells mgZ)]) := HF.out.alloc _ _
  generalize wk4.alloc (.cells (Mg.cells mgZ) 50) = wk6 at HF ⊢
  generalize wk4.heap.size = gk5 at HF ⊢
  refine wp_storeW 50 _ _ rfl ⟨gk5, 0, none⟩ (.agg (Mg.cells m)) (by kernel_rfl) (by kernel_rfl) (wk6.setRow gk5 (Mg.cells m)) (run_store_to (cur := Mg.cs mgZ) (vs := Mg.cs m) (new := Mg.cs m) (HF.out.box 2 _ _ _ rfl) (by kernel_rfl) Try.size50 (Nat.le_of_ble_eq_true (by kernel_rfl)) (Mg.oneL _) (by kernel_rfl)) (by kernel_rfl) ?_
  try simp only [pA, pB, p1, p2, p3]
  have HF : Hid (Fr No w (wk6.setRow gk5 (Mg.cells m)) [(gk1, 50, Mg.cells m), (gk3, 50, Mg.cells mgZ), (gk5, 50, Mg.cells m)]) := HF.out.set 2 rfl _
  generalize wk6.setRow gk5 (Mg.cells m) = wk7 at HF ⊢
  refine WL.nil ?_
  try simp only [pA, pB, p1, p2, p3]
  go_upto_region 2 with fail
  refine WL.start ?_
  refine tK (.pointer (some ⟨gk1, 15, none⟩)) ?_
  try simp only [pA, pB, p1, p2, p3]
  refine tW (m.bl.v) (exec_load 26 _ rfl ⟨gk1, 15, none⟩ (by kernel_rfl) (m.bl.v) (load_one ((HF.out.box 0 _ _ _ rfl).cell 15 |>.trans (by kernel_rfl)) Try.und26 rfl)) ?_
  try simp only [pA, pB, p1, p2, p3]
  refine wp_callW 33 #[m.bl.v] (by kernel_rfl) _ (lendB_any m.bl bs _ (HH.out.b.no HF.out.kept) HH.out.nb) (by kernel_rfl) ?_
  rintro e wk8 ⟨gb, rfl, hgb, hbb, hk⟩
  have HF : Hid (Fr No w (wk8) [(gk1, 50, Mg.cells m), (gk3, 50, Mg.cells mgZ), (gk5, 50, Mg.cells m), (gb, 5, (u8L (tab (m.bl.l + 67) (lntB m.bl.l bs))).toArray)]) := HF.out.add hk hgb hbb
  clear hk hgb hbb
  refine ⟨.slice (some ⟨gb, 0, none⟩) m.bl.l (m.bl.l + 67), rfl, ?_⟩
  try simp only [pA, pB, p1, p2, p3]
  refine tK (.pointer (some ⟨gk5, 15, none⟩)) ?_
  try simp only [pA, pB, p1, p2, p3]
  refine wp_storeW 26 _ _ rfl ⟨gk5, 15, none⟩ (.slice (some ⟨gb, 0, none⟩) m.bl.l (m.bl.l + 67)) (by kernel_rfl) (by kernel_rfl) (wk8.setRow gk5 (Mg.cells ⟨m.k, m.fr, m.to, m.op, m.rd, m.ky, m.st, m.hd, ⟨(some ⟨gb, 0, none⟩), m.bl.l, (m.bl.l + 67)⟩, m.c, m.bk, m.cm, m.mo⟩)) (run_store_to (cur := Mg.cs m) (vs := [.slice (some ⟨gb, 0, none⟩) m.bl.l (m.bl.l + 67)]) (new := Mg.cs ⟨m.k, m.fr, m.to, m.op, m.rd, m.ky, m.st, m.hd, ⟨(some ⟨gb, 0, none⟩), m.bl.l, (m.bl.l + 67)⟩, m.c, m.bk, m.cm, m.mo⟩) (HF.out.box 2 _ _ _ rfl) (by kernel_rfl) Try.size26 (Nat.le_of_ble_eq_true (by kernel_rfl)) (by simp [Value.oneCell', Sl.v]) (by kernel_rfl)) (by kernel_rfl) ?_
  try simp only [pA, pB, p1, p2, p3]
  have HF : Hid (Fr No w (wk8.setRow gk5 (Mg.cells ⟨m.k, m.fr, m.to, m.op, m.rd, m.ky, m.st, m.hd, ⟨(some ⟨gb, 0, none⟩), m.bl.l, (m.bl.l + 67)⟩, m.c, m.bk, m.cm, m.mo⟩)) [(gk1, 50, Mg.cells m), (gk3, 50, Mg.cells mgZ), (gk5, 50, Mg.cells ⟨m.k, m.fr, m.to, m.op, m.rd, m.ky, m.st, m.hd, ⟨(some ⟨gb, 0, none⟩), m.bl.l, (m.bl.l + 67)⟩, m.c, m.bk, m.cm, m.mo⟩), (gb, 5, (u8L (tab (m.bl.l + 67) (lntB m.bl.l bs))).toArray)]) := HF.out.set 2 rfl _
  generalize wk8.setRow gk5 (Mg.cells ⟨m.k, m.fr, m.to, m.op, m.rd, m.ky, m.st, m.hd, ⟨(some ⟨gb, 0, none⟩), m.bl.l, (m.bl.l + 67)⟩, m.c, m.bk, m.cm, m.mo⟩) = wk9 at HF ⊢
  refine WL.nil ?_
  try simp only [pA, pB, p1, p2, p3]
  go_upto_region 3 with fail
  refine WL.start ?_
  refine tK (.pointer (some ⟨gk1, 25, none⟩)) ?_
  try simp only [pA, pB, p1, p2, p3]
  refine tW (.agg (Bv.cells m.bk)) (exec_load 32 _ rfl ⟨gk1, 25, none⟩ (by kernel_rfl) (.agg (Bv.cells m.bk)) (run_load_part (cs := Mg.cs m) (sub := Bv.cs m.bk) (HF.out.box 0 _ _ _ rfl) (part_of (by kernel_rfl)) Try.und32 rfl Try.size32)) ?_
  try simp only [pA, pB, p1, p2, p3]
  refine wp_callW 34 #[.agg (Bv.cells m.bk)] (by kernel_rfl) _ (lendK_any m.bk es ls _ (HH.out.e.no HF.out.kept) (HH.out.l.no HF.out.kept) HH.out.ne HH.out.nl) (by kernel_rfl) ?_
  rintro e wk10 ⟨ge, gl, rfl, hge, hgl, hbe, hbl, hk⟩
  have HF : Hid (Fr No w (wk10) [(gk1, 50, Mg.cells m), (gk3, 50, Mg.cells mgZ), (gk5, 50, Mg.cells ⟨m.k, m.fr, m.to, m.op, m.rd, m.ky, m.st, m.hd, ⟨(some ⟨gb, 0, none⟩), m.bl.l, (m.bl.l + 67)⟩, m.c, m.bk, m.cm, m.mo⟩), (gb, 5, (u8L (tab (m.bl.l + 67) (lntB m.bl.l bs))).toArray), (ge, 110, (enL (tab (m.bk.e.l + 67) (lntE m.bk.e.l es))).toArray), (gl, 113, (laL (tab (m.bk.l.l + 67) (lntL m.bk.l.l ls))).toArray)]) := HF.out.add2 hk hge hbe hgl hbl (by decide)
  clear hk hge hgl hbe hbl
  refine ⟨.agg (Bv.cells ⟨m.bk.up, ⟨(some ⟨ge, 0, none⟩), m.bk.e.l, (m.bk.e.l + 67)⟩, ⟨(some ⟨gl, 0, none⟩), m.bk.l.l, (m.bk.l.l + 67)⟩⟩), rfl, ?_⟩
  try simp only [pA, pB, p1, p2, p3]
  refine tK (.pointer (some ⟨gk5, 25, none⟩)) ?_
  try simp only [pA, pB, p1, p2, p3]
  refine wp_storeW 32 _ _ rfl ⟨gk5, 25, none⟩ (.agg (Bv.cells ⟨m.bk.up, ⟨(some ⟨ge, 0, none⟩), m.bk.e.l, (m.bk.e.l + 67)⟩, ⟨(some ⟨gl, 0, none⟩), m.bk.l.l, (m.bk.l.l + 67)⟩⟩)) (by kernel_rfl) (by kernel_rfl) (wk10.setRow gk5 (Mg.cells ⟨m.k, m.fr, m.to, m.op, m.rd, m.ky, m.st, m.hd, ⟨(some ⟨gb, 0, none⟩), m.bl.l, (m.bl.l + 67)⟩, m.c, ⟨m.bk.up, ⟨(some ⟨ge, 0, none⟩), m.bk.e.l, (m.bk.e.l + 67)⟩, ⟨(some ⟨gl, 0, none⟩), m.bk.l.l, (m.bk.l.l + 67)⟩⟩, m.cm, m.mo⟩)) (run_store_to (cur := Mg.cs ⟨m.k, m.fr, m.to, m.op, m.rd, m.ky, m.st, m.hd, ⟨(some ⟨gb, 0, none⟩), m.bl.l, (m.bl.l + 67)⟩, m.c, m.bk, m.cm, m.mo⟩) (vs := Bv.cs ⟨m.bk.up, ⟨(some ⟨ge, 0, none⟩), m.bk.e.l, (m.bk.e.l + 67)⟩, ⟨(some ⟨gl, 0, none⟩), m.bk.l.l, (m.bk.l.l + 67)⟩⟩) (new := Mg.cs ⟨m.k, m.fr, m.to, m.op, m.rd, m.ky, m.st, m.hd, ⟨(some ⟨gb, 0, none⟩), m.bl.l, (m.bl.l + 67)⟩, m.c, ⟨m.bk.up, ⟨(some ⟨ge, 0, none⟩), m.bk.e.l, (m.bk.e.l + 67)⟩, ⟨(some ⟨gl, 0, none⟩), m.bk.l.l, (m.bk.l.l + 67)⟩⟩, m.cm, m.mo⟩) (HF.out.box 2 _ _ _ rfl) (by kernel_rfl) Try.size32 (Nat.le_of_ble_eq_true (by kernel_rfl)) (Bv.oneL _) (by kernel_rfl)) (by kernel_rfl) ?_
  try simp only [pA, pB, p1, p2, p3]
  have HF : Hid (Fr No w (wk10.setRow gk5 (Mg.cells ⟨m.k, m.fr, m.to, m.op, m.rd, m.ky, m.st, m.hd, ⟨(some ⟨gb, 0, none⟩), m.bl.l, (m.bl.l + 67)⟩, m.c, ⟨m.bk.up, ⟨(some ⟨ge, 0, none⟩), m.bk.e.l, (m.bk.e.l + 67)⟩, ⟨(some ⟨gl, 0, none⟩), m.bk.l.l, (m.bk.l.l + 67)⟩⟩, m.cm, m.mo⟩)) [(gk1, 50, Mg.cells m), (gk3, 50, Mg.cells mgZ), (gk5, 50, Mg.cells ⟨m.k, m.fr, m.to, m.op, m.rd, m.ky, m.st, m.hd, ⟨(some ⟨gb, 0, none⟩), m.bl.l, (m.bl.l + 67)⟩, m.c, ⟨m.bk.up, ⟨(some ⟨ge, 0, none⟩), m.bk.e.l, (m.bk.e.l + 67)⟩, ⟨(some ⟨gl, 0, none⟩), m.bk.l.l, (m.bk.l.l + 67)⟩⟩, m.cm, m.mo⟩), (gb, 5, (u8L (tab (m.bl.l + 67) (lntB m.bl.l bs))).toArray), (ge, 110, (enL (tab (m.bk.e.l + 67) (lntE m.bk.e.l es))).toArray), (gl, 113, (laL (tab (m.bk.l.l + 67) (lntL m.bk.l.l ls))).toArray)]) := HF.out.set 2 rfl _
  generalize wk10.setRow gk5 (Mg.cells ⟨m.k, m.fr, m.to, m.op, m.rd, m.ky, m.st, m.hd, ⟨(some ⟨gb, 0, none⟩), m.bl.l, (m.bl.l + 67)⟩, m.c, ⟨m.bk.up, ⟨(some ⟨ge, 0, none⟩), m.bk.e.l, (m.bk.e.l + 67)⟩, ⟨(some ⟨gl, 0, none⟩), m.bk.l.l, (m.bk.l.l + 67)⟩⟩, m.cm, m.mo⟩) = wk11 at HF ⊢
  refine WL.nil ?_
  try simp only [pA, pB, p1, p2, p3]
  go_upto_region 4 with fail
  refine WL.start ?_
  refine tK (.pointer (some ⟨gk1, 28, none⟩)) ?_
  try simp only [pA, pB, p1, p2, p3]
  refine tW (m.cm.v) (exec_load 48 _ rfl ⟨gk1, 28, none⟩ (by kernel_rfl) (m.cm.v) (load_one ((HF.out.box 0 _ _ _ rfl).cell 28 |>.trans (by kernel_rfl)) Try.und48 rfl)) ?_
  try simp only [pA, pB, p1, p2, p3]
  refine tK (.int .i64 ((m.cm.l : Nat) : Int)) ?_
  try simp only [pA, pB, p1, p2, p3]
  refine tW (.int .i64 (((m.cm.l + 67) : Nat) : Int)) (exec_bin .add 3 _ _ _ rfl (.int .i64 ((m.cm.l : Nat) : Int)) (.int .i64 67) (.int .i64 (((m.cm.l + 67) : Nat) : Int)) (by kernel_rfl) (by kernel_rfl) (by kernel_rfl) (b_addw _ _ _ (by rw [IntKind.wrap_i64]; omega) _)) ?_
  try simp only [pA, pB, p1, p2, p3]
  refine wp_runW (.slice (some ⟨wk11.heap.size, 0, none⟩) (m.cm.l + 67) (m.cm.l + 67)) (wk11.alloc (.cells ((cmL (List.replicate (m.cm.l + 67) cZ)).toArray) 47)) (exec_make 48 _ _ rfl _ _ (by kernel_rfl) (by kernel_rfl) (make_cm _ (m.cm.l + 67) (by omega))) (by kernel_rfl) ?_
  try simp only [pA, pB, p1, p2, p3]
  have HF : Hid (Fr No w (wk11.alloc (.cells ((cmL (List.replicate (m.cm.l + 67) cZ)).toArray) 47)) [(gk1, 50, Mg.cells m), (gk3, 50, Mg.cells mgZ), (gk5, 50, Mg.cells ⟨m.k, m.fr, m.to, m.op, m.rd, m.ky, m.st, m.hd, ⟨(some ⟨gb, 0, none⟩), m.bl.l, (m.bl.l + 67)⟩, m.c, ⟨m.bk.up, ⟨(some ⟨ge, 0, none⟩), m.bk.e.l, (m.bk.e.l + 67)⟩, ⟨(some ⟨gl, 0, none⟩), m.bk.l.l, (m.bk.l.l + 67)⟩⟩, m.cm, m.mo⟩), (gb, 5, (u8L (tab (m.bl.l + 67) (lntB m.bl.l bs))).toArray), (ge, 110, (enL (tab (m.bk.e.l + 67) (lntE m.bk.e.l es))).toArray), (gl, 113, (laL (tab (m.bk.l.l + 67) (lntL m.bk.l.l ls))).toArray), (wk11.heap.size, 47, (cmL (List.replicate (m.cm.l + 67) cZ)).toArray)]) := HF.out.alloc _ _
  generalize wk11.alloc (.cells ((cmL (List.replicate (m.cm.l + 67) cZ)).toArray) 47) = wk13 at HF ⊢
  generalize wk11.heap.size = gk12 at HF ⊢
  refine tK (.slice (some ⟨gk12, 0, none⟩) (m.cm.l + 67) (m.cm.l + 67)) ?_
  try simp only [pA, pB, p1, p2, p3]
  refine WL.nil ?_
  try simp only [pA, pB, p1, p2, p3]
  go_upto_region 5 with fail
  refine WL.start ?_
  refine tK (.slice (some ⟨gk12, 0, none⟩) (m.cm.l + 67) (m.cm.l + 67)) ?_
  try simp only [pA, pB, p1, p2, p3]
  refine tK (.pointer (some ⟨gk1, 28, none⟩)) ?_
  try simp only [pA, pB, p1, p2, p3]
  refine tW (m.cm.v) (exec_load 48 _ rfl ⟨gk1, 28, none⟩ (by kernel_rfl) (m.cm.v) (load_one ((HF.out.box 0 _ _ _ rfl).cell 28 |>.trans (by kernel_rfl)) Try.und48 rfl)) ?_
  try simp only [pA, pB, p1, p2, p3]
  refine wp_runW (goInt m.cm.l) (wk13.setRow gk12 ((cmL (tab (m.cm.l + 67) (upt (lntC m.cm.l cs) cZ m.cm.l))).toArray)) (exec_copy _ _ 48 48 rfl _ _ (by kernel_rfl) (by kernel_rfl) (cpy_C _ (HF.out.box 6 _ _ _ rfl) (HH.out.c.no HF.out.kept))) (by kernel_rfl) ?_
  try simp only [pA, pB, p1, p2, p3]
  have HF : Hid (Fr No w (wk13.setRow gk12 ((cmL (tab (m.cm.l + 67) (upt (lntC m.cm.l cs) cZ m.cm.l))).toArray)) [(gk1, 50, Mg.cells m), (gk3, 50, Mg.cells mgZ), (gk5, 50, Mg.cells ⟨m.k, m.fr, m.to, m.op, m.rd, m.ky, m.st, m.hd, ⟨(some ⟨gb, 0, none⟩), m.bl.l, (m.bl.l + 67)⟩, m.c, ⟨m.bk.up, ⟨(some ⟨ge, 0, none⟩), m.bk.e.l, (m.bk.e.l + 67)⟩, ⟨(some ⟨gl, 0, none⟩), m.bk.l.l, (m.bk.l.l + 67)⟩⟩, m.cm, m.mo⟩), (gb, 5, (u8L (tab (m.bl.l + 67) (lntB m.bl.l bs))).toArray), (ge, 110, (enL (tab (m.bk.e.l + 67) (lntE m.bk.e.l es))).toArray), (gl, 113, (laL (tab (m.bk.l.l + 67) (lntL m.bk.l.l ls))).toArray), (gk12, 47, (cmL (tab (m.cm.l + 67) (upt (lntC m.cm.l cs) cZ m.cm.l))).toArray)]) := HF.out.set 6 rfl _
  generalize wk13.setRow gk12 ((cmL (tab (m.cm.l + 67) (upt (lntC m.cm.l cs) cZ m.cm.l))).toArray) = wk14 at HF ⊢
  refine WL.nil ?_
  try simp only [pA, pB, p1, p2, p3]
  go_upto_region 6 with fail
  refine WL.start ?_
  refine tK (.pointer (some ⟨gk1, 28, none⟩)) ?_
  try simp only [pA, pB, p1, p2, p3]
  refine tW (m.cm.v) (exec_load 48 _ rfl ⟨gk1, 28, none⟩ (by kernel_rfl) (m.cm.v) (load_one ((HF.out.box 0 _ _ _ rfl).cell 28 |>.trans (by kernel_rfl)) Try.und48 rfl)) ?_
  try simp only [pA, pB, p1, p2, p3]
  refine tK (.int .i64 ((m.cm.l : Nat) : Int)) ?_
  try simp only [pA, pB, p1, p2, p3]
  refine tK (.int .i64 ((m.cm.l : Nat) : Int)) ?_
  try simp only [pA, pB, p1, p2, p3]
  refine WL.nil ?_
  try simp only [pA, pB, p1, p2, p3]
  go_wp2
  go_loopw [5] (fun v4 wr => ∃ i : Nat, v4 = .int .i64 ((i : Nat) : Int) ∧ m.cm.l ≤ i ∧ i ≤ m.cm.l + 67 ∧ Hid (Fr No w wr [(gk1, 50, Mg.cells m), (gk3, 50, Mg.cells mgZ), (gk5, 50, Mg.cells ⟨m.k, m.fr, m.to, m.op, m.rd, m.ky, m.st, m.hd, ⟨(some ⟨gb, 0, none⟩), m.bl.l, (m.bl.l + 67)⟩, m.c, ⟨m.bk.up, ⟨(some ⟨ge, 0, none⟩), m.bk.e.l, (m.bk.e.l + 67)⟩, ⟨(some ⟨gl, 0, none⟩), m.bk.l.l, (m.bk.l.l + 67)⟩⟩, m.cm, m.mo⟩), (gb, 5, (u8L (tab (m.bl.l + 67) (lntB m.bl.l bs))).toArray), (ge, 110, (enL (tab (m.bk.e.l + 67) (lntE m.bk.e.l es))).toArray), (gl, 113, (laL (tab (m.bk.l.l + 67) (lntL m.bk.l.l ls))).toArray), (gk12, 47, (cmL (tab (m.cm.l + 67) (upt (lntC m.cm.l cs) cZ i))).toArray)])) (fun i _ => m.cm.l + 67 - (intOf i).toNat)
  case atStart => exact ⟨m.cm.l, rfl, by omega, by omega, HF⟩
  case round =>
    clear HF
    obtain ⟨i, rfl, hi0, hi, HF⟩ := hrel
    by_cases hlt : i < m.cm.l + 67
    · skip
      go_upto_region 7 with fail
      refine WL.start ?_
      refine tK (.int .i64 ((i : Nat) : Int)) ?_
      try simp only [pA, pB, p1, p2, p3]
      refine tK (.slice (some ⟨gk12, 0, none⟩) (m.cm.l + 67) (m.cm.l + 67)) ?_
      try simp only [pA, pB, p1, p2, p3]
      refine tK (.int .i64 (((m.cm.l + 67) : Nat) : Int)) ?_
      try simp only [pA, pB, p1, p2, p3]
      refine tW (.bool true) (exec_bin .lss 3 _ _ _ rfl (.int .i64 ((i : Nat) : Int)) (.int .i64 (((m.cm.l + 67) : Nat) : Int)) (.bool true) (by kernel_rfl) (by kernel_rfl) (by kernel_rfl) (by rw [b_lss, decide_eq_true (by omega)])) ?_
      try simp only [pA, pB, p1, p2, p3]
      refine WL.nil ?_
      try simp only [pA, pB, p1, p2, p3]
      go_upto_region 9 with fail
      refine WL.start ?_
      refine tK (.slice (some ⟨gk12, 0, none⟩) (m.cm.l + 67) (m.cm.l + 67)) ?_
      try simp only [pA, pB, p1, p2, p3]
      refine tK (.int .i64 ((i : Nat) : Int)) ?_
      try simp only [pA, pB, p1, p2, p3]
      refine tK (.int .i64 ((i : Nat) : Int)) ?_
      try simp only [pA, pB, p1, p2, p3]
      refine tW (.int .i64 (-((i : Nat) : Int))) (exec_bin .sub 3 _ _ _ rfl (.int .i64 0) (.int .i64 ((i : Nat) : Int)) (.int .i64 (-((i : Nat) : Int))) (by kernel_rfl) (by kernel_rfl) (by kernel_rfl) (b_subw _ _ _ (by rw [IntKind.wrap_i64]; omega) _)) ?_
      try simp only [pA, pB, p1, p2, p3]
      refine tW (.agg (Cm.cells ⟨0, 0, (-((i : Nat) : Int)), ⟨#[109, 97, 114, 107]⟩, 0, 0, 0, 0, 0⟩)) (exec_build 47 _ rfl (Cm.cells ⟨0, 0, (-((i : Nat) : Int)), ⟨#[109, 97, 114, 107]⟩, 0, 0, 0, 0, 0⟩) (by kernel_rfl)) ?_
      try simp only [pA, pB, p1, p2, p3]
      refine tW (.pointer (some ⟨gk12, 0 + i * 9, none⟩)) (exec_ixA 48 9 Try.und48e Try.size48e _ _ rfl gk12 0 (m.cm.l + 67) (m.cm.l + 67) i (by kernel_rfl) (by kernel_rfl) (by omega)) ?_
      try simp only [pA, pB, p1, p2, p3]
      refine wp_storeW 47 _ _ rfl ⟨gk12, 0 + i * 9, none⟩ (.agg (Cm.cells ⟨0, 0, (-((i : Nat) : Int)), ⟨#[109, 97, 114, 107]⟩, 0, 0, 0, 0, 0⟩)) (by kernel_rfl) (by kernel_rfl) (wr.setRow gk12 ((cmL (tab (m.cm.l + 67) (upt (lntC m.cm.l cs) cZ (i + 1)))).toArray)) (lay_C _ (HF.out.box 6 _ _ _ rfl) (by omega) (lnt_ge (by omega))) (by kernel_rfl) ?_
      try simp only [pA, pB, p1, p2, p3]
      have HF : Hid (Fr No w (wr.setRow gk12 ((cmL (tab (m.cm.l + 67) (upt (lntC m.cm.l cs) cZ (i + 1)))).toArray)) [(gk1, 50, Mg.cells m), (gk3, 50, Mg.cells mgZ), (gk5, 50, Mg.cells ⟨m.k, m.fr, m.to, m.op, m.rd, m.ky, m.st, m.hd, ⟨(some ⟨gb, 0, none⟩), m.bl.l, (m.bl.l + 67)⟩, m.c, ⟨m.bk.up, ⟨(some ⟨ge, 0, none⟩), m.bk.e.l, (m.bk.e.l + 67)⟩, ⟨(some ⟨gl, 0, none⟩), m.bk.l.l, (m.bk.l.l + 67)⟩⟩, m.cm, m.mo⟩), (gb, 5, (u8L (tab (m.bl.l + 67) (lntB m.bl.l bs))).toArray), (ge, 110, (enL (tab (m.bk.e.l + 67) (lntE m.bk.e.l es))).toArray), (gl, 113, (laL (tab (m.bk.l.l + 67) (lntL m.bk.l.l ls))).toArray), (gk12, 47, (cmL (tab (m.cm.l + 67) (upt (lntC m.cm.l cs) cZ (i + 1)))).toArray)]) := HF.out.set 6 rfl _
      generalize wr.setRow gk12 ((cmL (tab (m.cm.l + 67) (upt (lntC m.cm.l cs) cZ (i + 1)))).toArray) = wk15 at HF ⊢
      refine WL.nil ?_
      try simp only [pA, pB, p1, p2, p3]
      go_upto_region 8 with fail
      refine WL.start ?_
      refine tK (.int .i64 ((i : Nat) : Int)) ?_
      try simp only [pA, pB, p1, p2, p3]
      refine tW (.int .i64 (((i + 1) : Nat) : Int)) (exec_bin .add 3 _ _ _ rfl (.int .i64 ((i : Nat) : Int)) (.int .i64 1) (.int .i64 (((i + 1) : Nat) : Int)) (by kernel_rfl) (by kernel_rfl) (by kernel_rfl) (b_addw _ _ _ (by rw [IntKind.wrap_i64]; omega) _)) ?_
      try simp only [pA, pB, p1, p2, p3]
      refine tK (.int .i64 (((i + 1) : Nat) : Int)) ?_
      try simp only [pA, pB, p1, p2, p3]
      refine WL.nil ?_
      try simp only [pA, pB, p1, p2, p3]
      go_wp2
      go_roundw
      case rel => exact ⟨i + 1, by go_num, by omega, by omega, HF⟩
      case measure => simp [intOf]; omega
    · skip
      have he : i = m.cm.l + 67 := by omega
      subst he
      go_upto_region 7 with fail
      refine WL.start ?_
      refine tK (.int .i64 (((m.cm.l + 67) : Nat) : Int)) ?_
      try simp only [pA, pB, p1, p2, p3]
      refine tK (.slice (some ⟨gk12, 0, none⟩) (m.cm.l + 67) (m.cm.l + 67)) ?_
      try simp only [pA, pB, p1, p2, p3]
      refine tK (.int .i64 (((m.cm.l + 67) : Nat) : Int)) ?_
      try simp only [pA, pB, p1, p2, p3]
      refine tW (.bool false) (exec_bin .lss 3 _ _ _ rfl (.int .i64 (((m.cm.l + 67) : Nat) : Int)) (.int .i64 (((m.cm.l + 67) : Nat) : Int)) (.bool false) (by kernel_rfl) (by kernel_rfl) (by kernel_rfl) (by rw [b_lss, decide_eq_false (by omega)])) ?_
      try simp only [pA, pB, p1, p2, p3]
      refine WL.nil ?_
      try simp only [pA, pB, p1, p2, p3]
      go_upto_region 10 with fail
      refine WL.start ?_
      refine tK (.slice (some ⟨gk12, 0, none⟩) (m.cm.l + 67) (m.cm.l + 67)) ?_
      try simp only [pA, pB, p1, p2, p3]
      refine tK (.pointer (some ⟨gk1, 28, none⟩)) ?_
      try simp only [pA, pB, p1, p2, p3]
      refine tW (m.cm.v) (exec_load 48 _ rfl ⟨gk1, 28, none⟩ (by kernel_rfl) (m.cm.v) (load_one ((HF.out.box 0 _ _ _ rfl).cell 28 |>.trans (by kernel_rfl)) Try.und48 rfl)) ?_
      try simp only [pA, pB, p1, p2, p3]
      refine tK (.int .i64 ((m.cm.l : Nat) : Int)) ?_
      try simp only [pA, pB, p1, p2, p3]
      refine tW (.slice (some ⟨gk12, 0, none⟩) m.cm.l (m.cm.l + 67)) ((exec_slH 48 _ _ rfl 9 Try.und48e Try.size48e (some ⟨gk12, 0, none⟩) (m.cm.l + 67) (m.cm.l + 67) m.cm.l (by kernel_rfl) (by kernel_rfl) (by omega)).trans (by rw [sliced0 _ _ _ _ (by omega)])) ?_
      try simp only [pA, pB, p1, p2, p3]
      refine tK (.pointer (some ⟨gk5, 28, none⟩)) ?_
      try simp only [pA, pB, p1, p2, p3]
      refine wp_storeW 48 _ _ rfl ⟨gk5, 28, none⟩ (.slice (some ⟨gk12, 0, none⟩) m.cm.l (m.cm.l + 67)) (by kernel_rfl) (by kernel_rfl) (wr.setRow gk5 (Mg.cells ⟨m.k, m.fr, m.to, m.op, m.rd, m.ky, m.st, m.hd, ⟨(some ⟨gb, 0, none⟩), m.bl.l, (m.bl.l + 67)⟩, m.c, ⟨m.bk.up, ⟨(some ⟨ge, 0, none⟩), m.bk.e.l, (m.bk.e.l + 67)⟩, ⟨(some ⟨gl, 0, none⟩), m.bk.l.l, (m.bk.l.l + 67)⟩⟩, ⟨(some ⟨gk12, 0, none⟩), m.cm.l, (m.cm.l + 67)⟩, m.mo⟩)) (run_store_to (cur := Mg.cs ⟨m.k, m.fr, m.to, m.op, m.rd, m.ky, m.st, m.hd, ⟨(some ⟨gb, 0, none⟩), m.bl.l, (m.bl.l + 67)⟩, m.c, ⟨m.bk.up, ⟨(some ⟨ge, 0, none⟩), m.bk.e.l, (m.bk.e.l + 67)⟩, ⟨(some ⟨gl, 0, none⟩), m.bk.l.l, (m.bk.l.l + 67)⟩⟩, m.cm, m.mo⟩) (vs := [.slice (some ⟨gk12, 0, none⟩) m.cm.l (m.cm.l + 67)]) (new := Mg.cs ⟨m.k, m.fr, m.to, m.op, m.rd, m.ky, m.st, m.hd, ⟨(some ⟨gb, 0, none⟩), m.bl.l, (m.bl.l + 67)⟩, m.c, ⟨m.bk.up, ⟨(some ⟨ge, 0, none⟩), m.bk.e.l, (m.bk.e.l + 67)⟩, ⟨(some ⟨gl, 0, none⟩), m.bk.l.l, (m.bk.l.l + 67)⟩⟩, ⟨(some ⟨gk12, 0, none⟩), m.cm.l, (m.cm.l + 67)⟩, m.mo⟩) (HF.out.box 2 _ _ _ rfl) (by kernel_rfl) Try.size48 (Nat.le_of_ble_eq_true (by kernel_rfl)) (by simp [Value.oneCell', Sl.v]) (by kernel_rfl)) (by kernel_rfl) ?_
      try simp only [pA, pB, p1, p2, p3]
      have HF : Hid (Fr No w (wr.setRow gk5 (Mg.cells ⟨m.k, m.fr, m.to, m.op, m.rd, m.ky, m.st, m.hd, ⟨(some ⟨gb, 0, none⟩), m.bl.l, (m.bl.l + 67)⟩, m.c, ⟨m.bk.up, ⟨(some ⟨ge, 0, none⟩), m.bk.e.l, (m.bk.e.l + 67)⟩, ⟨(some ⟨gl, 0, none⟩), m.bk.l.l, (m.bk.l.l + 67)⟩⟩, ⟨(some ⟨gk12, 0, none⟩), m.cm.l, (m.cm.l + 67)⟩, m.mo⟩)) [(gk1, 50, Mg.cells m), (gk3, 50, Mg.cells mgZ), (gk5, 50, Mg.cells ⟨m.k, m.fr, m.to, m.op, m.rd, m.ky, m.st, m.hd, ⟨(some ⟨gb, 0, none⟩), m.bl.l, (m.bl.l + 67)⟩, m.c, ⟨m.bk.up, ⟨(some ⟨ge, 0, none⟩), m.bk.e.l, (m.bk.e.l + 67)⟩, ⟨(some ⟨gl, 0, none⟩), m.bk.l.l, (m.bk.l.l + 67)⟩⟩, ⟨(some ⟨gk12, 0, none⟩), m.cm.l, (m.cm.l + 67)⟩, m.mo⟩), (gb, 5, (u8L (tab (m.bl.l + 67) (lntB m.bl.l bs))).toArray), (ge, 110, (enL (tab (m.bk.e.l + 67) (lntE m.bk.e.l es))).toArray), (gl, 113, (laL (tab (m.bk.l.l + 67) (lntL m.bk.l.l ls))).toArray), (gk12, 47, (cmL (tab (m.cm.l + 67) (upt (lntC m.cm.l cs) cZ (m.cm.l + 67)))).toArray)]) := HF.out.set 2 rfl _
      generalize wr.setRow gk5 (Mg.cells ⟨m.k, m.fr, m.to, m.op, m.rd, m.ky, m.st, m.hd, ⟨(some ⟨gb, 0, none⟩), m.bl.l, (m.bl.l + 67)⟩, m.c, ⟨m.bk.up, ⟨(some ⟨ge, 0, none⟩), m.bk.e.l, (m.bk.e.l + 67)⟩, ⟨(some ⟨gl, 0, none⟩), m.bk.l.l, (m.bk.l.l + 67)⟩⟩, ⟨(some ⟨gk12, 0, none⟩), m.cm.l, (m.cm.l + 67)⟩, m.mo⟩) = wk16 at HF ⊢
      refine WL.nil ?_
      try simp only [pA, pB, p1, p2, p3]
      go_upto_region 11 with fail
      refine WL.start ?_
      refine tW (.agg (Mg.cells ⟨m.k, m.fr, m.to, m.op, m.rd, m.ky, m.st, m.hd, ⟨(some ⟨gb, 0, none⟩), m.bl.l, (m.bl.l + 67)⟩, m.c, ⟨m.bk.up, ⟨(some ⟨ge, 0, none⟩), m.bk.e.l, (m.bk.e.l + 67)⟩, ⟨(some ⟨gl, 0, none⟩), m.bk.l.l, (m.bk.l.l + 67)⟩⟩, ⟨(some ⟨gk12, 0, none⟩), m.cm.l, (m.cm.l + 67)⟩, m.mo⟩)) (exec_load 50 _ rfl ⟨gk5, 0, none⟩ (by kernel_rfl) (.agg (Mg.cells ⟨m.k, m.fr, m.to, m.op, m.rd, m.ky, m.st, m.hd, ⟨(some ⟨gb, 0, none⟩), m.bl.l, (m.bl.l + 67)⟩, m.c, ⟨m.bk.up, ⟨(some ⟨ge, 0, none⟩), m.bk.e.l, (m.bk.e.l + 67)⟩, ⟨(some ⟨gl, 0, none⟩), m.bk.l.l, (m.bk.l.l + 67)⟩⟩, ⟨(some ⟨gk12, 0, none⟩), m.cm.l, (m.cm.l + 67)⟩, m.mo⟩)) (run_load_part (cs := Mg.cs ⟨m.k, m.fr, m.to, m.op, m.rd, m.ky, m.st, m.hd, ⟨(some ⟨gb, 0, none⟩), m.bl.l, (m.bl.l + 67)⟩, m.c, ⟨m.bk.up, ⟨(some ⟨ge, 0, none⟩), m.bk.e.l, (m.bk.e.l + 67)⟩, ⟨(some ⟨gl, 0, none⟩), m.bk.l.l, (m.bk.l.l + 67)⟩⟩, ⟨(some ⟨gk12, 0, none⟩), m.cm.l, (m.cm.l + 67)⟩, m.mo⟩) (sub := Mg.cs ⟨m.k, m.fr, m.to, m.op, m.rd, m.ky, m.st, m.hd, ⟨(some ⟨gb, 0, none⟩), m.bl.l, (m.bl.l + 67)⟩, m.c, ⟨m.bk.up, ⟨(some ⟨ge, 0, none⟩), m.bk.e.l, (m.bk.e.l + 67)⟩, ⟨(some ⟨gl, 0, none⟩), m.bk.l.l, (m.bk.l.l + 67)⟩⟩, ⟨(some ⟨gk12, 0, none⟩), m.cm.l, (m.cm.l + 67)⟩, m.mo⟩) (HF.out.box 2 _ _ _ rfl) (Part.all _) Try.und50 rfl Try.size50)) ?_
      try simp only [pA, pB, p1, p2, p3]
      refine wp_storeW 50 _ _ rfl ⟨gk3, 0, none⟩ (.agg (Mg.cells ⟨m.k, m.fr, m.to, m.op, m.rd, m.ky, m.st, m.hd, ⟨(some ⟨gb, 0, none⟩), m.bl.l, (m.bl.l + 67)⟩, m.c, ⟨m.bk.up, ⟨(some ⟨ge, 0, none⟩), m.bk.e.l, (m.bk.e.l + 67)⟩, ⟨(some ⟨gl, 0, none⟩), m.bk.l.l, (m.bk.l.l + 67)⟩⟩, ⟨(some ⟨gk12, 0, none⟩), m.cm.l, (m.cm.l + 67)⟩, m.mo⟩)) (by kernel_rfl) (by kernel_rfl) (wk16.setRow gk3 (Mg.cells ⟨m.k, m.fr, m.to, m.op, m.rd, m.ky, m.st, m.hd, ⟨(some ⟨gb, 0, none⟩), m.bl.l, (m.bl.l + 67)⟩, m.c, ⟨m.bk.up, ⟨(some ⟨ge, 0, none⟩), m.bk.e.l, (m.bk.e.l + 67)⟩, ⟨(some ⟨gl, 0, none⟩), m.bk.l.l, (m.bk.l.l + 67)⟩⟩, ⟨(some ⟨gk12, 0, none⟩), m.cm.l, (m.cm.l + 67)⟩, m.mo⟩)) (run_store_to (cur := Mg.cs mgZ) (vs := Mg.cs ⟨m.k, m.fr, m.to, m.op, m.rd, m.ky, m.st, m.hd, ⟨(some ⟨gb, 0, none⟩), m.bl.l, (m.bl.l + 67)⟩, m.c, ⟨m.bk.up, ⟨(some ⟨ge, 0, none⟩), m.bk.e.l, (m.bk.e.l + 67)⟩, ⟨(some ⟨gl, 0, none⟩), m.bk.l.l, (m.bk.l.l + 67)⟩⟩, ⟨(some ⟨gk12, 0, none⟩), m.cm.l, (m.cm.l + 67)⟩, m.mo⟩) (new := Mg.cs ⟨m.k, m.fr, m.to, m.op, m.rd, m.ky, m.st, m.hd, ⟨(some ⟨gb, 0, none⟩), m.bl.l, (m.bl.l + 67)⟩, m.c, ⟨m.bk.up, ⟨(some ⟨ge, 0, none⟩), m.bk.e.l, (m.bk.e.l + 67)⟩, ⟨(some ⟨gl, 0, none⟩), m.bk.l.l, (m.bk.l.l + 67)⟩⟩, ⟨(some ⟨gk12, 0, none⟩), m.cm.l, (m.cm.l + 67)⟩, m.mo⟩) (HF.out.box 1 _ _ _ rfl) (by kernel_rfl) Try.size50 (Nat.le_of_ble_eq_true (by kernel_rfl)) (Mg.oneL _) (by kernel_rfl)) (by kernel_rfl) ?_
      try simp only [pA, pB, p1, p2, p3]
      have HF : Hid (Fr No w (wk16.setRow gk3 (Mg.cells ⟨m.k, m.fr, m.to, m.op, m.rd, m.ky, m.st, m.hd, ⟨(some ⟨gb, 0, none⟩), m.bl.l, (m.bl.l + 67)⟩, m.c, ⟨m.bk.up, ⟨(some ⟨ge, 0, none⟩), m.bk.e.l, (m.bk.e.l + 67)⟩, ⟨(some ⟨gl, 0, none⟩), m.bk.l.l, (m.bk.l.l + 67)⟩⟩, ⟨(some ⟨gk12, 0, none⟩), m.cm.l, (m.cm.l + 67)⟩, m.mo⟩)) [(gk1, 50, Mg.cells m), (gk3, 50, Mg.cells ⟨m.k, m.fr, m.to, m.op, m.rd, m.ky, m.st, m.hd, ⟨(some ⟨gb, 0, none⟩), m.bl.l, (m.bl.l + 67)⟩, m.c, ⟨m.bk.up, ⟨(some ⟨ge, 0, none⟩), m.bk.e.l, (m.bk.e.l + 67)⟩, ⟨(some ⟨gl, 0, none⟩), m.bk.l.l, (m.bk.l.l + 67)⟩⟩, ⟨(some ⟨gk12, 0, none⟩), m.cm.l, (m.cm.l + 67)⟩, m.mo⟩), (gk5, 50, Mg.cells ⟨m.k, m.fr, m.to, m.op, m.rd, m.ky, m.st, m.hd, ⟨(some ⟨gb, 0, none⟩), m.bl.l, (m.bl.l + 67)⟩, m.c, ⟨m.bk.up, ⟨(some ⟨ge, 0, none⟩), m.bk.e.l, (m.bk.e.l + 67)⟩, ⟨(some ⟨gl, 0, none⟩), m.bk.l.l, (m.bk.l.l + 67)⟩⟩, ⟨(some ⟨gk12, 0, none⟩), m.cm.l, (m.cm.l + 67)⟩, m.mo⟩), (gb, 5, (u8L (tab (m.bl.l + 67) (lntB m.bl.l bs))).toArray), (ge, 110, (enL (tab (m.bk.e.l + 67) (lntE m.bk.e.l es))).toArray), (gl, 113, (laL (tab (m.bk.l.l + 67) (lntL m.bk.l.l ls))).toArray), (gk12, 47, (cmL (tab (m.cm.l + 67) (upt (lntC m.cm.l cs) cZ (m.cm.l + 67)))).toArray)]) := HF.out.set 1 rfl _
      generalize wk16.setRow gk3 (Mg.cells ⟨m.k, m.fr, m.to, m.op, m.rd, m.ky, m.st, m.hd, ⟨(some ⟨gb, 0, none⟩), m.bl.l, (m.bl.l + 67)⟩, m.c, ⟨m.bk.up, ⟨(some ⟨ge, 0, none⟩), m.bk.e.l, (m.bk.e.l + 67)⟩, ⟨(some ⟨gl, 0, none⟩), m.bk.l.l, (m.bk.l.l + 67)⟩⟩, ⟨(some ⟨gk12, 0, none⟩), m.cm.l, (m.cm.l + 67)⟩, m.mo⟩) = wk17 at HF ⊢
      refine WL.nil ?_
      try simp only [pA, pB, p1, p2, p3]
      go_wp2
      rw [HC.out]
      refine bodyPost_ret (results_row1 (by rfl) _ _ gk3 (Mg.cells ⟨m.k, m.fr, m.to, m.op, m.rd, m.ky, m.st, m.hd, ⟨(some ⟨gb, 0, none⟩), m.bl.l, (m.bl.l + 67)⟩, m.c, ⟨m.bk.up, ⟨(some ⟨ge, 0, none⟩), m.bk.e.l, (m.bk.e.l + 67)⟩, ⟨(some ⟨gl, 0, none⟩), m.bk.l.l, (m.bk.l.l + 67)⟩⟩, ⟨(some ⟨gk12, 0, none⟩), m.cm.l, (m.cm.l + 67)⟩, m.mo⟩) (by rfl) (run_load_part (cs := Mg.cs ⟨m.k, m.fr, m.to, m.op, m.rd, m.ky, m.st, m.hd, ⟨(some ⟨gb, 0, none⟩), m.bl.l, (m.bl.l + 67)⟩, m.c, ⟨m.bk.up, ⟨(some ⟨ge, 0, none⟩), m.bk.e.l, (m.bk.e.l + 67)⟩, ⟨(some ⟨gl, 0, none⟩), m.bk.l.l, (m.bk.l.l + 67)⟩⟩, ⟨(some ⟨gk12, 0, none⟩), m.cm.l, (m.cm.l + 67)⟩, m.mo⟩) (sub := Mg.cs ⟨m.k, m.fr, m.to, m.op, m.rd, m.ky, m.st, m.hd, ⟨(some ⟨gb, 0, none⟩), m.bl.l, (m.bl.l + 67)⟩, m.c, ⟨m.bk.up, ⟨(some ⟨ge, 0, none⟩), m.bk.e.l, (m.bk.e.l + 67)⟩, ⟨(some ⟨gl, 0, none⟩), m.bk.l.l, (m.bk.l.l + 67)⟩⟩, ⟨(some ⟨gk12, 0, none⟩), m.cm.l, (m.cm.l + 67)⟩, m.mo⟩) (HF.out.box 1 _ _ _ rfl) (Part.all _) Try.und50 rfl Try.size50)) rfl ?_
      exact ⟨gb, ge, gl, gk12, rfl, ⟨HF.out.box 3 _ _ _ rfl, HF.out.box 4 _ _ _ rfl, HF.out.box 5 _ _ _ rfl, by have h := HF.out.box 6 _ _ _ rfl; rw [upt_all] at h; exact h, HF.out.low 3 _ _ _ rfl, HF.out.low 4 _ _ _ rfl, HF.out.low 5 _ _ _ rfl, HF.out.low 6 _ _ _ rfl⟩, HF.out.kept⟩

end Go.Proofs.Ytcgnbpaaalmkoaa
