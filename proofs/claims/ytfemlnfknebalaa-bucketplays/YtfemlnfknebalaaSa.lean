import Derived.Test.YtfemlnfknebalaaZa
namespace Go.Proofs.Ytfemlnfknebalaa
open Go.RowKit
set_option linter.unusedVariables false
set_option linter.unusedSimpArgs false

theorem pre_ge : ∀ (a b : List UInt8), a <+: b → ¬ Lib.compareBytes b a < 0
  | [], b, _ => by cases b <;> simp [Lib.compareBytes]
  | x :: a, [], h => by simp at h
  | x :: a, y :: b, h => by
    rw [List.cons_prefix_cons] at h
    obtain ⟨rfl, h⟩ := h
    unfold Lib.compareBytes
    rw [if_neg (UInt8.lt_irrefl _), if_neg (UInt8.lt_irrefl _)]
    exact pre_ge a b h
theorem pre_gap : ∀ (a b c : List UInt8), ¬ Lib.compareBytes b a < 0 → ¬ a <+: b → Lib.compareBytes b c < 0 → ¬ a <+: c
  | [], b, c, _, h, _ => absurd (List.nil_prefix) h
  | x :: a, [], c, h, _, _ => absurd (by simp [Lib.compareBytes]) h
  | x :: a, y :: b, [], _, _, _ => by simp
  | x :: a, y :: b, z :: c, h1, h2, h3 => by
    rw [List.cons_prefix_cons] at h2 ⊢
    rintro ⟨rfl, h4⟩
    unfold Lib.compareBytes at h1 h3
    by_cases e1 : y < x
    · rw [if_pos e1] at h1; exact h1 (by decide)
    · rw [if_neg e1] at h1 h3
      by_cases e2 : x < y
      · rw [if_pos e2] at h3; exact absurd h3 (by decide)
      · rw [if_neg e2] at h1 h3
        have e3 : x = y := UInt8.le_antisymm (UInt8.not_lt.1 e1) (UInt8.not_lt.1 e2)
        exact pre_gap a b c h1 (fun h => h2 ⟨e3, h⟩) h3 h4
theorem hasP_iff {s p : ByteArray} : hasP s p = true ↔ p.data.toList <+: s.data.toList := by
  unfold hasP
  rw [Bool.and_eq_true, decide_eq_true_eq, eqN_iff, List.prefix_iff_eq_take]
  have hs : p.data.toList.length = p.size := by rw [Array.length_toList]; rfl
  have he : (s.extract 0 p.size).data.toList = s.data.toList.take p.size := by simp
  rw [hs]
  constructor
  · rintro ⟨_, h⟩
    rw [← he, h]
  · intro h
    have h0 : p.size ≤ s.size := by
      have h1 := congrArg List.length h
      rw [hs, List.length_take] at h1
      have : s.data.toList.length = s.size := by rw [Array.length_toList]; rfl
      omega
    refine ⟨h0, ?_⟩
    apply ByteArray.ext
    apply Array.ext'
    rw [he]; exact h.symm
theorem filter_while (n : ByteArray) : ∀ (l : List En), (∀ e ∈ l, ¬ cmpB e.nm n < 0) → l.Pairwise (fun x y => cmpB x.nm y.nm < 0) → l.filter (fun e => hasP e.nm n) = l.takeWhile (fun e => hasP e.nm n)
  | [], _, _ => rfl
  | x :: t, h, hp => by
    rw [List.pairwise_cons] at hp
    cases hx : hasP x.nm n
    · rw [List.filter_cons_of_neg (by simp [hx]), List.takeWhile_cons_of_neg (by simp [hx]), List.filter_eq_nil_iff]
      intro y hy hq
      have h1 := h x (List.mem_cons_self ..)
      exact pre_gap n.data.toList x.nm.data.toList y.nm.data.toList h1 (fun q => by rw [hasP_iff.2 q] at hx; cases hx) (hp.1 y hy) (hasP_iff.1 hq)
    · rw [List.filter_cons_of_pos (p := fun e : En => hasP e.nm n) hx, List.takeWhile_cons_of_pos (p := fun e : En => hasP e.nm n) hx, filter_while n t (fun e he => h e (List.mem_cons_of_mem _ he)) hp.2]
theorem rise_pair {es : List En} (h : RiseE es) : es.Pairwise (fun x y => cmpB x.nm y.nm < 0) := by
  rw [List.pairwise_iff_getElem]
  intro i j hi hj hij
  exact h i j _ _ (List.getElem?_eq_getElem hi) (List.getElem?_eq_getElem hj) hij
theorem names_filter {es : List En} (h : RiseE es) (n : ByteArray) : namesS es n = es.filter (fun e => hasP e.nm n) := by
  have hs := gIx_spec (d := enZ) ordB h n
  rw [← eIx_g] at hs
  unfold namesS
  rw [← filter_while n]
  · conv => rhs; rw [← List.take_append_drop (eIx es n) es]
    rw [List.filter_append]
    have : (es.take (eIx es n)).filter (fun e => hasP e.nm n) = [] := by
      rw [List.filter_eq_nil_iff]
      intro e he hq
      obtain ⟨i, hi, hg⟩ := List.mem_iff_getElem.1 he
      rw [List.length_take] at hi
      have h1 : es[i]? = some e := by
        rw [List.getElem_take] at hg
        rw [List.getElem?_eq_getElem (by omega), hg]
      exact pre_ge _ _ (hasP_iff.1 hq) (hs.1 i e (by omega) h1)
    rw [this, List.nil_append]
  · intro e he
    obtain ⟨i, hi, hg⟩ := List.mem_iff_getElem.1 he
    rw [List.length_drop] at hi
    rw [List.getElem_drop] at hg
    exact hs.2.1 (eIx es n + i) e (by omega) (by rw [List.getElem?_eq_getElem (by omega), hg])
  · exact (rise_pair h).sublist (List.drop_sublist _ _)
theorem exec_strH {o : Oper} {a : Act} {w : World} (x hi : Operand) (ho : o.op = .slice 9 x none (some hi) none) (s : ByteArray) (k : Nat) (hx : a.eval x = .string s) (hk : a.eval hi = .int .i64 (k : Int)) (h : k ≤ s.size) : (execOp a.eval o).run Try.prog w = .ok (.value (.string (s.extract 0 k))) w := by
  simp only [execOp, ho, hx, hk, Option.map_some, Option.map_none, Sem.run_bind, run_sliceAt_string w 9 _ _ _ _ Try.und9, run_slice_string_h w 9 s Try.und9 .i64 (k : Int) (by omega) (by omega), Result.andThen_ok, Sem.run_pure, Int.toNat_natCast]
theorem app1E {w W : World} {sa : Option Addr} {n c : Nat} {out : List En} (hw : Kept No w W) (ho : OwE W w.heap.size ⟨sa, n, c⟩ out) (y : En) (hb : (n + 1) * 40 ≤ 140737488355328) :
    ∃ a' c' W2, (Builtin.append_ #[22, 22] 22 #[.slice sa n c, .slice (some ⟨W.heap.size, 0, none⟩) 1 1]).run Try.prog (W.alloc (.cells y.cells 54)) = .ok (.slice a' (n + 1) c') W2 ∧ OwE W2 w.heap.size ⟨a', n + 1, c'⟩ (out ++ [y]) ∧ Kept (At sa) W W2 := by
  have h1 : Kept No W (W.alloc (.cells y.cells 54)) := (Kept.refl No _).alloc _
  have ho1 := ho.no h1
  have hx := Box.new W 54 y.cells
  obtain ⟨a', c', W2, hrun, hO, hk, hA⟩ := run_appN (w := W.alloc (.cells y.cells 54)) 22 22 54 4 40 (.agg enZ.cells) Try.und22 Try.info54 rfl (by omega) w.heap.size n c sa (enL out) ho1.own (some ⟨W.heap.size, 0, none⟩) 1 1 y.cs rfl (fun e => by cases e) (fun j u hj => ⟨_, rfl, by rw [addr_add, Nat.zero_add, hx.cell]; show y.cs.toArray[j]? = _; rw [List.getElem?_toArray]; exact hj⟩) y.oneL (by omega) (by omega) (Nat.le_trans hw.size h1.size)
  have hol : out.length = n := ho.len
  exact ⟨a', c', W2, hrun, ⟨by rw [enL_app, enL_1]; exact hO, by show (out ++ [y]).length = n + 1; rw [List.length_append, hol]; rfl⟩, h1.of_no.then hk⟩
theorem Fr.app {w0 w w' : World} {l : List (Nat × TypeId × Array Value)} {t c cap n : Nat} {a : Option Addr} {vs : List Value} (hf : Fr No w0 w l) (ho : Own t c w w0.heap.size a cap n vs) (hk : Kept (At a) w w') (hT : ∀ x ∈ l, x.2.1 ≠ t) : Fr No w0 w' l := by
  refine ⟨hf.kept.trans hk (fun _ e => e.elim) (fun i hi e => by have := ho.base e; omega), fun i k T cs hi => ?_, hf.low, hf.inj⟩
  have hb := hf.box i k T cs hi
  exact hb.kept hk (fun e => ho.notBox hb (Ne.symm (hT _ (List.mem_of_getElem? hi))) e)
set_option maxRecDepth 100000 in
set_option maxHeartbeats 4000000 in
theorem refFind_any (up : Int) (ea : Option Addr) (en ec : Nat) (la : Option Addr) (ln lc : Nat) (es : List En) (n : ByteArray) (w : World) (he : RdE w ⟨ea, en, ec⟩ es) (hR : RiseE es) (hb : en ≤ 140737488355328) : Calls Try.prog 33 #[.agg (Bv.cells ⟨up, ⟨ea, en, ec⟩, ⟨la, ln, lc⟩⟩), .string n] w (fun e w' => e = .returned (.tuple #[.agg (findE es n).cells, .bool (eIs es n)]) ∧ Kept No w w') := by
  obtain ⟨C, hC⟩ : ∃ C : Ending → World → Prop, C = (fun e w' => e = .returned (.tuple #[.agg (findE es n).cells, .bool (eIs es n)]) ∧ Kept No w w') := ⟨_, rfl⟩
  have HC : Hid (C = (fun e w' => e = .returned (.tuple #[.agg (findE es n).cells, .bool (eIs es n)]) ∧ Kept No w w')) := hC
  rw [← hC]
  clear hC
  have HE : Hid (RdE w ⟨ea, en, ec⟩ es) := he
  have HP : Hid (plc es n = eIx es n ∧ pIs es n = eIs es n) := ⟨plc_rise hR n, pIs_rise hR n⟩
  have HY : Hid (eIs es n = true → eIx es n < en) := fun h => by have h1 := eIs_lt h; have h2 : es.length = en := he.len; omega
  have HEL : Hid (es.length = en) := he.len
  clear he hR
  have HF : Hid (Fr No w w []) := Fr.start _ _
  go_enter Try.func33, Try.ntmps33
  go_upto_region 0 with fail
  refine WL.start ?_
  refine wp_runW (.pointer (some ⟨w.heap.size, 0, none⟩)) (w.alloc (.cells (Bv.cells ⟨up, ⟨ea, en, ec⟩, ⟨la, ln, lc⟩⟩) 25)) (exec_box 25 _ rfl (Bv.cells ⟨up, ⟨ea, en, ec⟩, ⟨la, ln, lc⟩⟩) (by kernel_rfl)) (by kernel_rfl) ?_
  try simp only [pA, pB, p1, p2, p3]
  have HF : Hid (Fr No w (w.alloc (.cells (Bv.cells ⟨up, ⟨ea, en, ec⟩, ⟨la, ln, lc⟩⟩) 25)) [(w.heap.size, 25, Bv.cells ⟨up, ⟨ea, en, ec⟩, ⟨la, ln, lc⟩⟩)]) := HF.out.alloc _ _
  generalize w.alloc (.cells (Bv.cells ⟨up, ⟨ea, en, ec⟩, ⟨la, ln, lc⟩⟩) 25) = wk2 at HF ⊢
  generalize w.heap.size = gk1 at HF ⊢
  refine wp_runW (.pointer (some ⟨wk2.heap.size, 0, none⟩)) (wk2.alloc (.cells (En.cells enZ) 54)) (exec_alloc 54 rfl (En.cells enZ) zero54) (by kernel_rfl) ?_
  try simp only [pA, pB, p1, p2, p3]
  have HF : Hid (Fr No w (wk2.alloc (.cells (En.cells enZ) 54)) [(gk1, 25, Bv.cells ⟨up, ⟨ea, en, ec⟩, ⟨la, ln, lc⟩⟩), (wk2.heap.size, 54, En.cells enZ)]) := HF.out.alloc _ _
  generalize wk2.alloc (.cells (En.cells enZ) 54) = wk4 at HF ⊢
  generalize wk2.heap.size = gk3 at HF ⊢
  refine tK (.bool false) ?_
  try simp only [pA, pB, p1, p2, p3]
  refine WL.nil ?_
  try simp only [pA, pB, p1, p2, p3]
  go_upto_region 1 with fail
  refine WL.start ?_
  refine tK (.pointer (some ⟨gk1, 1, none⟩)) ?_
  try simp only [pA, pB, p1, p2, p3]
  refine tW (.slice ea en ec) (exec_load 22 _ rfl ⟨gk1, 1, none⟩ (by kernel_rfl) (.slice ea en ec) (ld22 ((HF.out.box 0 _ _ _ rfl).cell 1))) ?_
  try simp only [pA, pB, p1, p2, p3]
  refine tK (.string n) ?_
  try simp only [pA, pB, p1, p2, p3]
  cases q1 : (eIs es n)
  ·skip
   refine wp_callW 47 #[.slice ea en ec, .string n] (by kernel_rfl) _ (place_any ea en ec es n _ (HE.out.no HF.out.kept) hb) (by kernel_rfl) ?_
   rintro e wk5 ⟨rfl, hk⟩
   have HF : Hid (Fr No w (wk5) [(gk1, 25, Bv.cells ⟨up, ⟨ea, en, ec⟩, ⟨la, ln, lc⟩⟩), (gk3, 54, En.cells enZ)]) := HF.out.no hk
   clear hk
   refine ⟨.tuple #[.int .i64 (((eIx es n) : Nat) : Int), .bool false], by rw [HP.out.1, HP.out.2, q1], ?_⟩
   try simp only [pA, pB, p1, p2, p3]
   refine tK (.tuple #[.int .i64 (((eIx es n) : Nat) : Int), .bool false]) ?_
   try simp only [pA, pB, p1, p2, p3]
   refine tK (.int .i64 (((eIx es n) : Nat) : Int)) ?_
   try simp only [pA, pB, p1, p2, p3]
   refine tK (.bool false) ?_
   try simp only [pA, pB, p1, p2, p3]
   refine tK (.int .i64 (((eIx es n) : Nat) : Int)) ?_
   try simp only [pA, pB, p1, p2, p3]
   refine tK (.bool false) ?_
   try simp only [pA, pB, p1, p2, p3]
   refine WL.nil ?_
   try simp only [pA, pB, p1, p2, p3]
   go_upto_region 2 with fail
   refine WL.start ?_
   refine tK (.bool false) ?_
   try simp only [pA, pB, p1, p2, p3]
   refine tK (.bool true) ?_
   try simp only [pA, pB, p1, p2, p3]
   refine WL.nil ?_
   try simp only [pA, pB, p1, p2, p3]
   go_upto_region 3 with fail
   refine WL.start ?_
   refine tW (.agg (En.cells enZ)) (exec_build 54 _ rfl (En.cells enZ) (by kernel_rfl)) ?_
   try simp only [pA, pB, p1, p2, p3]
   refine wp_storeW 54 _ _ rfl ⟨gk3, 0, none⟩ (.agg (En.cells enZ)) (by kernel_rfl) (by kernel_rfl) (wk5.setRow gk3 (En.cells enZ)) (st54 (HF.out.box 1 _ _ _ rfl) rfl) (by kernel_rfl) ?_
   try simp only [pA, pB, p1, p2, p3]
   have HF : Hid (Fr No w (wk5.setRow gk3 (En.cells enZ)) [(gk1, 25, Bv.cells ⟨up, ⟨ea, en, ec⟩, ⟨la, ln, lc⟩⟩), (gk3, 54, En.cells enZ)]) := HF.out.set 1 rfl _
   generalize wk5.setRow gk3 (En.cells enZ) = wk6 at HF ⊢
   refine tK (.bool false) ?_
   try simp only [pA, pB, p1, p2, p3]
   refine WL.nil ?_
   try simp only [pA, pB, p1, p2, p3]
   go_wp2
   rw [HC.out]
   refine bodyPost_ret (results_row_tmp (by rfl) _ _ gk3 (En.cells enZ) (by rfl) (ld54 (HF.out.box 1 _ _ _ rfl))) rfl ?_
   exact ⟨by rw [findE_no q1, q1]; rfl, HF.out.kept⟩
  ·skip
   refine wp_callW 47 #[.slice ea en ec, .string n] (by kernel_rfl) _ (place_any ea en ec es n _ (HE.out.no HF.out.kept) hb) (by kernel_rfl) ?_
   rintro e wk7 ⟨rfl, hk⟩
   have HF : Hid (Fr No w (wk7) [(gk1, 25, Bv.cells ⟨up, ⟨ea, en, ec⟩, ⟨la, ln, lc⟩⟩), (gk3, 54, En.cells enZ)]) := HF.out.no hk
   clear hk
   refine ⟨.tuple #[.int .i64 (((eIx es n) : Nat) : Int), .bool true], by rw [HP.out.1, HP.out.2, q1], ?_⟩
   try simp only [pA, pB, p1, p2, p3]
   refine tK (.tuple #[.int .i64 (((eIx es n) : Nat) : Int), .bool true]) ?_
   try simp only [pA, pB, p1, p2, p3]
   refine tK (.int .i64 (((eIx es n) : Nat) : Int)) ?_
   try simp only [pA, pB, p1, p2, p3]
   refine tK (.bool true) ?_
   try simp only [pA, pB, p1, p2, p3]
   refine tK (.int .i64 (((eIx es n) : Nat) : Int)) ?_
   try simp only [pA, pB, p1, p2, p3]
   refine tK (.bool true) ?_
   try simp only [pA, pB, p1, p2, p3]
   refine WL.nil ?_
   try simp only [pA, pB, p1, p2, p3]
   go_upto_region 2 with fail
   refine WL.start ?_
   refine tK (.bool true) ?_
   try simp only [pA, pB, p1, p2, p3]
   refine tK (.bool false) ?_
   try simp only [pA, pB, p1, p2, p3]
   refine WL.nil ?_
   try simp only [pA, pB, p1, p2, p3]
   have hlt : eIx es n < en := HY.out q1
   obtain ⟨xb, xo, e0, hcx⟩ := Es.at HE.out.row (i := eIx es n) (by rw [HEL.out]; exact hlt)
   have e0 : ea = some ⟨xb, xo, none⟩ := e0
   subst e0
   have HCX : Hid (∀ (j : Nat) v, (eAt es (eIx es n)).cs[j]? = some v → w.cell? ⟨xb, xo + eIx es n * 4 + j, none⟩ = some v) := hcx
   clear hcx
   go_upto_region 4 with fail
   refine WL.start ?_
   refine tK (.pointer (some ⟨gk1, 1, none⟩)) ?_
   try simp only [pA, pB, p1, p2, p3]
   refine tW (.slice (some ⟨xb, xo, none⟩) en ec) (exec_load 22 _ rfl ⟨gk1, 1, none⟩ (by kernel_rfl) (.slice (some ⟨xb, xo, none⟩) en ec) (ld22 ((HF.out.box 0 _ _ _ rfl).cell 1))) ?_
   try simp only [pA, pB, p1, p2, p3]
   refine tK (.int .i64 (((eIx es n) : Nat) : Int)) ?_
   try simp only [pA, pB, p1, p2, p3]
   refine tW (.pointer (some ⟨xb, xo + (eIx es n) * 4, none⟩)) (exec_ixA 22 4 Try.und22e Try.size22e _ _ rfl xb xo en ec (eIx es n) (by kernel_rfl) (by kernel_rfl) hlt) ?_
   try simp only [pA, pB, p1, p2, p3]
   refine tW (.agg (En.cells (eAt es (eIx es n)))) (exec_load 54 _ rfl ⟨xb, xo + (eIx es n) * 4, none⟩ (by kernel_rfl) (.agg (En.cells (eAt es (eIx es n)))) (load_E (fun j v h => HF.out.kept.cell (HCX.out j v h) (fun e => e)))) ?_
   try simp only [pA, pB, p1, p2, p3]
   refine wp_storeW 54 _ _ rfl ⟨gk3, 0, none⟩ (.agg (En.cells (eAt es (eIx es n)))) (by kernel_rfl) (by kernel_rfl) (wk7.setRow gk3 (En.cells (eAt es (eIx es n)))) (st54 (HF.out.box 1 _ _ _ rfl) rfl) (by kernel_rfl) ?_
   try simp only [pA, pB, p1, p2, p3]
   have HF : Hid (Fr No w (wk7.setRow gk3 (En.cells (eAt es (eIx es n)))) [(gk1, 25, Bv.cells ⟨up, ⟨(some ⟨xb, xo, none⟩), en, ec⟩, ⟨la, ln, lc⟩⟩), (gk3, 54, En.cells (eAt es (eIx es n)))]) := HF.out.set 1 rfl _
   generalize wk7.setRow gk3 (En.cells (eAt es (eIx es n))) = wk8 at HF ⊢
   refine tK (.bool true) ?_
   try simp only [pA, pB, p1, p2, p3]
   refine WL.nil ?_
   try simp only [pA, pB, p1, p2, p3]
   go_wp2
   rw [HC.out]
   refine bodyPost_ret (results_row_tmp (by rfl) _ _ gk3 (En.cells (eAt es (eIx es n))) (by rfl) (ld54 (HF.out.box 1 _ _ _ rfl))) rfl ?_
   exact ⟨by rw [findE_yes q1, q1]; rfl, HF.out.kept⟩
set_option maxRecDepth 100000 in
set_option maxHeartbeats 4000000 in
theorem refLast_any (up : Int) (ea : Option Addr) (en ec : Nat) (la : Option Addr) (ln lc : Nat) (ls : List La) (n : Int) (w : World) (hl : RdL w ⟨la, ln, lc⟩ ls) (hR : RiseL ls) (hb : ln ≤ 140737488355328) : Calls Try.prog 34 #[.agg (Bv.cells ⟨up, ⟨ea, en, ec⟩, ⟨la, ln, lc⟩⟩), .int .i64 n] w (fun e w' => e = .returned (.tuple #[.agg (findL ls n).cells, .bool (lIs ls n)]) ∧ Kept No w w') := by
  obtain ⟨C, hC⟩ : ∃ C : Ending → World → Prop, C = (fun e w' => e = .returned (.tuple #[.agg (findL ls n).cells, .bool (lIs ls n)]) ∧ Kept No w w') := ⟨_, rfl⟩
  have HC : Hid (C = (fun e w' => e = .returned (.tuple #[.agg (findL ls n).cells, .bool (lIs ls n)]) ∧ Kept No w w')) := hC
  rw [← hC]
  clear hC
  have HLL : Hid (ls.length = ln) := hl.len
  have HL : Hid (RdL w ⟨la, ln, lc⟩ ls) := hl
  have HY : Hid (∀ i, i < ln → ((lAt ls i).cl == n) = true → findL ls n = lAt ls i ∧ lIs ls n = true) := fun i hi h => by
    have hm : lAt ls i ∈ ls := List.mem_of_getElem? (lAt_some (by rw [HLL.out]; exact hi))
    have e : (lAt ls i).cl = n := by simpa using h
    exact ⟨by rw [← e]; exact findL_mem hR hm, (lIs_iff hR).2 ⟨_, hm, e⟩⟩
  have HN : Hid ((∀ i, i < ln → ((lAt ls i).cl == n) = false) → findL ls n = laZ ∧ lIs ls n = false) := fun h => by
    have h1 : lIs ls n = false := by
      cases hq : lIs ls n
      · rfl
      · obtain ⟨e, he, hc⟩ := (lIs_iff hR).1 hq
        obtain ⟨i, hi, hg⟩ := List.mem_iff_getElem.1 he
        have h2 := h i (by rw [← HLL.out]; exact hi)
        have h3 := lAt_some hi
        rw [List.getElem?_eq_getElem hi, hg] at h3
        rw [← Option.some.inj h3, hc] at h2
        simp at h2
    exact ⟨findL_no h1, h1⟩
  clear hl hR
  have HF : Hid (Fr No w w []) := Fr.start _ _
  go_enter Try.func34, Try.ntmps34
  go_upto_region 0 with fail
  refine WL.start ?_
  refine wp_runW (.pointer (some ⟨w.heap.size, 0, none⟩)) (w.alloc (.cells (Bv.cells ⟨up, ⟨ea, en, ec⟩, ⟨la, ln, lc⟩⟩) 25)) (exec_box 25 _ rfl (Bv.cells ⟨up, ⟨ea, en, ec⟩, ⟨la, ln, lc⟩⟩) (by kernel_rfl)) (by kernel_rfl) ?_
  try simp only [pA, pB, p1, p2, p3]
  have HF : Hid (Fr No w (w.alloc (.cells (Bv.cells ⟨up, ⟨ea, en, ec⟩, ⟨la, ln, lc⟩⟩) 25)) [(w.heap.size, 25, Bv.cells ⟨up, ⟨ea, en, ec⟩, ⟨la, ln, lc⟩⟩)]) := HF.out.alloc _ _
  generalize w.alloc (.cells (Bv.cells ⟨up, ⟨ea, en, ec⟩, ⟨la, ln, lc⟩⟩) 25) = wk2 at HF ⊢
  generalize w.heap.size = gk1 at HF ⊢
  refine wp_runW (.pointer (some ⟨wk2.heap.size, 0, none⟩)) (wk2.alloc (.cells (La.cells laZ) 64)) (exec_alloc 64 rfl (La.cells laZ) zero64) (by kernel_rfl) ?_
  try simp only [pA, pB, p1, p2, p3]
  have HF : Hid (Fr No w (wk2.alloc (.cells (La.cells laZ) 64)) [(gk1, 25, Bv.cells ⟨up, ⟨ea, en, ec⟩, ⟨la, ln, lc⟩⟩), (wk2.heap.size, 64, La.cells laZ)]) := HF.out.alloc _ _
  generalize wk2.alloc (.cells (La.cells laZ) 64) = wk4 at HF ⊢
  generalize wk2.heap.size = gk3 at HF ⊢
  refine tK (.bool false) ?_
  try simp only [pA, pB, p1, p2, p3]
  refine WL.nil ?_
  try simp only [pA, pB, p1, p2, p3]
  go_wp2
  go_loopw [6] (fun v6 wr => ∃ i : Nat, v6 = .int .i64 ((i : Nat) : Int) ∧ i ≤ ln ∧ Hid (∀ j, j < i → ((lAt ls j).cl == n) = false) ∧ Hid (Fr No w wr [(gk1, 25, Bv.cells ⟨up, ⟨ea, en, ec⟩, ⟨la, ln, lc⟩⟩), (gk3, 64, La.cells laZ)])) (fun i _ => ln - (intOf i).toNat)
  case atStart => exact ⟨0, by go_num, by omega, fun j hj => absurd hj (Nat.not_lt_zero _), HF⟩
  case round =>
    clear HF
    obtain ⟨i, rfl, hi, HP, HF⟩ := hrel
    by_cases hlt : i < ln
    · obtain ⟨xb, xo, e0, hcx⟩ := Ls.at HL.out.row (i := i) (by rw [HLL.out]; exact hlt)
      have e0 : la = some ⟨xb, xo, none⟩ := e0
      subst e0
      have HCX : Hid (∀ (j : Nat) v, (lAt ls i).cs[j]? = some v → w.cell? ⟨xb, xo + i * 7 + j, none⟩ = some v) := hcx
      have HY1 : Hid (((lAt ls i).cl == n) = true → findL ls n = lAt ls i ∧ lIs ls n = true) := HY.out i hlt
      have HN1 : Hid (((lAt ls i).cl == n) = false → ∀ j, j < i + 1 → ((lAt ls j).cl == n) = false) := fun h j hj => by
        by_cases e : j = i
        · rw [e]; exact h
        · exact HP.out j (by omega)
      clear hcx HY
      generalize lAt ls i = y at HCX HY1 HN1
      go_upto_region 2 with fail
      refine WL.start ?_
      refine tK (.int .i64 ((i : Nat) : Int)) ?_
      try simp only [pA, pB, p1, p2, p3]
      refine tK (.pointer (some ⟨gk1, 2, none⟩)) ?_
      try simp only [pA, pB, p1, p2, p3]
      refine tW (.slice (some ⟨xb, xo, none⟩) ln lc) (exec_load 23 _ rfl ⟨gk1, 2, none⟩ (by kernel_rfl) (.slice (some ⟨xb, xo, none⟩) ln lc) (ld23 ((HF.out.box 0 _ _ _ rfl).cell 2))) ?_
      try simp only [pA, pB, p1, p2, p3]
      refine tK (.int .i64 ((ln : Nat) : Int)) ?_
      try simp only [pA, pB, p1, p2, p3]
      refine tW (.bool true) (exec_bin .lss 3 _ _ _ rfl (.int .i64 ((i : Nat) : Int)) (.int .i64 ((ln : Nat) : Int)) (.bool true) (by kernel_rfl) (by kernel_rfl) (by kernel_rfl) (by rw [b_lss, decide_eq_true (by omega)])) ?_
      try simp only [pA, pB, p1, p2, p3]
      refine WL.nil ?_
      try simp only [pA, pB, p1, p2, p3]
      go_upto_region 4 with fail
      refine WL.start ?_
      refine tK (.pointer (some ⟨gk1, 2, none⟩)) ?_
      try simp only [pA, pB, p1, p2, p3]
      refine tW (.slice (some ⟨xb, xo, none⟩) ln lc) (exec_load 23 _ rfl ⟨gk1, 2, none⟩ (by kernel_rfl) (.slice (some ⟨xb, xo, none⟩) ln lc) (ld23 ((HF.out.box 0 _ _ _ rfl).cell 2))) ?_
      try simp only [pA, pB, p1, p2, p3]
      refine tK (.int .i64 ((i : Nat) : Int)) ?_
      try simp only [pA, pB, p1, p2, p3]
      refine tW (.pointer (some ⟨xb, xo + i * 7, none⟩)) (exec_ixA 23 7 Try.und23e Try.size23e _ _ rfl xb xo ln lc i (by kernel_rfl) (by kernel_rfl) hlt) ?_
      try simp only [pA, pB, p1, p2, p3]
      refine tK (.pointer (some ⟨xb, xo + i * 7, none⟩)) ?_
      try simp only [pA, pB, p1, p2, p3]
      refine tW (.int .i64 y.cl) (exec_load 3 _ rfl ⟨xb, xo + i * 7, none⟩ (by kernel_rfl) (.int .i64 y.cl) (ld3 (HF.out.kept.cell (HCX.out 0 _ rfl) (fun e => e)))) ?_
      try simp only [pA, pB, p1, p2, p3]
      refine tK (.int .i64 n) ?_
      try simp only [pA, pB, p1, p2, p3]
      cases q1 : (y.cl == n)
      ·skip
       refine tW (.bool false) (exec_bin .eql 3 _ _ _ rfl (.int .i64 y.cl) (.int .i64 n) (.bool false) (by kernel_rfl) (by kernel_rfl) (by kernel_rfl) (by rw [b_eql, q1]; try rfl)) ?_
       try simp only [pA, pB, p1, p2, p3]
       refine WL.nil ?_
       try simp only [pA, pB, p1, p2, p3]
       have HP2 : Hid (∀ j, j < i + 1 → ((lAt ls j).cl == n) = false) := HN1.out q1
       clear HY1 HN1 HP
       go_wp2
       go_roundw
       case rel => exact ⟨i + 1, by go_num, by omega, HP2, HF⟩
       case measure => simp [intOf]; omega
      ·skip
       refine tW (.bool true) (exec_bin .eql 3 _ _ _ rfl (.int .i64 y.cl) (.int .i64 n) (.bool true) (by kernel_rfl) (by kernel_rfl) (by kernel_rfl) (by rw [b_eql, q1]; try rfl)) ?_
       try simp only [pA, pB, p1, p2, p3]
       refine WL.nil ?_
       try simp only [pA, pB, p1, p2, p3]
       have HV := HY1.out q1
       clear HY1 HN1
       go_upto_region 5 with fail
       refine WL.start ?_
       refine tK (.pointer (some ⟨gk1, 2, none⟩)) ?_
       try simp only [pA, pB, p1, p2, p3]
       refine tW (.slice (some ⟨xb, xo, none⟩) ln lc) (exec_load 23 _ rfl ⟨gk1, 2, none⟩ (by kernel_rfl) (.slice (some ⟨xb, xo, none⟩) ln lc) (ld23 ((HF.out.box 0 _ _ _ rfl).cell 2))) ?_
       try simp only [pA, pB, p1, p2, p3]
       refine tK (.int .i64 ((i : Nat) : Int)) ?_
       try simp only [pA, pB, p1, p2, p3]
       refine tW (.pointer (some ⟨xb, xo + i * 7, none⟩)) (exec_ixA 23 7 Try.und23e Try.size23e _ _ rfl xb xo ln lc i (by kernel_rfl) (by kernel_rfl) hlt) ?_
       try simp only [pA, pB, p1, p2, p3]
       refine tW (.agg (La.cells y)) (exec_load 64 _ rfl ⟨xb, xo + i * 7, none⟩ (by kernel_rfl) (.agg (La.cells y)) (load_L (fun j v h => HF.out.kept.cell (HCX.out j v h) (fun e => e)))) ?_
       try simp only [pA, pB, p1, p2, p3]
       refine wp_storeW 64 _ _ rfl ⟨gk3, 0, none⟩ (.agg (La.cells y)) (by kernel_rfl) (by kernel_rfl) (wr.setRow gk3 (La.cells y)) (st64 (HF.out.box 1 _ _ _ rfl) rfl) (by kernel_rfl) ?_
       try simp only [pA, pB, p1, p2, p3]
       have HF : Hid (Fr No w (wr.setRow gk3 (La.cells y)) [(gk1, 25, Bv.cells ⟨up, ⟨ea, en, ec⟩, ⟨(some ⟨xb, xo, none⟩), ln, lc⟩⟩), (gk3, 64, La.cells y)]) := HF.out.set 1 rfl _
       generalize wr.setRow gk3 (La.cells y) = wk5 at HF ⊢
       refine tK (.bool true) ?_
       try simp only [pA, pB, p1, p2, p3]
       refine WL.nil ?_
       try simp only [pA, pB, p1, p2, p3]
       go_wp2
       rw [HC.out]
       refine bodyPost_ret (results_row_tmp (by rfl) _ _ gk3 (La.cells y) (by rfl) (ld64 (HF.out.box 1 _ _ _ rfl))) rfl ?_
       exact ⟨by rw [HV.1, HV.2]; rfl, HF.out.kept⟩
    · have HV := HN.out (fun j hj => HP.out j (by omega))
      clear HY HN
      go_upto_region 2 with fail
      refine WL.start ?_
      refine tK (.int .i64 ((i : Nat) : Int)) ?_
      try simp only [pA, pB, p1, p2, p3]
      refine tK (.pointer (some ⟨gk1, 2, none⟩)) ?_
      try simp only [pA, pB, p1, p2, p3]
      refine tW (.slice la ln lc) (exec_load 23 _ rfl ⟨gk1, 2, none⟩ (by kernel_rfl) (.slice la ln lc) (ld23 ((HF.out.box 0 _ _ _ rfl).cell 2))) ?_
      try simp only [pA, pB, p1, p2, p3]
      refine tK (.int .i64 ((ln : Nat) : Int)) ?_
      try simp only [pA, pB, p1, p2, p3]
      refine tW (.bool false) (exec_bin .lss 3 _ _ _ rfl (.int .i64 ((i : Nat) : Int)) (.int .i64 ((ln : Nat) : Int)) (.bool false) (by kernel_rfl) (by kernel_rfl) (by kernel_rfl) (by rw [b_lss, decide_eq_false (by omega)])) ?_
      try simp only [pA, pB, p1, p2, p3]
      refine WL.nil ?_
      try simp only [pA, pB, p1, p2, p3]
      go_upto_region 6 with fail
      refine WL.start ?_
      refine tW (.agg (La.cells laZ)) (exec_build 64 _ rfl (La.cells laZ) (by kernel_rfl)) ?_
      try simp only [pA, pB, p1, p2, p3]
      refine wp_storeW 64 _ _ rfl ⟨gk3, 0, none⟩ (.agg (La.cells laZ)) (by kernel_rfl) (by kernel_rfl) (wr.setRow gk3 (La.cells laZ)) (st64 (HF.out.box 1 _ _ _ rfl) rfl) (by kernel_rfl) ?_
      try simp only [pA, pB, p1, p2, p3]
      have HF : Hid (Fr No w (wr.setRow gk3 (La.cells laZ)) [(gk1, 25, Bv.cells ⟨up, ⟨ea, en, ec⟩, ⟨la, ln, lc⟩⟩), (gk3, 64, La.cells laZ)]) := HF.out.set 1 rfl _
      generalize wr.setRow gk3 (La.cells laZ) = wk6 at HF ⊢
      refine tK (.bool false) ?_
      try simp only [pA, pB, p1, p2, p3]
      refine WL.nil ?_
      try simp only [pA, pB, p1, p2, p3]
      go_wp2
      rw [HC.out]
      refine bodyPost_ret (results_row_tmp (by rfl) _ _ gk3 (La.cells laZ) (by rfl) (ld64 (HF.out.box 1 _ _ _ rfl))) rfl ?_
      exact ⟨by rw [HV.1, HV.2]; rfl, HF.out.kept⟩

end Go.Proofs.Ytfemlnfknebalaa
