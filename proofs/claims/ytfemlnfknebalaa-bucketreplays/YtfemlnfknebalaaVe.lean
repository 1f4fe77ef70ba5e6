import Derived.Test.YtfemlnfknebalaaVd
import Derived.Test.YtfemlnfknebalaaTe
import Derived.Test.YtfemlnfknebalaaRc
namespace Go.Proofs.Ytfemlnfknebalaa
open Go.RowKit
set_option linter.unusedVariables false
set_option linter.unusedSimpArgs false

theorem flds29 : (Try.prog.fieldsOf 29).toList = [fld "Kind" 3 0 0, fld "Client" 3 1 8, fld "Op" 3 2 16, fld "Name" 9 3 24, fld "File" 27 4 40, fld "New" 27 6 56, fld "Size" 3 8 72] := by kernel_rfl
theorem eq29 (d : Nat) (c : Cm) (w : World) : (Op.equalIn (d + 3) 29 (.agg c.cells) (.agg c.cells)).run Try.prog w = .ok true w := by
  have h0 : ∀ (a : Cm) (w : World), (part 3 a.cells 0).run Try.prog w = .ok (.int .i64 a.k) w := fun a w => by kernel_rfl
  have h1 : ∀ (a : Cm) (w : World), (part 3 a.cells 1).run Try.prog w = .ok (.int .i64 a.cl) w := fun a w => by kernel_rfl
  have h2 : ∀ (a : Cm) (w : World), (part 3 a.cells 2).run Try.prog w = .ok (.int .i64 a.op) w := fun a w => by kernel_rfl
  have h3 : ∀ (a : Cm) (w : World), (part 9 a.cells 3).run Try.prog w = .ok (.string a.nm) w := fun a w => by kernel_rfl
  have h4 : ∀ (a : Cm) (w : World), (part 27 a.cells 4).run Try.prog w = .ok (.agg #[.int .i64 a.f0, .int .i64 a.f1]) w := fun a w => by kernel_rfl
  have h5 : ∀ (a : Cm) (w : World), (part 27 a.cells 6).run Try.prog w = .ok (.agg #[.int .i64 a.g0, .int .i64 a.g1]) w := fun a w => by kernel_rfl
  have h6 : ∀ (a : Cm) (w : World), (part 3 a.cells 8).run Try.prog w = .ok (.int .i64 a.sz) w := fun a w => by kernel_rfl
  have hI : ∀ (a : Int) (w : World), (Op.equalIn (d + 2) 3 (.int .i64 a) (.int .i64 a)).run Try.prog w = .ok true w := fun a w => by rw [show d + 2 = (d + 1) + 1 from rfl, eqInt]; simp
  have hS : ∀ (a : ByteArray) (w : World), (Op.equalIn (d + 2) 9 (.string a) (.string a)).run Try.prog w = .ok true w := fun a w => by
    have h := run_equalIn_string w (d + 1) 9 a a Try.und9
    rw [show d + 2 = (d + 1) + 1 from rfl, h]; simp
  have hF : ∀ (n c : Int) (w : World), (Op.equalIn (d + 2) 27 (.agg #[.int .i64 n, .int .i64 c]) (.agg #[.int .i64 n, .int .i64 c])).run Try.prog w = .ok true w := fun n c w => by rw [eq27]; simp [eqF]
  rw [show d + 3 = (d + 2) + 1 from rfl, run_equalIn_struct w (d + 2) 29 _ _ Try.und29 (by kernel_rfl), flds29]
  simp [Op.eqFields, fld, h0, h1, h2, h3, h4, h5, h6, hI, hS, hF, Result.andThen]
theorem neq29 (c : Cm) (w : World) : (binOp .neq 29 (.agg c.cells) (.agg c.cells)).run Try.prog w = .ok (.bool false) w := by
  rw [run_neq_struct, eq29 9997]; rfl
theorem b_rem (a b : Int) (h1 : -9223372036854775808 ≤ a) (h2 : a ≤ 9223372036854775807) (hb : 0 < b) (hb2 : b ≤ 1000) (w : World) : (binOp .rem 3 (.int .i64 a) (.int .i64 b)).run Try.prog w = .ok (.int .i64 (a.tmod b)) w := by
  have hne : b ≠ 0 := by omega
  have h3 := Int.tmod_lt_of_pos a hb
  have h4 : -b < a.tmod b := Int.lt_tmod_of_pos a hb
  have hw : IntKind.i64.wrap (a.tmod b) = a.tmod b := by rw [IntKind.wrap_i64]; omega
  rw [binOp_rem]
  simp [Op.intDiv, hne, hw]
/-- Commands in a row. -/
def cmL (xs : List Cm) : List Value := (xs.map Cm.cs).flatten
theorem cmL_c (xs : List Cm) : ∀ x ∈ xs.map Cm.cs, x.length = 9 := by intro x hx; obtain ⟨e, _, rfl⟩ := List.mem_map.1 hx; rfl
theorem cmL_len (xs : List Cm) : (cmL xs).length = xs.length * 9 := by unfold cmL; rw [flat_len 9 _ (cmL_c xs), List.length_map]
theorem cmL_one (xs : List Cm) : ∀ v ∈ cmL xs, v.oneCell' = true := by
  intro v hv
  unfold cmL at hv
  obtain ⟨l, hl, hv⟩ := List.mem_flatten.1 hv
  obtain ⟨e, _, rfl⟩ := List.mem_map.1 hl
  exact e.oneL v hv
theorem cmL_app (a b : List Cm) : cmL (a ++ b) = cmL a ++ cmL b := by simp [cmL]
theorem Cs.src {w : World} {a : Option Addr} {xs : List Cm} (h : Cs w a xs) : ∀ (j : Nat) u, (cmL xs)[j]? = some u → ∃ ad, a = some ad ∧ w.cell? (ad.add j) = some u := by
  intro j u hj
  have hlt := (List.getElem?_eq_some_iff.1 hj).1
  rw [cmL_len] at hlt
  have hi : j / 9 < xs.length := by omega
  obtain ⟨b, off, e, hc⟩ := h.at hi
  refine ⟨_, e, ?_⟩
  have hj4 : j % 9 < (cAt xs (j / 9)).cs.length := by have : (cAt xs (j / 9)).cs.length = 9 := rfl; omega
  have := flat_get 9 (xs.map Cm.cs) (cmL_c xs) (j / 9) (cAt xs (j / 9)).cs (by rw [List.getElem?_map, cAt_some hi]; rfl) (j % 9) _ (List.getElem?_eq_getElem hj4)
  rw [show j / 9 * 9 + j % 9 = j by omega] at this
  have e2 : (cAt xs (j / 9)).cs[j % 9]? = some u := by rw [List.getElem?_eq_getElem hj4, ← this]; exact hj
  rw [addr_add, show off + j = off + j / 9 * 9 + j % 9 by omega]
  exact hc _ _ e2
theorem sliced_cs {w : World} {a : Option Addr} {n c : Nat} {xs : List Cm} (h : Cs w a xs) (hl : xs.length = n) (lo hi : Nat) (h1 : lo ≤ hi) (h2 : hi ≤ n) (hc : n ≤ c) : ∃ xa xc, sliced a lo hi c 9 = .slice xa (hi - lo) xc ∧ Cs w xa ((xs.drop lo).take (hi - lo)) := by
  refine ⟨_, _, rfl, ?_⟩
  intro i it hit
  rw [List.getElem?_map] at hit
  cases hx : ((xs.drop lo).take (hi - lo))[i]? with
  | none => rw [hx] at hit; cases hit
  | some x =>
    rw [hx] at hit
    have e : x.cs = it := by simpa using hit
    subst e
    rw [List.getElem?_take] at hx
    split at hx
    · rename_i hlt
      rw [List.getElem?_drop] at hx
      obtain ⟨b, off, e1, e2⟩ := h (lo + i) x.cs (by rw [List.getElem?_map, hx]; rfl)
      refine ⟨b, off + lo * 9, ?_, fun j v hv => ?_⟩
      · show (if c = lo then a else a.map (·.add (lo * 9))) = _
        rw [if_neg (by omega), e1]
        simp [addr_add]
      · have := e2 j v hv
        rw [show off + lo * 9 + i * 9 + j = off + (lo + i) * 9 + j by omega]
        exact this
    · cases hx
/-- A command laid over one of a row of one's own. -/
theorem own_setC {w : World} {base : Nat} {a : Option Addr} {c n : Nat} {ys : List Cm} (h : Own 29 9 w base a c n (cmL ys)) (hl : ys.length = n) {i : Nat} (hi : i < n) (y : Cm) :
    ∃ g cur, a = some ⟨g, 0, none⟩ ∧ base ≤ g ∧ Box w g 29 (List.toArray cur) ∧ (storeVar 29 ⟨g, 0 + i * 9, none⟩ (.agg y.cells)).run Try.prog w = .ok () (w.setRow g (putL cur (0 + i * 9) y.cs).toArray) ∧ Own 29 9 (w.setRow g (putL cur (0 + i * 9) y.cs).toArray) base a c n (cmL (ys.set i y)) := by
  obtain ⟨g, cur, rfl, hb, hg, hle, hm, hs, ht⟩ := h.op (by omega)
  have hy9 : y.cs.length = 9 := rfl
  have hn9 : n * 9 ≤ c * 9 := Nat.mul_le_mul_right _ hle
  have hfit : 0 + i * 9 + y.cs.length ≤ cur.length := by rw [hs, hy9]; omega
  refine ⟨g, cur, rfl, hb, hg, run_store_at (ty := 29) (v := .agg y.cells) hg rfl Try.size29 hfit y.oneL, Own.shut hb (hg.setRow _) hle hm (by rw [putL_len hfit, hs]) ?_⟩
  have hys : ys = ys.take i ++ (cAt ys i :: ys.drop (i + 1)) := (cut_here (by rw [hl]; exact hi)).2
  have hset : ys.set i y = ys.take i ++ (y :: ys.drop (i + 1)) := by rw [List.set_eq_take_append_cons_drop, if_pos (by rw [hl]; exact hi)]
  have hA : (cmL (ys.take i)).length = i * 9 := by rw [cmL_len, List.length_take]; congr 1; omega
  have h1 : ∀ z, cmL (ys.take i ++ (z :: ys.drop (i + 1))) = cmL (ys.take i) ++ (z.cs ++ cmL (ys.drop (i + 1))) := fun z => by simp [cmL]
  have hD : (cmL (ys.drop (i + 1))).length = (n - (i + 1)) * 9 := by rw [cmL_len, List.length_drop, hl]
  rw [hys, h1] at ht
  rw [hset, h1]
  have e1 : cur.take (i * 9) = cmL (ys.take i) := by
    have := congrArg (List.take (i * 9)) ht
    rw [List.take_take, Nat.min_eq_left (by omega), List.take_append_of_le_length (by rw [hA]; exact Nat.le_refl _), List.take_of_length_le (l := cmL (ys.take i)) (by rw [hA]; exact Nat.le_refl _)] at this
    exact this
  have e2 : (cur.take (n * 9)).drop (i * 9 + 9) = cmL (ys.drop (i + 1)) := by
    rw [ht, ← List.append_assoc, List.drop_append_of_le_length (by rw [List.length_append, hA]; show _ ≤ i * 9 + 9; omega), List.drop_of_length_le (by rw [List.length_append, hA]; show i * 9 + 9 ≤ _; omega), List.nil_append]
  unfold putL
  rw [Nat.zero_add, hy9, e1, List.take_append, hA, List.take_of_length_le (by rw [hA]; omega), List.take_append, hy9, List.take_of_length_le (show y.cs.length ≤ _ by rw [hy9]; omega)]
  congr 2
  rw [List.drop_take] at e2
  rw [← e2]
  congr 1
  all_goals omega
theorem Fr.off {S : Nat → Prop} {w0 w w' : World} {l : List (Nat × TypeId × Array Value)} (hf : Fr No w0 w l) (hk : Kept S w w') (h0 : ∀ k, S k → w0.heap.size ≤ k) (hne : ∀ x ∈ l, ¬ S x.1) : Fr No w0 w' l :=
  ⟨hf.kept.trans hk (fun _ e => e.elim) (fun i hi e => by have := h0 i e; omega), fun i k T cs hi => (hf.box i k T cs hi).kept hk (hne _ (List.mem_of_getElem? hi)), hf.low, hf.inj⟩
theorem Fr.rowO {w0 w : World} {l : List (Nat × TypeId × Array Value)} {g : Nat} {T : TypeId} {cs : Array Value} (hf : Fr No w0 w l) (hb : Box w g T cs) (h0 : w0.heap.size ≤ g) (hT : ∀ x ∈ l, x.2.1 ≠ T) (cs' : Array Value) : Fr No w0 (w.setRow g cs') l :=
  hf.off (Kept.setRow _ _ _) (fun k e => (show k = g from e) ▸ h0) (fun x hx e => by
    obtain ⟨i, hi⟩ := List.mem_iff_getElem?.1 hx
    have e : x.1 = g := e
    exact box_ne (hf.box i x.1 x.2.1 x.2.2 hi) hb (hT x hx) e)
theorem BkAt.kept2 {S : Nat → Prop} {w w' : World} {v : Bv} {b : Bk} (h : BkAt w v b) (hk : Kept S w w') (h1 : ∀ k, At v.e.a k → ¬ S k) (h2 : ∀ k, At v.l.a k → ¬ S k) : BkAt w' v b :=
  ⟨h.up, h.e.kept hk h1, h.l.kept hk h2, fun k hk' => by obtain ⟨cs, hb⟩ := h.te k hk'; exact ⟨cs, hb.kept hk (h1 k hk')⟩, fun k hk' => by obtain ⟨cs, hb⟩ := h.tl k hk'; exact ⟨cs, hb.kept hk (h2 k hk')⟩, h.ne, h.nl⟩
theorem Ans.src {w : World} {base : Nat} {s : Sl} {vs : List Av} {az : List An} (h : Ans w base s vs az) : ∀ (j : Nat) u, (avL vs)[j]? = some u → ∃ ad, s.a = some ad ∧ w.cell? (ad.add j) = some u := by
  intro j u hj
  have hlt := (List.getElem?_eq_some_iff.1 hj).1
  rw [avL_len] at hlt
  have hi : j / 6 < vs.length := by omega
  obtain ⟨b, off, e, hc⟩ := Own.rows h.own (avL_c vs) (by omega) (j / 6) vs[j / 6].cs (by rw [List.getElem?_map, List.getElem?_eq_getElem hi]; rfl)
  refine ⟨_, e, ?_⟩
  have hj4 : j % 6 < vs[j / 6].cs.length := by have : vs[j / 6].cs.length = 6 := rfl; omega
  have := flat_get 6 (vs.map Av.cs) (avL_c vs) (j / 6) vs[j / 6].cs (by rw [List.getElem?_map, List.getElem?_eq_getElem hi]; rfl) (j % 6) _ (List.getElem?_eq_getElem hj4)
  rw [show j / 6 * 6 + j % 6 = j by omega] at this
  have e2 : vs[j / 6].cs[j % 6]? = some u := by rw [List.getElem?_eq_getElem hj4, ← this]; exact hj
  rw [addr_add, show off + j = off + j / 6 * 6 + j % 6 by omega]
  exact hc _ _ e2
/-- Answers behind answers. -/
theorem appA {w : World} {b1 b2 : Nat} {fa : Option Addr} {fn fc : Nat} {ra : Option Addr} {rn rc : Nat} {vs us : List Av} {A1 A2 : List An} (h1 : Ans w b1 ⟨fa, fn, fc⟩ vs A1) (h2 : Ans w b2 ⟨ra, rn, rc⟩ us A2) (hb : b1 ≤ w.heap.size) (hn : fn + rn ≤ 1000000) :
    ∃ oa oc W2, (Builtin.append_ #[45, 45] 45 #[.slice fa fn fc, .slice ra rn rc]).run Try.prog w = .ok (.slice oa (fn + rn) oc) W2 ∧ Ans W2 b1 ⟨oa, fn + rn, oc⟩ (vs ++ us) (A1 ++ A2) ∧ Kept (At fa) w W2 := by
  have hu : us.length = rn := h2.lv
  obtain ⟨oa, oc, W2, hrun, hO, hk, hA⟩ := run_appN (w := w) 45 45 56 6 72 (.agg avZ.cells) Try.und45 Try.info56 rfl (by omega) b1 fn fc fa (avL vs) h1.own ra rn rc (avL us) (by rw [avL_len, hu]) (fun e => h2.own.cap0 e) h2.src (avL_one us) (by omega) (by omega) hb
  have hl : vs.length = fn := h1.lv
  have hno : ∀ {x : Av} {b : An}, AnAt w x b → ∀ k, At x.l.a k → ¬ At fa k := fun hx k q1 q2 => by
    obtain ⟨cs, hb⟩ := h1.own.ty q2
    exact hx.not hb (by decide) q1
  have h1a : A1.length = fn := h1.la
  have h2a : A2.length = rn := h2.la
  refine ⟨oa, oc, W2, hrun, ⟨by rw [avL_app]; exact hO, by show (vs ++ us).length = fn + rn; rw [List.length_append, hl, hu], by show (A1 ++ A2).length = fn + rn; rw [List.length_append, h1a, h2a], fun i x e => ?_⟩, hk⟩
  by_cases hi : i < vs.length
  · rw [List.getElem?_append_left hi] at e
    obtain ⟨b, q1, q2⟩ := h1.get i x e
    exact ⟨b, by rw [List.getElem?_append_left (by omega)]; exact q1, q2.kept hk (hno q2)⟩
  · rw [List.getElem?_append_right (by omega)] at e
    obtain ⟨b, q1, q2⟩ := h2.get _ x e
    exact ⟨b, by rw [List.getElem?_append_right (by omega), show i - A1.length = i - vs.length by omega]; exact q1, q2.kept hk (hno q2)⟩
theorem Fr.addV {w0 w : World} {l : List (Nat × TypeId × Array Value)} {g : Nat} {T : TypeId} {cs : Array Value} (h : Fr No w0 w l) (hb : Box w g T cs) (h0 : w0.heap.size ≤ g) (hne : ∀ x ∈ l, x.1 ≠ g) : Fr No w0 w (l ++ [(g, T, cs)]) := by
  have key : ∀ (j : Nat) x, (l ++ [(g, T, cs)])[j]? = some x → l[j]? = some x ∨ (j = l.length ∧ x = (g, T, cs)) := fun j x hj => by
    by_cases e : j < l.length
    · rw [List.getElem?_append_left e] at hj; exact .inl hj
    · rw [List.getElem?_append_right (by omega)] at hj
      cases hd : j - l.length with
      | zero => rw [hd] at hj; simp at hj; exact .inr ⟨by omega, hj.symm⟩
      | succ d => rw [hd] at hj; simp at hj
  refine ⟨h.kept, fun j k U ds hj => ?_, fun j k U ds hj => ?_, fun i j k U ds V es hi hj => ?_⟩
  · rcases key j _ hj with hj | ⟨_, e⟩
    · exact h.box j k U ds hj
    · cases e; exact hb
  · rcases key j _ hj with hj | ⟨_, e⟩
    · exact h.low j k U ds hj
    · cases e; exact h0
  · rcases key i _ hi with hi | ⟨e1, e⟩ <;> rcases key j _ hj with hj | ⟨e2, e'⟩
    · exact h.inj i j k U ds V es hi hj
    · cases e'; exact absurd rfl (hne _ (List.mem_of_getElem? hi))
    · cases e; exact absurd rfl (hne _ (List.mem_of_getElem? hj))
    · omega
theorem Fr.joinV {w0 w w' : World} {l : List (Nat × TypeId × Array Value)} {g h : Nat} {T T' : TypeId} {cs cs' : Array Value} (hf : Fr No w0 w l) (hk : Kept No w w') (hg : w.heap.size ≤ g) (hh : w.heap.size ≤ h) (bg : Box w' g T cs) (bh : Box w' h T' cs') (hT : T ≠ T') : Fr No w0 w' (l ++ [(g, T, cs)] ++ [(h, T', cs')]) := by
  have hs := hf.kept.size
  have key : ∀ x ∈ l, x.1 < w.heap.size := fun x hx => by
    obtain ⟨i, hi⟩ := List.mem_iff_getElem?.1 hx
    exact (hf.box i x.1 x.2.1 x.2.2 hi).lt
  refine ((hf.no hk).addV bg (by omega) (fun x hx => ?_)).addV bh (by omega) (fun x hx => ?_)
  · have := key x hx; omega
  · rcases List.mem_append.1 hx with hx | hx
    · have := key x hx; omega
    · rw [List.mem_singleton.1 hx]; exact box_ne bg bh hT
theorem Fr.lendV {w0 w w' : World} {x y z : Nat × TypeId × Array Value} {l : List (Nat × TypeId × Array Value)} (h : Fr No w0 w (x :: y :: z :: l)) (hk : Kept (GH y.1 z.1) w w') : Fr No w0 w' (x :: l) := by
  have key : ∀ (i : Nat) e, (x :: l)[i]? = some e → ∃ j, j ≠ 1 ∧ j ≠ 2 ∧ (x :: y :: z :: l)[j]? = some e ∧ (i = 0 ∧ j = 0 ∨ j = i + 2 ∧ i ≠ 0) := fun i e hi => by
    cases i with
    | zero => exact ⟨0, by omega, by omega, hi, .inl ⟨rfl, rfl⟩⟩
    | succ i => exact ⟨i + 3, by omega, by omega, hi, .inr ⟨rfl, by omega⟩⟩
  have hy := h.low 1 y.1 y.2.1 y.2.2 rfl
  have hz := h.low 2 z.1 z.2.1 z.2.2 rfl
  refine ⟨h.kept.trans hk (fun _ e => e.elim) (fun i hi e => by rcases e with rfl | rfl <;> omega), fun i k T cs hi => ?_, fun i k T cs hi => ?_, fun i j k T cs T' cs' hi hj => ?_⟩
  · obtain ⟨j, h1, h2, hj, _⟩ := key i _ hi
    refine (h.box j k T cs hj).kept hk (fun e => ?_)
    rcases e with rfl | rfl
    · exact h1 (h.inj j 1 _ _ _ _ _ hj rfl)
    · exact h2 (h.inj j 2 _ _ _ _ _ hj rfl)
  · obtain ⟨j, h1, h2, hj, _⟩ := key i _ hi
    exact h.low j k T cs hj
  · obtain ⟨i', _, _, hi', e1⟩ := key i _ hi
    obtain ⟨j', _, _, hj', e2⟩ := key j _ hj
    have := h.inj i' j' _ _ _ _ _ hi' hj'
    omega
theorem Try.info29 : (Try.prog.info? 29).map (fun i => (i.zero, i.size, i.bytes)) = some (some (.agg cZ.cells), 9, 80) := by kernel_rfl
theorem slice0_cm (w : World) : (Instr.buildSlice 34 0 #[]).run Try.prog w = .ok (.slice (some ⟨w.heap.size, 0, none⟩) 0 0) (w.alloc (.cells #[] 29)) := by kernel_rfl
theorem b_addR (x y : Int) (h1 : -9223372036854775808 ≤ x + y) (h2 : x + y ≤ 9223372036854775807) (w : World) : (binOp .add 3 (.int .i64 x) (.int .i64 y)).run Try.prog w = .ok (.int .i64 (x + y)) w := by
  have hw : IntKind.i64.wrap (x + y) = x + y := by rw [IntKind.wrap_i64]; omega
  have : (binOp .add 3 (.int .i64 x) (.int .i64 y)).run Try.prog w = .ok (.int .i64 (IntKind.i64.wrap (x + y))) w := by kernel_rfl
  rw [this, hw]
theorem sameAns_any2 (a : Option Addr) (n c : Nat) (b : Option Addr) (m d : Nat) (vs us : List Av) (az : List An) (b1 b2 : Nat) (w : World) (h1 : Ans w b1 ⟨a, n, c⟩ vs az) (h2 : Ans w b2 ⟨b, m, d⟩ us az) (hn : n ≤ 1000000) : Calls Try.prog 21 #[.slice a n c, .slice b m d] w (fun e w' => e = .returned (.bool true) ∧ Kept No w w') := by
  obtain rfl : n = m := by have e1 : az.length = n := h1.la; have e2 : az.length = m := h2.la; omega
  exact sameAns_any a n c b d vs us az b1 b2 w h1 h2 hn
theorem rep_zero {room : Int} {b : Bk} {xs : List Cm} (k : Nat) (h : errR room b xs = 0) : errR room b (xs.take k) = 0 ∧ errR room (resB room b (xs.take k)) (xs.drop k) = 0 ∧ resB room (resB room b (xs.take k)) (xs.drop k) = resB room b xs ∧ resA room b (xs.take k) ++ resA room (resB room b (xs.take k)) (xs.drop k) = resA room b xs := by
  have e := errR_app room (xs.take k) (xs.drop k) b
  rw [List.take_append_drop, h] at e
  have e1 : errR room b (xs.take k) = 0 := by
    by_cases q : errR room b (xs.take k) = 0
    · exact q
    · rw [if_neg q] at e; exact e.symm
  rw [if_pos e1] at e
  rw [(resB_0 e1).1, (resB_0 e1).2]
  refine ⟨e1, e.symm, ?_, ?_⟩
  · rw [(resB_0 e.symm).1, (resB_0 h).1, ← runB_app, List.take_append_drop]
  · rw [(resB_0 e.symm).2, (resB_0 h).2, ← runA_app, List.take_append_drop]
theorem rep_err {room : Int} {b : Bk} {xs : List Cm} (k : Nat) (h : errR room b xs ≠ 0) (h1 : errR room b (xs.take k) = 0) : errR room (resB room b (xs.take k)) (xs.drop k) ≠ 0 := by
  have e := errR_app room (xs.take k) (xs.drop k) b
  rw [List.take_append_drop, if_pos h1] at e
  rw [(resB_0 h1).1, ← e]
  exact h
theorem Fine.res {room : Int} {b : Bk} {k : Nat} (h : Fine k b) (l : List Cm) : Fine (k + l.length) (resB room b l) := by
  unfold resB
  split
  · exact h.run room l
  · exact ⟨Int.le_refl _, fun i j x y h => by simp at h, fun i j x y h => by simp at h, by simp, by simp⟩
theorem Good.fine {up : Int} {es : List En} {ls : List La} (h : Good up es ls) : Fine 256 ⟨up, es, ls⟩ := ⟨h.up0, h.re, h.rl, h.n, by have := h.ln; show ls.length ≤ 256; omega⟩

end Go.Proofs.Ytfemlnfknebalaa
