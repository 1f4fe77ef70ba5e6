import Derived.Test.YtgdnofacgfjaeaaGreatKf
import Derived.Test.YtgdnofacgfjaeaaGreatFh
namespace Go.Proofs.YtgdnofacgfjaeaaGreat.Md
open Go.RowKit
set_option linter.unusedVariables false
set_option linter.unusedSimpArgs false
section
variable {ops : Array Oper} {rest : List Oper} {o : Oper} {a : Act} {w : World} {Q : Exit → Act → World → Prop} {S : Nat → Prop} {w0 : World} {l : List (Nat × TypeId × Array Value)}
end
theorem RdI.nil (w : World) : RdI w slZ [] := ⟨Nums.nil _ _ _, rfl⟩
theorem RdI.box {w : World} {g : Nat} {t : TypeId} {zs : List Int} (hb : Box w g t (zs.map (Value.int .i64)).toArray) : RdI w ⟨some ⟨g, 0, none⟩, zs.length, zs.length⟩ zs := by
  refine ⟨fun i hi => ⟨g, 0, rfl, ?_⟩, rfl⟩
  rw [Nat.zero_add, hb.cell]
  simp [List.getElem?_eq_getElem hi]
structure SlO (w : World) (zs : List Int) (e : Ending) (w' : World) : Prop where
  out : ∃ s : Sl, e = .returned s.v ∧ Kept No w w' ∧ RdI w' s zs ∧ s.l ≤ 8
section
variable {ops : Array Oper} {a : Act} {w : World} {Q : Exit → Act → World → Prop} {md : Region.Mode} {S : Nat → Prop} {w0 : World} {l : List (Nat × TypeId × Array Value)} {fuel : Nat} {listed : Array Bool}
end
def emptyF (m : Mg) (f : Int) : Bool :=
  bif f == 0 then eqS m.st spZ else bif f == 1 then eqS m.hd spZ else bif f == 2 then ((m.bl.l : Nat) : Int) == 0 else bif f == 3 then eqC m.c cZ else bif f == 4 then empK m.bk else bif f == 5 then ((m.cm.l : Nat) : Int) == 0 else !m.mo
theorem Fq.tail {S : Nat → Prop} {w0 w : World} {x : Nat × TypeId × Array Value} {l : List (Nat × TypeId × Array Value)} (h : Fq S w0 w (x :: l)) : Fq S w0 w l :=
  ⟨h.kept, fun i g T cs hi => h.box (i + 1) g T cs (by simpa using hi), fun i g T cs hi => h.low (i + 1) g T cs (by simpa using hi),
    fun i j g T cs T' cs' hi hj => Nat.succ.inj (h.inj (i + 1) (j + 1) g T cs T' cs' (by simpa using hi) (by simpa using hj))⟩
theorem Fq.join {S : Nat → Prop} {w0 w w' : World} {l m : List (Nat × TypeId × Array Value)} (h : Fq S w0 w l) (k : Fq No w w' m) : Fq S w0 w' (l ++ m) := by
  have hl := h.no k.kept
  refine ⟨hl.kept, ?_, ?_, ?_⟩
  · intro i g T cs hi
    rw [List.getElem?_append] at hi
    split at hi
    · exact hl.box i g T cs hi
    · exact k.box _ g T cs hi
  · intro i g T cs hi
    rw [List.getElem?_append] at hi
    split at hi
    · exact h.low i g T cs hi
    · rcases k.low _ g T cs hi with h1 | h1
      · exact .inl (Nat.le_trans h.kept.size h1)
      · exact h1.elim
  · intro i j g T1 c1 T2 c2 hi hj
    rw [List.getElem?_append] at hi hj
    split at hi <;> split at hj
    · exact h.inj i j g T1 c1 T2 c2 hi hj
    · have h1 := (h.box i g T1 c1 hi).lt
      rcases k.low _ g T2 c2 hj with h2 | h2
      · omega
      · exact h2.elim
    · have h1 := (h.box j g T2 c2 hj).lt
      rcases k.low _ g T1 c1 hi with h2 | h2
      · omega
      · exact h2.elim
    · have := k.inj _ _ g T1 c1 T2 c2 hi hj
      omega
section
variable {ops : Array Oper} {rest : List Oper} {o : Oper} {a : Act} {w : World} {Q : Exit → Act → World → Prop} {S : Nat → Prop} {w0 : World} {l : List (Nat × TypeId × Array Value)}
theorem mS {t E : TypeId} (n : Nat) (cs : List Value) (HF : Hid (Fq S w0 w l)) (hr : (Instr.makeSlice t (.int .i64 (n : Int)) (.int .i64 (n : Int))).run Tryz.prog w = .ok (.slice (some ⟨w.heap.size, 0, none⟩) n n) (w.alloc (.cells cs.toArray E)))
    (h : ∀ g w', Hid (Fq S w0 w' (l ++ [(g, E, cs.toArray)])) → WL ops Q rest (a.put o.dst (.slice (some ⟨g, 0, none⟩) n n)) w') {x y : Operand} (ho : o.op = .makeSlice t x y := by rfl)
    (hx : a.eval x = .int .i64 (n : Int) := by kernel_rfl) (hy : a.eval y = .int .i64 (n : Int) := by kernel_rfl) (hw : Region.wanted o (yielded ops a.tmps) = true := by kernel_rfl) : WL ops Q (o :: rest) a w :=
  wp_runW _ _ (exec_make t x y ho _ _ hx hy hr) hw (h _ _ (HF.out.alloc _ _))
theorem cS {T T' : TypeId} {vs vx v : Value} (i : Nat) (new : List Value) {g : Nat} {E : TypeId} {cur : List Value} (HF : Hid (Fq S w0 w l)) (hi : l[i]? = some (g, E, cur.toArray)) (hr : ∀ ty, (Builtin.copy_ #[T, T'] ty #[vs, vx]).run Tryz.prog w = .ok v (w.setRow g new.toArray))
    (h : ∀ w', Hid (Fq S w0 w' (l.set i (g, E, new.toArray))) → WL ops Q rest (a.put o.dst v) w') {s x : Operand} (ho : o.op = .call { callee := Callee.builtin Builtin.copy, args := #[s, x], argTypes := #[T, T'] } := by rfl)
    (hs : a.eval s = vs := by kernel_rfl) (hx : a.eval x = vx := by kernel_rfl) (hw : Region.wanted o (yielded ops a.tmps) = true := by kernel_rfl) : WL ops Q (o :: rest) a w :=
  wp_runW _ _ (exec_copy s x T T' ho vs vx hs hx (hr _)) hw (h _ (HF.out.set i hi _))
theorem hS {t : TypeId} {g n m len c : Nat} (ht : Tryz.prog.underlying t = some (.slice (Tryz.prog.elem t))) (hs : (Tryz.prog.info? (Tryz.prog.elem t)).map (·.size) = some c) (hm : 0 < m) (hn : n ≤ m)
    (h : WL ops Q rest (a.put o.dst (.slice (some ⟨g, 0, none⟩) n m)) w) {x y : Operand} (ho : o.op = .slice t x none (some y) none := by rfl) (hx : a.eval x = .slice (some ⟨g, 0, none⟩) len m := by kernel_rfl) (hy : a.eval y = .int .i64 (n : Int) := by kernel_rfl)
    (hw : Region.wanted o (yielded ops a.tmps) = true := by kernel_rfl) : WL ops Q (o :: rest) a w := by
  have e := exec_slH (w := w) t x y ho c ht hs _ len m n hx hy hn
  rw [sliced0 g n m c hm] at e
  exact tW _ e h hw
theorem zH {o : Oper} {t : TypeId} {g n m len c : Nat} (ht : Tryz.prog.underlying t = some (.slice (Tryz.prog.elem t))) (hs : (Tryz.prog.info? (Tryz.prog.elem t)).map (·.size) = some c) (hm : 0 < m) (hn : n ≤ m)
    (hl : slA o a.eval = some (t, .slice (some ⟨g, 0, none⟩) len m, .int .i64 (n : Int)) := by kernel_rfl) :
    ∀ w, Hid (Fq S w0 w l) → (execOp a.eval o).run Tryz.prog w = .ok (.value (.slice (some ⟨g, 0, none⟩) n m)) w := fun w _ => by
  unfold slA at hl
  split at hl
  · rename_i t' x y hx
    obtain ⟨rfl, h2⟩ := Prod.mk.inj (Option.some.inj hl)
    obtain ⟨h4, h5⟩ := Prod.mk.inj h2
    have e := exec_slH (w := w) _ x y hx c ht hs _ len m n h4 h5 hn
    rw [sliced0 g n m c hm] at e
    exact e
  · cases hl
theorem cJ {f : FuncId} {args : Array Value} {V : Nat → Value} {L : Nat → List (Nat × TypeId × Array Value)} (hc : Calls Tryz.prog f args w (fun e w' => ∃ g, e = .returned (V g) ∧ Hid (Fq No w w' (L g)))) (HF : Hid (Fq S w0 w l))
    (h : ∀ g w', Hid (Fq S w0 w' (l ++ L g)) → WL ops Q rest (a.put o.dst (V g)) w') (hrun : (execOp a.eval o).run Tryz.prog w = .ok (.enter f args) w := by kernel_rfl) (hw : Region.wanted o (yielded ops a.tmps) = true := by kernel_rfl) : WL ops Q (o :: rest) a w :=
  wp_callW f args hrun _ hc hw (by rintro e w' ⟨g, rfl, hk⟩; exact ⟨_, rfl, h g w' (HF.out.join hk.out)⟩)
theorem cJ2 {f : FuncId} {args : Array Value} {V : Nat → Nat → Value} {L : Nat → Nat → List (Nat × TypeId × Array Value)} (hc : Calls Tryz.prog f args w (fun e w' => ∃ g g2, e = .returned (V g g2) ∧ Hid (Fq No w w' (L g g2)))) (HF : Hid (Fq S w0 w l))
    (h : ∀ g g2 w', Hid (Fq S w0 w' (l ++ L g g2)) → WL ops Q rest (a.put o.dst (V g g2)) w') (hrun : (execOp a.eval o).run Tryz.prog w = .ok (.enter f args) w := by kernel_rfl) (hw : Region.wanted o (yielded ops a.tmps) = true := by kernel_rfl) : WL ops Q (o :: rest) a w :=
  wp_callW f args hrun _ hc hw (by rintro e w' ⟨g, g2, rfl, hk⟩; exact ⟨_, rfl, h g g2 w' (HF.out.join hk.out)⟩)
end
theorem cpyG {w : World} (T ty E : TypeId) (c : Nat) (ht : Tryz.prog.underlying T = some (.slice E)) (hs : (Tryz.prog.info? E).map (·.size) = some c) {g : Nat} {t : TypeId} {cur : List Value} (hb : Box w g t cur.toArray) (n k : Nat) (s : Sl) (hn : s.l ≤ n) (cs : List Value) (hl : cs.length = s.l * c) (hc0 : 0 < c)
    (hsrc : ∀ j u, cs[j]? = some u → ∃ ad, s.a = some ad ∧ w.cell? (ad.add j) = some u) (hfit : cs.length ≤ cur.length) (h1 : ∀ u ∈ cs, u.oneCell' = true) :
    (Builtin.copy_ #[T, T] ty #[.slice (some ⟨g, 0, none⟩) n k, s.v]).run Tryz.prog w = .ok (goInt s.l) (w.setRow g (putL cur 0 cs).toArray) := by
  obtain ⟨ea, en, ec⟩ := s
  cases ea with
  | none =>
    have hes : cs = [] := by
      cases cs with
      | nil => rfl
      | cons x r => obtain ⟨ad, e, _⟩ := hsrc 0 x rfl; cases e
    subst hes
    have hen : en = 0 := by
      simp only [List.length_nil] at hl
      rcases Nat.mul_eq_zero.1 hl.symm with h | h
      · exact h
      · omega
    subst hen
    have e : (Builtin.copy_ #[T, T] ty #[.slice (some ⟨g, 0, none⟩) n k, .slice none 0 ec]).run Tryz.prog w = .ok (goInt 0) w := by
      simp [Builtin.copy_, run_underlying ht, Builtin.lenOf, size_of hs, run_firstCells_none, storeCells]
    have e2 : putL cur 0 [] = cur := by simp [putL]
    rw [e2, setRow_self hb]
    exact e
  | some ad =>
    exact run_copyN T ty E c ht hs hb n k ad en ec en (by simp only at hn; omega) cs hl (fun j u h => by
      obtain ⟨ad', e1, e2⟩ := hsrc j u h
      cases e1; exact e2) (by omega) h1
def enK : En := ⟨⟨#[]⟩, 0, 0, -77⟩
def laK : La := ⟨0, 0, 0, 0, 0, 0, -78⟩
def cmK : Cm := ⟨0, 0, 0, ⟨#[]⟩, 0, 0, 0, 0, -79⟩
theorem cmL_app' (a b : List Cm) : cmL (a ++ b) = cmL a ++ cmL b := by simp [cmL]
theorem put_mid (a b c : List Value) (v : List Value) (h : v.length = b.length) : putL (a ++ (b ++ c)) a.length v = a ++ (v ++ c) := by
  unfold putL
  rw [List.take_left', h, ← List.drop_drop, List.drop_left', List.drop_left']
  all_goals rfl
theorem put0 (b c v : List Value) (h : v.length = b.length) : putL (b ++ c) 0 v = v ++ c := put_mid [] b c v h
theorem pE0 (n : Nat) (es : List En) (h : es.length = n) : putL (enL (List.replicate (n + 1) enZ)) 0 (enL es) = enL (es ++ [enZ]) := by
  rw [enL_app, show n + 1 = n + 1 from rfl, ← List.replicate_append_replicate (n := n) (m := 1), enL_app]
  exact put0 _ _ _ (by rw [enL_len, enL_len, List.length_replicate, h])
theorem pL0 (n : Nat) (es : List La) (h : es.length = n) : putL (laL (List.replicate (n + 1) laZ)) 0 (laL es) = laL (es ++ [laZ]) := by
  rw [laL_app, ← List.replicate_append_replicate (n := n) (m := 1), laL_app]
  exact put0 _ _ _ (by rw [laL_len, laL_len, List.length_replicate, h])
theorem pB0 (n : Nat) (es : List Int) (h : es.length = n) : putL (u8L (List.replicate (n + 3) 0)) 0 (u8L es) = u8L (es ++ [0, 0, 0]) := by
  rw [u8L_app, ← List.replicate_append_replicate (n := n) (m := 3), u8L_app]
  exact put0 _ _ _ (by rw [u8L_len, u8L_len, List.length_replicate, h])
theorem pE1 (n : Nat) (es : List En) (h : es.length = n) (x y : En) : putL (enL (es ++ [x])) (0 + n * 4) y.cs = enL (es ++ [y]) := by
  rw [enL_app, enL_app, Nat.zero_add, ← h, ← enL_len]
  have := put_mid (enL es) (enL [x]) [] y.cs rfl
  rw [List.append_nil, List.append_nil] at this
  rw [this]; simp [enL]
theorem pL1 (n : Nat) (es : List La) (h : es.length = n) (x y : La) : putL (laL (es ++ [x])) (0 + n * 7) y.cs = laL (es ++ [y]) := by
  rw [laL_app, laL_app, Nat.zero_add, ← h, ← laL_len]
  have := put_mid (laL es) (laL [x]) [] y.cs rfl
  rw [List.append_nil, List.append_nil] at this
  rw [this]; simp [laL]
def mk3 (j : Nat) : List Int := List.replicate j 167 ++ List.replicate (3 - j) 0
theorem pB1 (n : Nat) (es : List Int) (h : es.length = n) (j : Nat) (hj : j < 3) : putL (u8L (es ++ mk3 j)) (0 + (n + j) * 1) [.int .u8 167] = u8L (es ++ mk3 (j + 1)) := by
  have e1 : u8L (es ++ mk3 j) = (u8L es ++ u8L (List.replicate j 167)) ++ ([.int .u8 0] ++ u8L (List.replicate (2 - j) 0)) := by
    unfold mk3
    rw [show 3 - j = 1 + (2 - j) by omega, ← List.replicate_append_replicate (n := 1)]
    simp [u8L]
  have e2 : u8L (es ++ mk3 (j + 1)) = (u8L es ++ u8L (List.replicate j 167)) ++ ([.int .u8 167] ++ u8L (List.replicate (2 - j) 0)) := by
    unfold mk3
    rw [show 3 - (j + 1) = 2 - j by omega, ← List.replicate_append_replicate (n := j) (m := 1)]
    simp [u8L]
  rw [e1, e2, show 0 + (n + j) * 1 = (u8L es ++ u8L (List.replicate j 167)).length by rw [List.length_append, u8L_len, u8L_len, List.length_replicate, h]; omega]
  exact put_mid _ _ _ _ rfl
theorem cE {w : World} {g : Nat} {s : Sl} {es : List En} (hb : Box w g 92 (enL (List.replicate (s.l + 1) enZ)).toArray) (he : RdE w s es) (ty : TypeId) : (Builtin.copy_ #[40, 40] ty #[.slice (some ⟨g, 0, none⟩) (s.l + 1) (s.l + 1), s.v]).run Tryz.prog w = .ok (goInt s.l) (w.setRow g (enL (es ++ [enZ])).toArray) := by
  rw [← pE0 s.l es he.len]
  exact cpyG 40 ty 92 4 U40 S92 hb _ _ s (by omega) (enL es) (by rw [enL_len, he.len]) (by omega) (fun j u h => he.src j u h) (by rw [enL_len, enL_len, List.length_replicate, he.len]; omega) (enL_one _)
theorem cL {w : World} {g : Nat} {s : Sl} {es : List La} (hb : Box w g 94 (laL (List.replicate (s.l + 1) laZ)).toArray) (he : RdL w s es) (ty : TypeId) : (Builtin.copy_ #[41, 41] ty #[.slice (some ⟨g, 0, none⟩) (s.l + 1) (s.l + 1), s.v]).run Tryz.prog w = .ok (goInt s.l) (w.setRow g (laL (es ++ [laZ])).toArray) := by
  rw [← pL0 s.l es he.len]
  exact cpyG 41 ty 94 7 U41 S94 hb _ _ s (by omega) (laL es) (by rw [laL_len, he.len]) (by omega) (fun j u h => he.src j u h) (by rw [laL_len, laL_len, List.length_replicate, he.len]; omega) (laL_one _)
theorem cB3 {w : World} {g : Nat} {s : Sl} {es : List Int} (hb : Box w g 5 (u8L (List.replicate (s.l + 3) 0)).toArray) (he : RdB w s es) (ty : TypeId) : (Builtin.copy_ #[35, 35] ty #[.slice (some ⟨g, 0, none⟩) (s.l + 3) (s.l + 3), s.v]).run Tryz.prog w = .ok (goInt s.l) (w.setRow g (u8L (es ++ mk3 0)).toArray) := by
  show _ = Result.ok _ (w.setRow g (u8L (es ++ [0, 0, 0])).toArray)
  rw [← pB0 s.l es he.len]
  exact cpyG 35 ty 5 1 U35 S5 hb _ _ s (by omega) (u8L es) (by rw [u8L_len, he.len]; omega) (by omega) (fun j u h => he.src j u h) (by rw [u8L_len, u8L_len, List.length_replicate, he.len]; omega) (u8L_one _)
def i64L (zs : List Int) : List Value := zs.map (Value.int .i64)
theorem i64L_len (es : List Int) : (i64L es).length = es.length := by simp [i64L]
theorem I3' : (Tryz.prog.info? 3).map (fun i => (i.zero, i.size, i.bytes)) = some (some (.int .i64 0), 1, 8) := by kernel_rfl
theorem make_i (w : World) (n : Nat) (hb : n ≤ 17592186044416) : (Instr.makeSlice 22 (.int .i64 (n : Int)) (.int .i64 (n : Int))).run Tryz.prog w = .ok (.slice (some ⟨w.heap.size, 0, none⟩) n n) (w.alloc (.cells (i64L (List.replicate n 0)).toArray 3)) := by
  cases hq : Tryz.prog.info? 3 with
  | none => have := I3'; simp [hq] at this
  | some i =>
    have h1 := I3'
    simp only [hq, Option.map_some, Option.some.injEq, Prod.mk.injEq] at h1
    obtain ⟨hz, hs, hby⟩ := h1
    have h := run_make (P := Tryz.prog) w 22 3 i (.int .i64 0) U22 hq hz .i64 .i64 (n : Int) (n : Int) (by omega) (by omega) (by rw [hby]; omega) (by omega)
    rw [h, hs, show i64L (List.replicate n 0) = ((List.replicate n [Value.int .i64 0]).flatten) by
      clear h
      induction n with
      | zero => rfl
      | succ n ih => rw [List.replicate_succ, List.replicate_succ, List.flatten_cons, ← ih (by omega)]; rfl]
    simp only [Int.toNat_natCast]
    rw [← made_row 1 [Value.int .i64 0] rfl (by omega) n]
    rfl
theorem i64L_app (a b : List Int) : i64L (a ++ b) = i64L a ++ i64L b := by simp [i64L]
theorem pI0 (n : Nat) (es : List Int) (h : es.length = n) : putL (i64L (List.replicate (n + 1) 0)) 0 (i64L es) = i64L (es ++ [0]) := by
  rw [i64L_app, ← List.replicate_append_replicate (n := n) (m := 1), i64L_app]
  exact put0 _ _ _ (by rw [i64L_len, i64L_len, List.length_replicate, h])
theorem pI1 (n : Nat) (es : List Int) (h : es.length = n) (x y : Int) : putL (i64L (es ++ [x])) (0 + n * 1) [.int .i64 y] = i64L (es ++ [y]) := by
  rw [i64L_app, i64L_app, Nat.zero_add, Nat.mul_one, ← h, ← i64L_len]
  have := put_mid (i64L es) (i64L [x]) [] [.int .i64 y] rfl
  rw [List.append_nil, List.append_nil] at this
  rw [this]; simp [i64L]
theorem cI {w : World} {g : Nat} {s : Sl} {es : List Int} (hb : Box w g 3 (i64L (List.replicate (s.l + 1) 0)).toArray) (he : RdI w s es) (ty : TypeId) : (Builtin.copy_ #[22, 22] ty #[.slice (some ⟨g, 0, none⟩) (s.l + 1) (s.l + 1), s.v]).run Tryz.prog w = .ok (goInt s.l) (w.setRow g (i64L (es ++ [0])).toArray) := by
  rw [← pI0 s.l es he.len]
  refine cpyG 22 ty 3 1 U22 S3 hb _ _ s (by omega) (i64L es) (by rw [i64L_len, he.len]; omega) (by omega) (fun j u h => ?_) (by rw [i64L_len, i64L_len, List.length_replicate, he.len]; omega) (num_one _ _)
  have hj := (List.getElem?_eq_some_iff.1 h).1
  have := he.row.src (by rw [List.length_map]; rw [i64L_len] at hj; omega)
  obtain ⟨ad, e, hc⟩ := this
  exact ⟨ad, e, hc j u h⟩
theorem RdE.lent {w : World} {g n k : Nat} {es : List En} {x : En} (hb : Box w g 92 (enL (es ++ [x])).toArray) (hl : es.length = n) : RdE w ⟨some ⟨g, 0, none⟩, n, k⟩ es := by
  refine ⟨?_, hl, fun e => by cases e⟩
  intro i it hi
  refine ⟨g, 0, rfl, fun j v hv => ?_⟩
  have h1 := flat_get 4 _ (enL_c es) i it hi j v hv
  rw [Nat.zero_add, hb.cell, List.getElem?_toArray, enL_app]
  show ((es.map En.cs).flatten ++ _)[_]? = _
  rw [List.getElem?_append_left (List.getElem?_eq_some_iff.1 h1).1]
  exact h1
theorem RdL.lent {w : World} {g n k : Nat} {es : List La} {x : La} (hb : Box w g 94 (laL (es ++ [x])).toArray) (hl : es.length = n) : RdL w ⟨some ⟨g, 0, none⟩, n, k⟩ es := by
  refine ⟨?_, hl, fun e => by cases e⟩
  intro i it hi
  refine ⟨g, 0, rfl, fun j v hv => ?_⟩
  have h1 := flat_get 7 _ (laL_c es) i it hi j v hv
  rw [Nat.zero_add, hb.cell, List.getElem?_toArray, laL_app]
  show ((es.map La.cs).flatten ++ _)[_]? = _
  rw [List.getElem?_append_left (List.getElem?_eq_some_iff.1 h1).1]
  exact h1
theorem RdC.lent {w : World} {g n k : Nat} {es : List Cm} {x : Cm} (hb : Box w g 39 (cmL (es ++ [x])).toArray) (hl : es.length = n) : RdC w ⟨some ⟨g, 0, none⟩, n, k⟩ es := by
  refine ⟨?_, hl, fun e => by cases e⟩
  intro i it hi
  refine ⟨g, 0, rfl, fun j v hv => ?_⟩
  have h1 := flat_get 9 _ (cmL_c es) i it hi j v hv
  rw [Nat.zero_add, hb.cell, List.getElem?_toArray, cmL_app']
  show ((es.map Cm.cs).flatten ++ _)[_]? = _
  rw [List.getElem?_append_left (List.getElem?_eq_some_iff.1 h1).1]
  exact h1
theorem RdB.lent {w : World} {g n k : Nat} {es x : List Int} (hb : Box w g 5 (u8L (es ++ x)).toArray) (hl : es.length = n) : RdB w ⟨some ⟨g, 0, none⟩, n, k⟩ es := by
  refine ⟨?_, hl, fun e => by cases e⟩
  intro i hi
  refine ⟨g, 0, rfl, ?_⟩
  rw [Nat.zero_add, hb.cell, List.getElem?_toArray, u8L, List.getElem?_map, List.getElem?_append_left hi, List.getElem?_eq_getElem hi]
  rfl
theorem RdI.lent {w : World} {g n k : Nat} {es x : List Int} (hb : Box w g 3 (i64L (es ++ x)).toArray) (hl : es.length = n) : RdI w ⟨some ⟨g, 0, none⟩, n, k⟩ es := by
  refine ⟨?_, hl⟩
  intro i hi
  refine ⟨g, 0, rfl, ?_⟩
  rw [Nat.zero_add, hb.cell, List.getElem?_toArray, i64L, List.getElem?_map, List.getElem?_append_left hi, List.getElem?_eq_getElem hi]
  rfl
theorem mark_E {w : World} {g n : Nat} {es : List En} {x : En} (hb : Box w g 92 (enL (es ++ [x])).toArray) (hl : es.length = n) (j : Nat) (v : Value) (hv : x.cs[j]? = some v) : w.cell? ⟨g, 0 + n * 4 + j, none⟩ = some v := by
  have hj := (List.getElem?_eq_some_iff.1 hv).1
  rw [Nat.zero_add, hb.cell, List.getElem?_toArray, enL_app, List.getElem?_append_right (by rw [enL_len, hl]; omega), enL_len, hl, Nat.add_sub_cancel_left]
  simpa [enL] using hv
theorem mark_L {w : World} {g n : Nat} {es : List La} {x : La} (hb : Box w g 94 (laL (es ++ [x])).toArray) (hl : es.length = n) (j : Nat) (v : Value) (hv : x.cs[j]? = some v) : w.cell? ⟨g, 0 + n * 7 + j, none⟩ = some v := by
  have hj := (List.getElem?_eq_some_iff.1 hv).1
  rw [Nat.zero_add, hb.cell, List.getElem?_toArray, laL_app, List.getElem?_append_right (by rw [laL_len, hl]; omega), laL_len, hl, Nat.add_sub_cancel_left]
  simpa [laL] using hv
theorem mark_B {w : World} {g n : Nat} {es : List Int} (hb : Box w g 5 (u8L (es ++ mk3 3)).toArray) (hl : es.length = n) (j : Nat) (hj : j < 3) : w.cell? ⟨g, 0 + (n + j) * 1, none⟩ = some (.int .u8 167) := by
  rw [Nat.zero_add, Nat.mul_one, hb.cell, List.getElem?_toArray, u8L, List.getElem?_map, List.getElem?_append_right (by omega), hl, Nat.add_sub_cancel_left]
  have : mk3 3 = [167, 167, 167] := by decide
  rw [this]
  have : j = 0 ∨ j = 1 ∨ j = 2 := by omega
  rcases this with rfl | rfl | rfl <;> rfl
theorem mark_I {w : World} {g n : Nat} {es : List Int} {x : Int} (hb : Box w g 3 (i64L (es ++ [x])).toArray) (hl : es.length = n) : w.cell? ⟨g, 0 + n * 1, none⟩ = some (.int .i64 x) := by
  rw [Nat.zero_add, Nat.mul_one, hb.cell, List.getElem?_toArray, i64L, List.getElem?_map, List.getElem?_append_right (by omega), hl, Nat.sub_self]
  rfl
def cgZ : Cg := ⟨slZ, 0, 0, 0, 0, 0⟩
theorem Z24 : (Tryz.prog.info? 24).bind (·.zero) = some (.agg (Cg.cells cgZ)) := by kernel_rfl
def lnB (x : Bv) (g g2 : Nat) : Bv := ⟨x.up, ⟨some ⟨g, 0, none⟩, x.e.l, x.e.l + 1⟩, ⟨some ⟨g2, 0, none⟩, x.l.l, x.l.l + 1⟩⟩
def lnM (m : Mg) (gb g g2 gc : Nat) : Mg := ⟨m.k, m.fr, m.too, m.op, m.rd, m.ky, m.st, m.hd, ⟨some ⟨gb, 0, none⟩, m.bl.l, m.bl.l + 3⟩, m.c, lnB m.bk g g2, ⟨some ⟨gc, 0, none⟩, m.cm.l, m.cm.l + 1⟩, m.mo⟩
def lnC (c : Cg) (g : Nat) : Cg := ⟨⟨some ⟨g, 0, none⟩, c.sv.l, c.sv.l + 1⟩, c.f, c.po, c.bu, c.bl, c.rm⟩
def fB (bs : List Int) (g : Nat) : List (Nat × TypeId × Array Value) := [(g, 5, (u8L (bs ++ mk3 3)).toArray)]
def fK (es : List En) (ls : List La) (g g2 : Nat) : List (Nat × TypeId × Array Value) := [(g, 92, (enL (es ++ [enK])).toArray), (g2, 94, (laL (ls ++ [laK])).toArray)]
def fC (zs : List Int) (g : Nat) : List (Nat × TypeId × Array Value) := [(g, 3, (i64L (zs ++ [-77])).toArray)]
section
variable {ops : Array Oper} {a : Act} {w : World} {Q : Exit → Act → World → Prop} {md : Region.Mode} {S : Nat → Prop} {w0 : World} {fuel : Nat} {listed : Array Bool}
theorem yW (i : Nat) (lA lB : List (Nat × TypeId × Array Value)) (HF : Hid (Fq S w0 w (lA ++ lB))) (j k : Nat) {g : Nat} {Tb : TypeId} (cur new vs : List Value) (hj : lB[j]? = some (g, Tb, cur.toArray)) {t : TypeId} {v : Value} (hv : v.cells = vs.toArray) (hs : (Tryz.prog.info? t).map (·.size) = some vs.length) (h1 : ∀ x ∈ vs, x.oneCell' = true)
    (h : ∀ w', Hid (Fq S w0 w' (lA ++ lB.set j (g, Tb, new.toArray))) → wpAnyH Tryz.prog md ops Q (fun w' => Hid (Fq S w0 w' lA)) fuel (listed.setIfInBounds i true) a w')
    (ho : stA (opA ops i) a.eval = some (t, .pointer (some ⟨g, k, none⟩), v) := by kernel_rfl) (hi : ops[i]? = some (opA ops i) := by kernel_rfl) (hd : (opA ops i).dst = none := by kernel_rfl) (hr : Region.ready md ops listed = [i] := by kernel_rfl) (hl : k + vs.length ≤ cur.length := by exact Nat.le_of_ble_eq_true (by kernel_rfl)) (hn : putL cur k vs = new := by kernel_rfl)
    (hw : Region.wanted (opA ops i) (yielded ops a.tmps) = true := by kernel_rfl) : wpAnyH Tryz.prog md ops Q (fun w' => Hid (Fq S w0 w' lA)) (fuel + 1) listed a w := by
  have hj2 : (lA ++ lB)[lA.length + j]? = some (g, Tb, cur.toArray) := by rw [List.getElem?_append_right (by omega), Nat.add_sub_cancel_left]; exact hj
  have H2 := HF.out.set _ hj2 new.toArray
  rw [List.set_append_right _ _ (by omega), Nat.add_sub_cancel_left] at H2
  unfold stA at ho
  split at ho
  · rename_i t' x y hx
    obtain ⟨rfl, h2⟩ := Prod.mk.inj (Option.some.inj ho)
    obtain ⟨h4, h5⟩ := Prod.mk.inj h2
    exact any_store hi hr hw _ x y hx ⟨g, k, none⟩ v h4 h5 (run_store_to (HF.out.box _ g Tb _ hj2) hv hs hl h1 hn) (show Hid _ from H2.front) (fun _ => by rw [hd]; exact h _ H2)
  · cases ho
end
set_option maxRecDepth 100000
set_option maxHeartbeats 4000000
theorem lendB (x : Sl) (bs : List Int) (w : World) (h1 : RdB w x bs) (hn : x.l ≤ 140737488351232) : Calls Tryz.prog 27 #[x.v] w (fun e w' => ∃ g : Nat, e = .returned (.slice (some ⟨g, 0, none⟩) x.l (x.l + 3)) ∧ Hid (Fq No w w' (fB bs g))) := by
  refine hidC fun C HC => ?_
  have HRB : Hid (RdB w x bs) := h1
  clear h1
  have HF : Hid (Fq No w w []) := Fq.start _ _
  go_enter Tryz.func27, Tryz.ntmps27
  go_upto_region 0 with fail
  refine WL.start <| tK (.slice none 0 0) <| WL.nil <| ?_
  try simp only [pS]
  go_upto_region 1 with fail
  refine WL.start <| tK (x.v) <| tK (.int .i64 ((x.l : Nat) : Int)) <| bN (v := .int .i64 (((x.l + 3) : Nat) : Int)) (b_addw ((x.l : Nat) : Int) 3 (((x.l + 3) : Nat) : Int) (by rw [IntKind.wrap_i64]; omega)) <| mS (x.l + 3) (u8L (List.replicate (x.l + 3) 0)) HF (make_by _ _ (by omega)) fun g1 w2 HF => tK (.slice (some ⟨g1, 0, none⟩) (x.l + 3) (x.l + 3)) <| WL.nil <| ?_
  try simp only [pS]
  go_upto_region 2 with fail
  refine WL.start <| tK (.slice (some ⟨g1, 0, none⟩) (x.l + 3) (x.l + 3)) <| tK (x.v) <| cS 0 (u8L (bs ++ mk3 0)) HF rfl (fun ty => cB3 (HF.out.box 0 _ _ _ rfl) (HRB.out.no HF.out.kept) ty) fun w3 HF => WL.nil <| ?_
  try simp only [pS]
  go_upto_region 3 with fail
  refine WL.start <| tK (x.v) <| tK (.int .i64 ((x.l : Nat) : Int)) <| tK (.int .i64 ((x.l : Nat) : Int)) <| WL.nil <| ?_
  try simp only [pS]
  go_wp2
  go_loopw [4] (fun v4 wr => ∃ i : Nat, v4 = .int .i64 (((x.l + i) : Nat) : Int) ∧ i ≤ 3 ∧ Hid (Fq No w wr [(g1, 5, (u8L (bs ++ mk3 i)).toArray)])) (fun v4 _ => x.l + 3 - (intOf v4).toNat)
  case atStart => exact ⟨0, rfl, by omega, HF⟩
  case round =>
    clear HF
    obtain ⟨i, rfl, hi, HF⟩ := hrel
    by_cases hlt : i < 3
    ·skip
     go_upto_region 4 with fail
     refine WL.start <| tK (.int .i64 (((x.l + i) : Nat) : Int)) <| tK (.slice (some ⟨g1, 0, none⟩) (x.l + 3) (x.l + 3)) <| tK (.int .i64 (((x.l + 3) : Nat) : Int)) <| bN (lI (a := (((x.l + i) : Nat) : Int)) (b := (((x.l + 3) : Nat) : Int)) (decide_eq_true (by omega))) <| WL.nil <| ?_
     try simp only [pS]
     go_upto_region 6 with fail
     refine WL.start <| tK (.slice (some ⟨g1, 0, none⟩) (x.l + 3) (x.l + 3)) <| tK (.int .i64 (((x.l + i) : Nat) : Int)) <| iS (s := ⟨some ⟨g1, 0, none⟩, (x.l + 3), (x.l + 3)⟩) (i := (x.l + i)) rfl E35 F35 (by show _ < (x.l + 3); omega) <| sB (u8L (bs ++ mk3 (i + 1))) ([.int .u8 167]) HF 0 (0 + (x.l + i) * 1) (v := .int .u8 167) rfl S5 (by simp [Value.oneCell']) (u8L (bs ++ mk3 i)) rfl (hl := by rw [u8L_len]; simp only [List.length_append, HRB.out.len, mk3, List.length_replicate, List.length_singleton]; omega) (hn := pB1 x.l bs HRB.out.len i hlt) fun w4 HF => WL.nil <| ?_
     try simp only [pS]
     go_upto_region 5 with fail
     refine WL.start <| tK (.int .i64 (((x.l + i) : Nat) : Int)) <| bN (v := .int .i64 ((((x.l + i) + 1) : Nat) : Int)) (b_addw (((x.l + i) : Nat) : Int) 1 ((((x.l + i) + 1) : Nat) : Int) (by rw [IntKind.wrap_i64]; omega)) <| tK (.int .i64 ((((x.l + i) + 1) : Nat) : Int)) <| WL.nil <| ?_
     try simp only [pS]
     go_wp2
     go_roundw
     case rel => exact ⟨i + 1, rfl, by omega, HF⟩
     case measure => simp [intOf]; omega
    ·skip
     obtain rfl : i = 3 := by omega
     go_upto_region 4 with fail
     refine WL.start <| tK (.int .i64 (((x.l + 3) : Nat) : Int)) <| tK (.slice (some ⟨g1, 0, none⟩) (x.l + 3) (x.l + 3)) <| tK (.int .i64 (((x.l + 3) : Nat) : Int)) <| bN (lI (a := (((x.l + 3) : Nat) : Int)) (b := (((x.l + 3) : Nat) : Int)) (decide_eq_false (by omega))) <| WL.nil <| ?_
     try simp only [pS]
     go_upto_region 7 with fail
     refine WL.start <| tK (.slice (some ⟨g1, 0, none⟩) (x.l + 3) (x.l + 3)) <| tK (x.v) <| tK (.int .i64 ((x.l : Nat) : Int)) <| hS (g := g1) (n := x.l) (m := (x.l + 3)) (len := (x.l + 3)) E35 F35 (by omega) (by omega) <| tK (.slice (some ⟨g1, 0, none⟩) x.l (x.l + 3)) <| WL.nil <| ?_
     try simp only [pS]
     go_wp2
     rw [HC.out]
     exact ⟨_, rfl, HF⟩
theorem lendK (x : Bv) (es : List En) (ls : List La) (w : World) (h2 : RdE w x.e es) (h3 : RdL w x.l ls) (hne : x.e.l ≤ 3518437208780) (hnl : x.l.l ≤ 2513169434843) : Calls Tryz.prog 16 #[.agg (Bv.cells x)] w (fun e w' => ∃ g g2 : Nat, e = .returned (.agg (Bv.cells (lnB x g g2))) ∧ Hid (Fq No w w' (fK es ls g g2))) := by
  refine hidC fun C HC => ?_
  have HRE : Hid (RdE w x.e es) := h2
  have HRL : Hid (RdL w x.l ls) := h3
  clear h2 h3
  have HF : Hid (Fq No w w []) := Fq.start _ _
  go_enter Tryz.func16, Tryz.ntmps16
  go_upto_region 0 with fail
  refine WL.start <| xB (Bv.cells x) HF fun g1 w2 HF => xA (Bv.cells bvZ) Z43 HF fun g3 w4 HF => WL.nil <| ?_
  try simp only [pS]
  go_upto_region 1 with fail
  refine WL.start <| tK (pg g1 1) <| lD (x.e.v) HF 0 1 U40 rfl <| tK (.int .i64 ((x.e.l : Nat) : Int)) <| bN (v := .int .i64 (((x.e.l + 1) : Nat) : Int)) (b_addw ((x.e.l : Nat) : Int) 1 (((x.e.l + 1) : Nat) : Int) (by rw [IntKind.wrap_i64]; omega)) <| mS (x.e.l + 1) (enL (List.replicate (x.e.l + 1) enZ)) HF (make_en _ _ (by omega)) fun g5 w6 HF => tK (.slice (some ⟨g5, 0, none⟩) (x.e.l + 1) (x.e.l + 1)) <| WL.nil <| ?_
  try simp only [pS]
  go_upto_region 2 with fail
  refine WL.start <| tK (.slice (some ⟨g5, 0, none⟩) (x.e.l + 1) (x.e.l + 1)) <| tK (pg g1 1) <| lD (x.e.v) HF 0 1 U40 rfl <| cS 2 (enL (es ++ [enZ])) HF rfl (fun ty => cE (HF.out.box 2 _ _ _ rfl) (HRE.out.no HF.out.kept) ty) fun w7 HF => WL.nil <| ?_
  try simp only [pS]
  go_upto_region 3 with fail
  refine WL.start <| tK (.slice (some ⟨g5, 0, none⟩) (x.e.l + 1) (x.e.l + 1)) <| tK (pg g1 1) <| lD (x.e.v) HF 0 1 U40 rfl <| tK (.int .i64 ((x.e.l : Nat) : Int)) <| bD (En.cells (⟨⟨#[]⟩, 0, 0, (-77)⟩)) <| iS (s := ⟨some ⟨g5, 0, none⟩, (x.e.l + 1), (x.e.l + 1)⟩) (i := x.e.l) rfl E40 F40 (by show _ < (x.e.l + 1); omega) <| sB (enL (es ++ [enK])) (En.cs enK) HF 2 (0 + x.e.l * 4) (v := .agg (En.cells (⟨⟨#[]⟩, 0, 0, (-77)⟩))) rfl S92 (En.oneL _) (enL (es ++ [enZ])) rfl (hl := by rw [enL_len]; simp only [List.length_append, HRE.out.len, List.length_singleton]; (try simp only [enK, laK, cmK, En.cs, La.cs, Cm.cs, List.length_cons, List.length_nil]); omega) (hn := pE1 x.e.l es HRE.out.len _ (enK)) fun w8 HF => WL.nil <| ?_
  try simp only [pS]
  go_upto_region 4 with fail
  refine WL.start <| tK (pg g1 2) <| lD (x.l.v) HF 0 2 U41 rfl <| tK (.int .i64 ((x.l.l : Nat) : Int)) <| bN (v := .int .i64 (((x.l.l + 1) : Nat) : Int)) (b_addw ((x.l.l : Nat) : Int) 1 (((x.l.l + 1) : Nat) : Int) (by rw [IntKind.wrap_i64]; omega)) <| mS (x.l.l + 1) (laL (List.replicate (x.l.l + 1) laZ)) HF (make_la _ _ (by omega)) fun g9 w10 HF => tK (.slice (some ⟨g9, 0, none⟩) (x.l.l + 1) (x.l.l + 1)) <| WL.nil <| ?_
  try simp only [pS]
  go_upto_region 5 with fail
  refine WL.start <| tK (.slice (some ⟨g9, 0, none⟩) (x.l.l + 1) (x.l.l + 1)) <| tK (pg g1 2) <| lD (x.l.v) HF 0 2 U41 rfl <| cS 3 (laL (ls ++ [laZ])) HF rfl (fun ty => cL (HF.out.box 3 _ _ _ rfl) (HRL.out.no HF.out.kept) ty) fun w11 HF => WL.nil <| ?_
  try simp only [pS]
  go_upto_region 6 with fail
  refine WL.start <| tK (.slice (some ⟨g9, 0, none⟩) (x.l.l + 1) (x.l.l + 1)) <| tK (pg g1 2) <| lD (x.l.v) HF 0 2 U41 rfl <| tK (.int .i64 ((x.l.l : Nat) : Int)) <| bD (La.cells ⟨0, 0, 0, 0, 0, 0, (-78)⟩) <| iS (s := ⟨some ⟨g9, 0, none⟩, (x.l.l + 1), (x.l.l + 1)⟩) (i := x.l.l) rfl E41 F41 (by show _ < (x.l.l + 1); omega) <| sB (laL (ls ++ [laK])) (La.cs laK) HF 3 (0 + x.l.l * 7) (v := .agg (La.cells ⟨0, 0, 0, 0, 0, 0, (-78)⟩)) rfl S94 (La.oneL _) (laL (ls ++ [laZ])) rfl (hl := by rw [laL_len]; simp only [List.length_append, HRL.out.len, List.length_singleton]; (try simp only [enK, laK, cmK, En.cs, La.cs, Cm.cs, List.length_cons, List.length_nil]); omega) (hn := pL1 x.l.l ls HRL.out.len _ (laK)) fun w12 HF => WL.nil <| ?_
  try simp only [pS]
  go_upto_region 7 with fail
  refine wp_region_held_drew (S := fun w' => Hid (Fq No w w' [(g1, 43, Bv.cells x)])) rfl (show Hid _ from Fq.front (l := [(g1, 43, Bv.cells x)]) (m := [(g3, 43, Bv.cells bvZ), (g5, 92, (enL (es ++ [enK])).toArray), (g9, 94, (laL (ls ++ [laK])).toArray)]) HF.out.drew) (fun hH => ?_)
  have HG : Hid (Fq No w w12.drew [(g1, 43, Bv.cells x), (g3, 43, Bv.cells bvZ), (g5, 92, (enL (es ++ [enK])).toArray), (g9, 94, (laL (ls ++ [laK])).toArray)]) := HF.out.drew
  replace HF : Hid (Fq No w w12.drew [(g1, 43, Bv.cells x)]) := hH
  clear hH
  generalize w12.drew = w13 at HF HG ⊢
  refine yK 0 35 HF (pg g1 0) <| yT 1 36 HF (v := .int .i64 x.up) (zD 0 0 U3 rfl) <| yK 2 37 HF (.slice (some ⟨g5, 0, none⟩) (x.e.l + 1) (x.e.l + 1)) <| yK 3 38 HF (pg g1 1) <| yT 4 39 HF (v := x.e.v) (zD 0 1 U40 rfl) <| yK 5 40 HF (.int .i64 ((x.e.l : Nat) : Int)) <| yT 6 41 HF (zH (g := g5) (n := x.e.l) (m := (x.e.l + 1)) (len := (x.e.l + 1)) E40 F40 (by omega) (by omega)) <| yK 7 42 HF (.slice (some ⟨g9, 0, none⟩) (x.l.l + 1) (x.l.l + 1)) <| ?_
  try simp only [pS]
  refine yK 8 43 HF (pg g1 2) <| yT 9 44 HF (v := x.l.v) (zD 0 2 U41 rfl) <| yK 10 45 HF (.int .i64 ((x.l.l : Nat) : Int)) <| yT 11 46 HF (zH (g := g9) (n := x.l.l) (m := (x.l.l + 1)) (len := (x.l.l + 1)) E41 F41 (by omega) (by omega)) <| yT 12 47 HF (zU 43 (Bv.cells (⟨x.up, ⟨(some ⟨g5, 0, none⟩), x.e.l, (x.e.l + 1)⟩, ⟨(some ⟨g9, 0, none⟩), x.l.l, (x.l.l + 1)⟩⟩))) <| ?_
  try simp only [pS]
  refine yW 13 [(g1, 43, Bv.cells x)] [(g3, 43, Bv.cells bvZ), (g5, 92, (enL (es ++ [enK])).toArray), (g9, 94, (laL (ls ++ [laK])).toArray)] HG 0 0 (Bv.cs bvZ) (Bv.cs (⟨x.up, ⟨(some ⟨g5, 0, none⟩), x.e.l, (x.e.l + 1)⟩, ⟨(some ⟨g9, 0, none⟩), x.l.l, (x.l.l + 1)⟩⟩)) (Bv.cs (⟨x.up, ⟨(some ⟨g5, 0, none⟩), x.e.l, (x.e.l + 1)⟩, ⟨(some ⟨g9, 0, none⟩), x.l.l, (x.l.l + 1)⟩⟩)) rfl (v := .agg (Bv.cells (⟨x.up, ⟨(some ⟨g5, 0, none⟩), x.e.l, (x.e.l + 1)⟩, ⟨(some ⟨g9, 0, none⟩), x.l.l, (x.l.l + 1)⟩⟩))) rfl S43 (Bv.oneL _) fun w14 HG => ?_
  try simp only [pS]
  have HG : Hid (Fq No w w14 [(g1, 43, Bv.cells x), (g3, 43, Bv.cells (⟨x.up, ⟨(some ⟨g5, 0, none⟩), x.e.l, (x.e.l + 1)⟩, ⟨(some ⟨g9, 0, none⟩), x.l.l, (x.l.l + 1)⟩⟩)), (g5, 92, (enL (es ++ [enK])).toArray), (g9, 94, (laL (ls ++ [laK])).toArray)]) := HG
  refine wpAnyH_done (by kernel_rfl) ?_ _
  try simp only [pS]
  have HF : Hid (Fq No w w14 [(g1, 43, Bv.cells x), (g3, 43, Bv.cells (⟨x.up, ⟨(some ⟨g5, 0, none⟩), x.e.l, (x.e.l + 1)⟩, ⟨(some ⟨g9, 0, none⟩), x.l.l, (x.l.l + 1)⟩⟩)), (g5, 92, (enL (es ++ [enK])).toArray), (g9, 94, (laL (ls ++ [laK])).toArray)]) := HG
  clear HG
  go_wp2
  rw [HC.out]
  refine bodyPost_ret (results_row1 (by rfl) _ _ g3 (Bv.cells (⟨x.up, ⟨(some ⟨g5, 0, none⟩), x.e.l, (x.e.l + 1)⟩, ⟨(some ⟨g9, 0, none⟩), x.l.l, (x.l.l + 1)⟩⟩)) (by rfl) (run_load_part (cs := Bv.cs (⟨x.up, ⟨(some ⟨g5, 0, none⟩), x.e.l, (x.e.l + 1)⟩, ⟨(some ⟨g9, 0, none⟩), x.l.l, (x.l.l + 1)⟩⟩)) (sub := Bv.cs (⟨x.up, ⟨(some ⟨g5, 0, none⟩), x.e.l, (x.e.l + 1)⟩, ⟨(some ⟨g9, 0, none⟩), x.l.l, (x.l.l + 1)⟩⟩)) (HF.out.box 1 _ _ _ rfl) (Part.all _) U43 rfl S43)) rfl ?_
  exact ⟨_, _, rfl, HF.out.tail.tail⟩
theorem lendC (c : Cg) (zs : List Int) (w : World) (hz : RdI w c.sv zs) (hnz : c.sv.l ≤ 17592186043904) : Calls Tryz.prog 9 #[.agg (Cg.cells c)] w (fun e w' => ∃ g : Nat, e = .returned (.agg (Cg.cells (lnC c g))) ∧ Hid (Fq No w w' (fC zs g))) := by
  refine hidC fun C HC => ?_
  have HZ : Hid (RdI w c.sv zs) := hz
  clear hz
  have HF : Hid (Fq No w w []) := Fq.start _ _
  go_enter Tryz.func9, Tryz.ntmps9
  go_upto_region 0 with fail
  refine WL.start <| xB (Cg.cells c) HF fun g1 w2 HF => xA (Cg.cells cgZ) Z24 HF fun g3 w4 HF => WL.nil <| ?_
  try simp only [pS]
  go_upto_region 1 with fail
  refine WL.start <| tK (pg g1 0) <| lD (c.sv.v) HF 0 0 U22 rfl <| tK (.int .i64 ((c.sv.l : Nat) : Int)) <| bN (v := .int .i64 (((c.sv.l + 1) : Nat) : Int)) (b_addw ((c.sv.l : Nat) : Int) 1 (((c.sv.l + 1) : Nat) : Int) (by rw [IntKind.wrap_i64]; omega)) <| mS (c.sv.l + 1) (i64L (List.replicate (c.sv.l + 1) 0)) HF (make_i _ _ (by omega)) fun g5 w6 HF => tK (.slice (some ⟨g5, 0, none⟩) (c.sv.l + 1) (c.sv.l + 1)) <| WL.nil <| ?_
  try simp only [pS]
  go_upto_region 2 with fail
  refine WL.start <| tK (.slice (some ⟨g5, 0, none⟩) (c.sv.l + 1) (c.sv.l + 1)) <| tK (pg g1 0) <| lD (c.sv.v) HF 0 0 U22 rfl <| cS 2 (i64L (zs ++ [0])) HF rfl (fun ty => cI (HF.out.box 2 _ _ _ rfl) (HZ.out.no HF.out.kept) ty) fun w7 HF => WL.nil <| ?_
  try simp only [pS]
  go_upto_region 3 with fail
  refine WL.start <| tK (.slice (some ⟨g5, 0, none⟩) (c.sv.l + 1) (c.sv.l + 1)) <| tK (pg g1 0) <| lD (c.sv.v) HF 0 0 U22 rfl <| tK (.int .i64 ((c.sv.l : Nat) : Int)) <| iS (s := ⟨some ⟨g5, 0, none⟩, (c.sv.l + 1), (c.sv.l + 1)⟩) (i := c.sv.l) rfl E22 F22 (by show _ < (c.sv.l + 1); omega) <| sB (i64L (zs ++ [-77])) ([.int .i64 (-77)]) HF 2 (0 + c.sv.l * 1) (v := .int .i64 (-77)) rfl S3 (by simp [Value.oneCell']) (i64L (zs ++ [0])) rfl (hl := by rw [i64L_len]; simp only [List.length_append, HZ.out.len, List.length_singleton]; (try simp only [enK, laK, cmK, En.cs, La.cs, Cm.cs, List.length_cons, List.length_nil]); omega) (hn := pI1 c.sv.l zs HZ.out.len _ (-77)) fun w8 HF => WL.nil <| ?_
  try simp only [pS]
  go_upto_region 4 with fail
  refine WL.start <| tK (.slice (some ⟨g5, 0, none⟩) (c.sv.l + 1) (c.sv.l + 1)) <| tK (pg g1 0) <| lD (c.sv.v) HF 0 0 U22 rfl <| tK (.int .i64 ((c.sv.l : Nat) : Int)) <| hS (g := g5) (n := c.sv.l) (m := (c.sv.l + 1)) (len := (c.sv.l + 1)) E22 F22 (by omega) (by omega) <| tK (pg g1 0) <| sB (Cg.cs (⟨⟨(some ⟨g5, 0, none⟩), c.sv.l, (c.sv.l + 1)⟩, c.f, c.po, c.bu, c.bl, c.rm⟩)) ([.slice (some ⟨g5, 0, none⟩) c.sv.l (c.sv.l + 1)]) HF 0 0 (v := .slice (some ⟨g5, 0, none⟩) c.sv.l (c.sv.l + 1)) rfl S22 (by simp [Value.oneCell', Sl.v]) (Cg.cs c) rfl fun w9 HF => WL.nil <| ?_
  try simp only [pS]
  go_upto_region 5 with fail
  refine WL.start <| lP (Cg.cs (⟨⟨(some ⟨g5, 0, none⟩), c.sv.l, (c.sv.l + 1)⟩, c.f, c.po, c.bu, c.bl, c.rm⟩)) HF 0 0 U24 S24 (Cg.cs (⟨⟨(some ⟨g5, 0, none⟩), c.sv.l, (c.sv.l + 1)⟩, c.f, c.po, c.bu, c.bl, c.rm⟩)) rfl <| sB (Cg.cs (⟨⟨(some ⟨g5, 0, none⟩), c.sv.l, (c.sv.l + 1)⟩, c.f, c.po, c.bu, c.bl, c.rm⟩)) (Cg.cs (⟨⟨(some ⟨g5, 0, none⟩), c.sv.l, (c.sv.l + 1)⟩, c.f, c.po, c.bu, c.bl, c.rm⟩)) HF 1 0 (v := .agg (Cg.cells (⟨⟨(some ⟨g5, 0, none⟩), c.sv.l, (c.sv.l + 1)⟩, c.f, c.po, c.bu, c.bl, c.rm⟩))) rfl S24 (Cg.oneL _) (Cg.cs cgZ) rfl fun w10 HF => WL.nil <| ?_
  try simp only [pS]
  go_wp2
  rw [HC.out]
  refine bodyPost_ret (results_row1 (by rfl) _ _ g3 (Cg.cells (⟨⟨(some ⟨g5, 0, none⟩), c.sv.l, (c.sv.l + 1)⟩, c.f, c.po, c.bu, c.bl, c.rm⟩)) (by rfl) (run_load_part (cs := Cg.cs (⟨⟨(some ⟨g5, 0, none⟩), c.sv.l, (c.sv.l + 1)⟩, c.f, c.po, c.bu, c.bl, c.rm⟩)) (sub := Cg.cs (⟨⟨(some ⟨g5, 0, none⟩), c.sv.l, (c.sv.l + 1)⟩, c.f, c.po, c.bu, c.bl, c.rm⟩)) (HF.out.box 1 _ _ _ rfl) (Part.all _) U24 rfl S24)) rfl ?_
  exact ⟨_, rfl, HF.out.tail.tail⟩
theorem sameB (x y : Sl) (bs : List Int) (w : World) (h1 : RdB w x bs) (h2 : RdB w y bs) (hn : x.l ≤ 281474976710656) : Calls Tryz.prog 24 #[x.v, y.v] w (fun e w' => e = .returned (.bool true) ∧ Kept No w w') := by
  refine hidC fun C HC => ?_
  have HRB : Hid (RdB w x bs) := h1
  have HRB2 : Hid (RdB w y bs) := h2
  clear h1 h2
  have hy : x.l = y.l := HRB.out.len.symm.trans HRB2.out.len
  have HF : Hid (Fq No w w []) := Fq.start _ _
  go_enter Tryz.func24, Tryz.ntmps24
  go_upto_region 0 with fail
  refine WL.start <| tK (.bool false) <| WL.nil <| ?_
  try simp only [pS]
  go_upto_region 1 with fail
  refine WL.start <| tK (x.v) <| tK (.int .i64 ((x.l : Nat) : Int)) <| tK (y.v) <| tK (.int .i64 ((y.l : Nat) : Int)) <| bN (nI1 (show (((x.l : Nat) : Int) == ((y.l : Nat) : Int)) = true by rw [hy]; exact beq_self_eq_true _)) <| WL.nil <| ?_
  try simp only [pS]
  go_upto_region 3 with fail
  refine WL.start <| tK (.int .i64 0) <| WL.nil <| ?_
  try simp only [pS]
  go_wp2
  go_loopw [5] (fun v5 wr => ∃ i : Nat, v5 = .int .i64 ((i : Nat) : Int) ∧ i ≤ x.l ∧ Hid (Fq No w wr [])) (fun v5 _ => x.l - (intOf v5).toNat)
  case atStart => exact ⟨0, by go_num, by omega, HF⟩
  case round =>
    clear HF
    obtain ⟨i, rfl, hi, HF⟩ := hrel
    by_cases hlt : i < x.l
    ·skip
     obtain ⟨b, off, hsl, hc⟩ := RdB.at HRB.out (i := i) (by omega)
     obtain ⟨bb, offb, hslb, hcb⟩ := RdB.at HRB2.out (i := i) (by omega)
     go_upto_region 4 with fail
     refine WL.start <| tK (.int .i64 ((i : Nat) : Int)) <| tK (x.v) <| tK (.int .i64 ((x.l : Nat) : Int)) <| bN (lI (a := ((i : Nat) : Int)) (b := ((x.l : Nat) : Int)) (decide_eq_true (by omega))) <| WL.nil <| ?_
     try simp only [pS]
     go_upto_region 6 with fail
     refine wp_region_held_drew (S := fun w' => Hid (Fq No w w' [])) rfl (show Hid _ from HF.out.drew) (fun hH => ?_)
     replace HF : Hid (Fq No w wr.drew []) := hH
     clear hH
     generalize wr.drew = w1 at HF ⊢
     refine yK 0 17 HF (x.v) <| yK 1 18 HF (.int .i64 ((i : Nat) : Int)) <| yT 2 19 HF (zI (s := x) (i := i) hsl E35 F35 (by omega)) <| yT 3 20 HF (zL fun w HF => (load_one (HF.out.kept.cell hc (fun e => e)) U5 rfl)) <| yK 4 21 HF (y.v) <| yK 5 22 HF (.int .i64 ((i : Nat) : Int)) <| yT 6 23 HF (zI (s := y) (i := i) hslb E35 F35 (by omega)) <| yT 7 24 HF (zL fun w HF => (load_one (HF.out.kept.cell hcb (fun e => e)) U5 rfl)) <| ?_
     try simp only [pS]
     refine yT 8 25 HF (zN (qn1U (beq_self_eq_true ((bs[i]?.getD 0))))) <| ?_
     try simp only [pS]
     refine wpAnyH_done (by kernel_rfl) ?_ _
     try simp only [pS]
     go_upto_region 5 with fail
     refine WL.start <| tK (.int .i64 ((i : Nat) : Int)) <| bN (v := .int .i64 (((i + 1) : Nat) : Int)) (b_addw ((i : Nat) : Int) 1 (((i + 1) : Nat) : Int) (by rw [IntKind.wrap_i64]; omega)) <| tK (.int .i64 (((i + 1) : Nat) : Int)) <| WL.nil <| ?_
     try simp only [pS]
     go_wp2
     go_roundw
     case rel => exact ⟨i + 1, by go_num, by omega, HF⟩
     case measure => simp [intOf]; omega
    ·skip
     go_upto_region 4 with fail
     refine WL.start <| tK (.int .i64 ((i : Nat) : Int)) <| tK (x.v) <| tK (.int .i64 ((x.l : Nat) : Int)) <| bN (lI (a := ((i : Nat) : Int)) (b := ((x.l : Nat) : Int)) (decide_eq_false (by omega))) <| WL.nil <| ?_
     try simp only [pS]
     go_upto_region 8 with fail
     refine WL.start <| tK (.bool true) <| WL.nil <| ?_
     try simp only [pS]
     go_wp2
     rw [HC.out]
     exact ⟨ret_bool (rfl), HF.out.kept⟩
theorem sameI (x y : Sl) (zs : List Int) (w : World) (h1 : RdI w x zs) (h2 : RdI w y zs) (hn : x.l ≤ 281474976710656) : Calls Tryz.prog 50 #[x.v, y.v] w (fun e w' => e = .returned (.bool true) ∧ Kept No w w') := by
  refine hidC fun C HC => ?_
  have HZ : Hid (RdI w x zs) := h1
  have HZ2 : Hid (RdI w y zs) := h2
  clear h1 h2
  have hy : x.l = y.l := HZ.out.len.symm.trans HZ2.out.len
  have HF : Hid (Fq No w w []) := Fq.start _ _
  go_enter Tryz.func50, Tryz.ntmps50
  go_upto_region 0 with fail
  refine WL.start <| tK (.bool false) <| WL.nil <| ?_
  try simp only [pS]
  go_upto_region 1 with fail
  refine WL.start <| tK (x.v) <| tK (.int .i64 ((x.l : Nat) : Int)) <| tK (y.v) <| tK (.int .i64 ((y.l : Nat) : Int)) <| bN (nI1 (show (((x.l : Nat) : Int) == ((y.l : Nat) : Int)) = true by rw [hy]; exact beq_self_eq_true _)) <| WL.nil <| ?_
  try simp only [pS]
  go_upto_region 3 with fail
  refine WL.start <| tK (.int .i64 0) <| WL.nil <| ?_
  try simp only [pS]
  go_wp2
  go_loopw [5] (fun v5 wr => ∃ i : Nat, v5 = .int .i64 ((i : Nat) : Int) ∧ i ≤ x.l ∧ Hid (Fq No w wr [])) (fun v5 _ => x.l - (intOf v5).toNat)
  case atStart => exact ⟨0, by go_num, by omega, HF⟩
  case round =>
    clear HF
    obtain ⟨i, rfl, hi, HF⟩ := hrel
    by_cases hlt : i < x.l
    ·skip
     obtain ⟨b, off, hsl, hc⟩ := RdI.at HZ.out (i := i) (by omega)
     obtain ⟨bb, offb, hslb, hcb⟩ := RdI.at HZ2.out (i := i) (by omega)
     go_upto_region 4 with fail
     refine WL.start <| tK (.int .i64 ((i : Nat) : Int)) <| tK (x.v) <| tK (.int .i64 ((x.l : Nat) : Int)) <| bN (lI (a := ((i : Nat) : Int)) (b := ((x.l : Nat) : Int)) (decide_eq_true (by omega))) <| WL.nil <| ?_
     try simp only [pS]
     go_upto_region 6 with fail
     refine wp_region_held_drew (S := fun w' => Hid (Fq No w w' [])) rfl (show Hid _ from HF.out.drew) (fun hH => ?_)
     replace HF : Hid (Fq No w wr.drew []) := hH
     clear hH
     generalize wr.drew = w1 at HF ⊢
     refine yK 0 17 HF (x.v) <| yK 1 18 HF (.int .i64 ((i : Nat) : Int)) <| yT 2 19 HF (zI (s := x) (i := i) hsl E22 F22 (by omega)) <| yT 3 20 HF (zL fun w HF => (load_one (HF.out.kept.cell hc (fun e => e)) U3 rfl)) <| yK 4 21 HF (y.v) <| yK 5 22 HF (.int .i64 ((i : Nat) : Int)) <| yT 6 23 HF (zI (s := y) (i := i) hslb E22 F22 (by omega)) <| yT 7 24 HF (zL fun w HF => (load_one (HF.out.kept.cell hcb (fun e => e)) U3 rfl)) <| ?_
     try simp only [pS]
     refine yT 8 25 HF (zN (nI1 (beq_self_eq_true ((zs[i]?.getD 0))))) <| ?_
     try simp only [pS]
     refine wpAnyH_done (by kernel_rfl) ?_ _
     try simp only [pS]
     go_upto_region 5 with fail
     refine WL.start <| tK (.int .i64 ((i : Nat) : Int)) <| bN (v := .int .i64 (((i + 1) : Nat) : Int)) (b_addw ((i : Nat) : Int) 1 (((i + 1) : Nat) : Int) (by rw [IntKind.wrap_i64]; omega)) <| tK (.int .i64 (((i + 1) : Nat) : Int)) <| WL.nil <| ?_
     try simp only [pS]
     go_wp2
     go_roundw
     case rel => exact ⟨i + 1, by go_num, by omega, HF⟩
     case measure => simp [intOf]; omega
    ·skip
     go_upto_region 4 with fail
     refine WL.start <| tK (.int .i64 ((i : Nat) : Int)) <| tK (x.v) <| tK (.int .i64 ((x.l : Nat) : Int)) <| bN (lI (a := ((i : Nat) : Int)) (b := ((x.l : Nat) : Int)) (decide_eq_false (by omega))) <| WL.nil <| ?_
     try simp only [pS]
     go_upto_region 8 with fail
     refine WL.start <| tK (.bool true) <| WL.nil <| ?_
     try simp only [pS]
     go_wp2
     rw [HC.out]
     exact ⟨ret_bool (rfl), HF.out.kept⟩
theorem sameK (up : Int) (x y z u : Sl) (es : List En) (ls : List La) (w : World) (h1 : RdE w x es) (h2 : RdE w y es) (h3 : RdL w z ls) (h4 : RdL w u ls) (hn : x.l ≤ 281474976710656) (hm : z.l ≤ 281474976710656) : Calls Tryz.prog 49 #[.agg (Bv.cells ⟨up, x, z⟩), .agg (Bv.cells ⟨up, y, u⟩)] w (fun e w' => e = .returned (.bool true) ∧ Kept No w w') := by
  refine hidC fun C HC => ?_
  have HRE : Hid (RdE w x es) := h1
  have HRE2 : Hid (RdE w y es) := h2
  have HRL : Hid (RdL w z ls) := h3
  have HRL2 : Hid (RdL w u ls) := h4
  clear h1 h2 h3 h4
  have hy : x.l = y.l := HRE.out.len.symm.trans HRE2.out.len
  have hz : z.l = u.l := HRL.out.len.symm.trans HRL2.out.len
  have HF : Hid (Fq No w w []) := Fq.start _ _
  go_enter Tryz.func49, Tryz.ntmps49
  go_upto_region 0 with fail
  refine WL.start <| xB (Bv.cells ⟨up, x, z⟩) HF fun g1 w2 HF => xB (Bv.cells ⟨up, y, u⟩) HF fun g3 w4 HF => tK (.bool false) <| WL.nil <| ?_
  try simp only [pS]
  go_upto_region 1 with fail
  refine WL.start <| tK (pg g1 0) <| lD (.int .i64 up) HF 0 0 U3 rfl <| tK (pg g3 0) <| lD (.int .i64 up) HF 1 0 U3 rfl <| bN (nI1 (beq_self_eq_true (up))) <| tK (.bool false) <| tK (pg g1 1) <| lD (x.v) HF 0 1 U40 rfl <| tK (.int .i64 ((x.l : Nat) : Int)) <| tK (pg g3 1) <| lD (y.v) HF 1 1 U40 rfl <| tK (.int .i64 ((y.l : Nat) : Int)) <| bN (nI1 (show (((x.l : Nat) : Int) == ((y.l : Nat) : Int)) = true by rw [hy]; exact beq_self_eq_true _)) <| tK (.bool false) <| tK (.bool false) <| ?_
  try simp only [pS]
  refine tK (pg g1 2) <| lD (z.v) HF 0 2 U41 rfl <| tK (.int .i64 ((z.l : Nat) : Int)) <| tK (pg g3 2) <| lD (u.v) HF 1 2 U41 rfl <| tK (.int .i64 ((u.l : Nat) : Int)) <| bN (nI1 (show (((z.l : Nat) : Int) == ((u.l : Nat) : Int)) = true by rw [hz]; exact beq_self_eq_true _)) <| tK (.bool false) <| WL.nil <| ?_
  try simp only [pS]
  go_upto_region 3 with fail
  refine WL.start <| tK (.int .i64 0) <| WL.nil <| ?_
  try simp only [pS]
  go_wp2
  go_loopw [5] (fun v5 wr => ∃ i : Nat, v5 = .int .i64 ((i : Nat) : Int) ∧ i ≤ x.l ∧ Hid (Fq No w wr [(g1, 43, Bv.cells ⟨up, x, z⟩), (g3, 43, Bv.cells ⟨up, y, u⟩)])) (fun v5 _ => x.l - (intOf v5).toNat)
  case atStart => exact ⟨0, by go_num, by omega, HF⟩
  case round =>
    clear HF
    obtain ⟨i, rfl, hi, HF⟩ := hrel
    by_cases hlt : i < x.l
    ·skip
     obtain ⟨b, off, hsl, hc⟩ := RdE.at' HRE.out (i := i) (by omega)
     obtain ⟨bb, offb, hslb, hcb⟩ := RdE.at' HRE2.out (i := i) (by omega)
     go_upto_region 4 with fail
     refine WL.start <| tK (.int .i64 ((i : Nat) : Int)) <| tK (pg g1 1) <| lD (x.v) HF 0 1 U40 rfl <| tK (.int .i64 ((x.l : Nat) : Int)) <| bN (lI (a := ((i : Nat) : Int)) (b := ((x.l : Nat) : Int)) (decide_eq_true (by omega))) <| WL.nil <| ?_
     try simp only [pS]
     go_upto_region 6 with fail
     refine wp_region_held_drew (S := fun w' => Hid (Fq No w w' [(g1, 43, Bv.cells ⟨up, x, z⟩), (g3, 43, Bv.cells ⟨up, y, u⟩)])) rfl (show Hid _ from HF.out.drew) (fun hH => ?_)
     replace HF : Hid (Fq No w wr.drew [(g1, 43, Bv.cells ⟨up, x, z⟩), (g3, 43, Bv.cells ⟨up, y, u⟩)]) := hH
     clear hH
     generalize wr.drew = w5 at HF ⊢
     refine yK 0 37 HF (pg g1 1) <| yT 1 38 HF (v := x.v) (zD 0 1 U40 rfl) <| yK 2 39 HF (.int .i64 ((i : Nat) : Int)) <| yT 3 40 HF (zI (s := x) (i := i) hsl E40 F40 (by omega)) <| yT 4 41 HF (zL fun w HF => (load_E (fun j v h => HF.out.kept.cell (hc j v h) (fun e => e)))) <| yK 5 42 HF (pg g3 1) <| yT 6 43 HF (v := y.v) (zD 1 1 U40 rfl) <| yK 7 44 HF (.int .i64 ((i : Nat) : Int)) <| ?_
     try simp only [pS]
     refine yT 8 45 HF (zI (s := y) (i := i) hslb E40 F40 (by omega)) <| yT 9 46 HF (zL fun w HF => (load_E (fun j v h => HF.out.kept.cell (hcb j v h) (fun e => e)))) <| yT 10 47 HF (zN (qn1E (eqE_refl (eAt es i)))) <| ?_
     try simp only [pS]
     refine wpAnyH_done (by kernel_rfl) ?_ _
     try simp only [pS]
     go_upto_region 5 with fail
     refine WL.start <| tK (.int .i64 ((i : Nat) : Int)) <| bN (v := .int .i64 (((i + 1) : Nat) : Int)) (b_addw ((i : Nat) : Int) 1 (((i + 1) : Nat) : Int) (by rw [IntKind.wrap_i64]; omega)) <| tK (.int .i64 (((i + 1) : Nat) : Int)) <| WL.nil <| ?_
     try simp only [pS]
     go_wp2
     go_roundw
     case rel => exact ⟨i + 1, by go_num, by omega, HF⟩
     case measure => simp [intOf]; omega
    ·skip
     go_upto_region 4 with fail
     refine WL.start <| tK (.int .i64 ((i : Nat) : Int)) <| tK (pg g1 1) <| lD (x.v) HF 0 1 U40 rfl <| tK (.int .i64 ((x.l : Nat) : Int)) <| bN (lI (a := ((i : Nat) : Int)) (b := ((x.l : Nat) : Int)) (decide_eq_false (by omega))) <| WL.nil <| ?_
     try simp only [pS]
     go_upto_region 8 with fail
     refine WL.start <| tK (.int .i64 0) <| WL.nil <| ?_
     try simp only [pS]
     go_wp2
     go_loopw [6] (fun v6 wr => ∃ i : Nat, v6 = .int .i64 ((i : Nat) : Int) ∧ i ≤ z.l ∧ Hid (Fq No w wr [(g1, 43, Bv.cells ⟨up, x, z⟩), (g3, 43, Bv.cells ⟨up, y, u⟩)])) (fun v6 _ => z.l - (intOf v6).toNat)
     case atStart => exact ⟨0, by go_num, by omega, HF⟩
     case round =>
       clear HF
       obtain ⟨i, rfl, hi, HF⟩ := hrel
       by_cases hlt : i < z.l
       ·skip
        obtain ⟨b, off, hsl, hc⟩ := RdL.at' HRL.out (i := i) (by omega)
        obtain ⟨bb, offb, hslb, hcb⟩ := RdL.at' HRL2.out (i := i) (by omega)
        go_upto_region 9 with fail
        refine WL.start <| tK (.int .i64 ((i : Nat) : Int)) <| tK (pg g1 2) <| lD (z.v) HF 0 2 U41 rfl <| tK (.int .i64 ((z.l : Nat) : Int)) <| bN (lI (a := ((i : Nat) : Int)) (b := ((z.l : Nat) : Int)) (decide_eq_true (by omega))) <| WL.nil <| ?_
        try simp only [pS]
        go_upto_region 11 with fail
        refine wp_region_held_drew (S := fun w' => Hid (Fq No w w' [(g1, 43, Bv.cells ⟨up, x, z⟩), (g3, 43, Bv.cells ⟨up, y, u⟩)])) rfl (show Hid _ from HF.out.drew) (fun hH => ?_)
        replace HF : Hid (Fq No w wr.drew [(g1, 43, Bv.cells ⟨up, x, z⟩), (g3, 43, Bv.cells ⟨up, y, u⟩)]) := hH
        clear hH
        generalize wr.drew = w6 at HF ⊢
        refine yK 0 55 HF (pg g1 2) <| yT 1 56 HF (v := z.v) (zD 0 2 U41 rfl) <| yK 2 57 HF (.int .i64 ((i : Nat) : Int)) <| yT 3 58 HF (zI (s := z) (i := i) hsl E41 F41 (by omega)) <| yT 4 59 HF (zL fun w HF => (load_L (fun j v h => HF.out.kept.cell (hc j v h) (fun e => e)))) <| yK 5 60 HF (pg g3 2) <| yT 6 61 HF (v := u.v) (zD 1 2 U41 rfl) <| yK 7 62 HF (.int .i64 ((i : Nat) : Int)) <| ?_
        try simp only [pS]
        refine yT 8 63 HF (zI (s := u) (i := i) hslb E41 F41 (by omega)) <| yT 9 64 HF (zL fun w HF => (load_L (fun j v h => HF.out.kept.cell (hcb j v h) (fun e => e)))) <| yT 10 65 HF (zN (qn1L (eqL_refl (lAt ls i)))) <| ?_
        try simp only [pS]
        refine wpAnyH_done (by kernel_rfl) ?_ _
        try simp only [pS]
        go_upto_region 10 with fail
        refine WL.start <| tK (.int .i64 ((i : Nat) : Int)) <| bN (v := .int .i64 (((i + 1) : Nat) : Int)) (b_addw ((i : Nat) : Int) 1 (((i + 1) : Nat) : Int) (by rw [IntKind.wrap_i64]; omega)) <| tK (.int .i64 (((i + 1) : Nat) : Int)) <| WL.nil <| ?_
        try simp only [pS]
        go_wp2
        go_roundw
        case rel => exact ⟨i + 1, by go_num, by omega, HF⟩
        case measure => simp [intOf]; omega
       ·skip
        go_upto_region 9 with fail
        refine WL.start <| tK (.int .i64 ((i : Nat) : Int)) <| tK (pg g1 2) <| lD (z.v) HF 0 2 U41 rfl <| tK (.int .i64 ((z.l : Nat) : Int)) <| bN (lI (a := ((i : Nat) : Int)) (b := ((z.l : Nat) : Int)) (decide_eq_false (by omega))) <| WL.nil <| ?_
        try simp only [pS]
        go_upto_region 13 with fail
        refine WL.start <| tK (.bool true) <| WL.nil <| ?_
        try simp only [pS]
        go_wp2
        rw [HC.out]
        exact ⟨ret_bool (rfl), HF.out.kept⟩
end Go.Proofs.YtgdnofacgfjaeaaGreat.Md
