import Derived.Test.YtpapbleabjpbfabGd
import Derived.Test.YtpapbleabjpbfabMd
import Derived.Test.YtpapbleabjpbfabCg
import Derived.OrdersHeld
import Derived.Deep.RegionHeld3
namespace Go.Proofs.Ytpapbleabjpbfab
open Go.RowKit Gx
set_option linter.unusedVariables false
set_option linter.unusedSimpArgs false

section
variable {ops : Array Oper} {o : Oper} {a : Act} {w w' : World} {Q : Exit → Act → World → Prop} {md : Region.Mode} {S : World → Prop}
theorem any_step {i : Nat} {fuel : Nat} {listed : Array Bool} {v : Value} (hi : ops[i]? = some o) (hr : Region.ready md ops listed = [i]) (hw : Region.wanted o (yielded ops a.tmps) = true)
    (hrun : (execOp a.eval o).run Try.prog w = .ok (.value v) w') (hS : S w') (h : S w' → wpAnyH Try.prog md ops Q S fuel (listed.setIfInBounds i true) (a.put o.dst v) w') : wpAnyH Try.prog md ops Q S (fuel + 1) listed a w := by
  refine wpAnyH_ready hr (by simp) (AllReadyH.cons hi (fun K hK => ?_) AllReadyH.nil)
  rw [if_pos hw]
  unfold Oper.wp
  rw [hrun, Oper.upon_value]
  exact hK.out _ _ hS h
theorem any_call {i : Nat} {fuel : Nat} {listed : Array Bool} (hi : ops[i]? = some o) (hr : Region.ready md ops listed = [i]) (hw : Region.wanted o (yielded ops a.tmps) = true)
    (f : FuncId) (args : Array Value) (hrun : (execOp a.eval o).run Try.prog w = .ok (.enter f args) w) (C : Ending → World → Prop) (hc : Calls Try.prog f args w C)
    (h : ∀ e w', C e w' → ∃ v, e = .returned v ∧ S w' ∧ (S w' → wpAnyH Try.prog md ops Q S fuel (listed.setIfInBounds i true) (a.put o.dst v) w')) : wpAnyH Try.prog md ops Q S (fuel + 1) listed a w := by
  refine wpAnyH_ready hr (by simp) (AllReadyH.cons hi (fun K hK => ?_) AllReadyH.nil)
  rw [if_pos hw]
  unfold Oper.wp
  rw [hrun, Oper.upon_enter]
  refine hc.mono fun e w' he => ?_
  obtain ⟨v, rfl, hS, hh⟩ := h e w' he
  exact hK.out _ _ hS hh
theorem aT {i : Nat} {oi : Oper} {v : Value} {fuel : Nat} {listed : Array Bool} (hy : ∀ w, S w → (execOp a.eval oi).run Try.prog w = .ok (.value v) w) (hS : S w) (h : wpAnyH Try.prog md ops Q S fuel (listed.setIfInBounds i true) (a.put oi.dst v) w)
    (hi : ops[i]? = some oi := by rfl) (hs : Region.noSelect ops = true := by kernel_rfl) (hf : Region.free md ops listed i = true := by kernel_rfl) (hr : (Region.ready md ops listed).contains i = true := by kernel_rfl)
    (hQ : ∀ c a w, Q (.panic c) (a.put oi.dst v) w → Q (.panic c) a w := by exact fun _ _ _ h => h) (hw : Region.wanted oi (yielded ops a.tmps) = true := by kernel_rfl) : wpAnyH Try.prog md ops Q S (fuel + 1) listed a w :=
  wpAnyH_take hi hs hf hr hQ (.inl ⟨hw, hy⟩) hS h
end
theorem pA (a : Act) (t : Tmp) (v : Value) : a.put (some t) v = { tmps := a.tmps.setIfInBounds t v, defers := a.defers } := rfl
theorem pB (a : Act) (v : Value) : a.put none v = a := rfl
theorem p1 {α : Type} (l : List α) (i : Nat) (v : α) : l.toArray.setIfInBounds i v = (l.set i v).toArray := List.setIfInBounds_toArray ..
theorem p2 {α : Type} (x : α) (l : List α) (v : α) : (x :: l).set 0 v = v :: l := rfl
theorem p3 {α : Type} (x : α) (l : List α) (i : Nat) (v : α) : (x :: l).set (i + 1) v = x :: l.set i v := rfl

namespace Gx
theorem Own.nilcap {t : TypeId} {c : Nat} {w : World} {base : Nat} {a : Option Addr} {cap n : Nat} {vs : List Value} (h : Own t c w base a cap n vs) (ha : a = none) : n = 0 ∧ cap = 0 := by
  rcases h.2 with ⟨hv, hn⟩ | ⟨g, cap', cur, hv, _⟩
  · simp only [Value.slice.injEq] at hv; exact ⟨hn, hv.2.2⟩
  · simp only [Value.slice.injEq] at hv; rw [ha] at hv; cases hv.1
/-- An empty list that was built. -/
theorem own_empty {w : World} {b lo : Nat} {t : TypeId} {c : Nat} (h : Box w b t #[]) (hlo : lo ≤ b) : Own t c w lo (some ⟨b, 0, none⟩) 0 0 [] :=
  ⟨by simp, .inr ⟨b, 0, #[], rfl, hlo, h, Nat.le_refl _, by unfold maxLen; omega, by simp, by simp⟩⟩
/-- A list appended to an empty one that was built. -/
theorem wp_appE {ops : Array Oper} {rest : List Oper} {o : Oper} {a : Act} {w : World} {Q : Exit → Act → World → Prop} (hgd : o.guard = Option.none) (s x : Operand) (ho : o.op = .call { callee := .builtin .append, args := #[s, x], argTypes := #[22, 22] })
    (lo b : Nat) (hs : a.eval s = .slice (some ⟨b, 0, none⟩) 0 0) (hb : Box w b 3 #[]) (hlo : lo ≤ b) (xa : Option Addr) (xn xc : Nat) (l : List Int) (hln : l.length = xn) (hx : a.eval x = .slice xa xn xc) (hl : Nums .i64 w xa l) (hnil : xa = none → xn = 0 ∧ xc = 0) (hm : xn ≤ 1000)
    (h : ∀ a' c' w', Hid (OwI w' lo a' c' l) → Hid (Kept (Only b) w w') → Hid (∀ k, At a' k → k = b ∨ w.heap.size ≤ k) → wpList Try.prog ops Q rest (a.put o.dst (.slice a' xn c')) w') :
    wpList Try.prog ops Q (o :: rest) a w := by
  subst hln
  have hlt := hb.lt
  have own := own_empty (t := 3) (c := 1) hb hlo
  by_cases h0 : l = []
  · subst h0
    obtain ⟨i0, hi, hz0, hz1, hz2⟩ := info_parts Try.info3
    refine wpList_append_fits_any _ hgd s x 22 ho lo 3 i0 1 Try.underlying22 hi hz1 b 0 0 [] hs own xa 0 xc [] hx (by simp) hnil (fun ad e j u hu => by simp at hu) (fun u hu => by simp at hu) (Nat.le_refl _) ?_
    intro w' hown hg
    exact h _ _ w' hown ((Kept.refl _ _).grown hg (fun k e _ => by cases e; rfl)) (fun k hk => by obtain ⟨ad, e, rfl⟩ := hk; cases e; exact .inl rfl)
  · have hp : 0 < l.length := List.length_pos_iff.2 h0
    obtain ⟨b0, off, rfl, _⟩ := hl 0 hp
    refine wp_appN w 22 3 (.int .i64 0) 1 8 Try.underlying22 Try.info3 rfl (by decide) hgd s x ho lo (some ⟨b, 0, none⟩) 0 0 [] hs own ⟨b0, off, none⟩ l.length xc (l.map (Value.int .i64)) hx (by simp) (fun j u hu => ?_) (num_one .i64 l) (by omega) (by omega) (by omega) ?_
    · have hj : j < l.length := by have := (List.getElem?_eq_some_iff.1 hu).1; simpa using this
      obtain ⟨b1, off1, e1, c1⟩ := hl j hj
      cases e1
      rw [addr_add, c1]
      rw [List.getElem?_map, List.getElem?_eq_getElem hj] at hu
      rw [List.getElem?_eq_getElem hj]
      simpa using hu
    · intro a' c' w' HO HC
      rw [Nat.zero_add]
      have ho := HO.out
      rw [Nat.zero_add, List.nil_append] at ho
      refine h a' c' w' ho ?_ ?_
      · rcases HC.out with ⟨_, _, hk⟩ | ⟨_, hk⟩
        · exact hk.mono (fun i _ e => by obtain ⟨ad, e1, rfl⟩ := e; cases e1; rfl)
        · exact hk.of_no
      · intro k hk
        rcases HC.out with ⟨e, _, _⟩ | ⟨hf, _⟩
        · rw [e] at hk; obtain ⟨ad, e1, rfl⟩ := hk; cases e1; exact .inl rfl
        · exact .inr (hf k hk)
/-- Some lists appended to a row of them. -/
theorem wp_rowN {ops : Array Oper} {rest : List Oper} {o : Oper} {a : Act} {w : World} {Q : Exit → Act → World → Prop} (hgd : o.guard = Option.none) (s x : Operand) (ho : o.op = .call { callee := .builtin .append, args := #[s, x], argTypes := #[57, 57] })
    (base : Nat) (sa : Option Addr) (sn sc : Nat) (K : List Ent) (hs : a.eval s = .slice sa sn sc) (hsn : K.length = sn) (hown : Rw w base sa sc K) (xb xn xc : Nat) (E : List Ent) (hx : a.eval x = .slice (some ⟨xb, 0, none⟩) xn xc) (hxn : E.length = xn) (hc : Box w xb 22 (E.map entV).toArray) (hlen : sn + xn ≤ 100000) (hbase : base ≤ w.heap.size) (n' : Nat) (hn' : sn + xn = n')
    (h : ∀ a' c' w', Hid (Own 22 1 w' base a' c' (K.length + E.length) (K.map entV ++ E.map entV)) → Hid ((a' = sa ∧ c' = sc ∧ Kept (At sa) w w') ∨ ((∀ k, At a' k → w.heap.size ≤ k) ∧ Kept No w w')) → wpList Try.prog ops Q rest (a.put o.dst (.slice a' n' c')) w') :
    wpList Try.prog ops Q (o :: rest) a w := by
  subst hsn hxn hn'
  refine wp_appN w 57 22 (.slice none 0 0) 1 24 Try.und57 Try.info22 rfl (by decide) hgd s x ho base sa _ sc (K.map entV) hs hown ⟨xb, 0, none⟩ E.length xc (E.map entV) hx (by simp) (fun j u hu => ?_) (fun u hu => by obtain ⟨e, _, rfl⟩ := List.mem_map.1 hu; rfl) (by omega) (by omega) hbase ?_
  · rw [addr_add, Nat.zero_add, hc.cell]
    simpa using hu
  · intro a' c' w' HO HC
    exact h a' c' w' HO HC
/-- Two rows of lists: none of their blocks is another's. -/
structure Tw (W : World) (lo : Nat) (la : Option Addr) (lc : Nat) (K : List Ent) (Z : Nat → List Int) (ga : Option Addr) (gc : Nat) (G : List Ent) (Y : Nat → List Int) : Prop where
  rl : Rw W lo la lc K
  el : Erow W lo K Z
  rg : Rw W lo ga gc G
  eg : Erow W lo G Y
  d1 : ∀ k, EB K k → ¬ EB G k
  d2 : ∀ k, At la k → ¬ At ga k
section
variable {W W' : World} {lo : Nat} {la : Option Addr} {lc : Nat} {K : List Ent} {Z : Nat → List Int} {ga : Option Addr} {gc : Nat} {G : List Ent} {Y : Nat → List Int}
theorem Tw.nil (W : World) (lo : Nat) (Z Y : Nat → List Int) : Tw W lo none 0 [] Z none 0 [] Y := ⟨Rw.nil _ _, Erow.nil _ _ _, Rw.nil _ _, Erow.nil _ _ _, fun k e => by obtain ⟨e, h, _⟩ := e; simp at h, fun k e => absurd e At.none⟩
theorem Tw.no (h : Tw W lo la lc K Z ga gc G Y) (hk : Kept No W W') : Tw W' lo la lc K Z ga gc G Y := ⟨h.rl.no hk, h.el.no hk, h.rg.no hk, h.eg.no hk, h.d1, h.d2⟩
theorem Tw.swap (h : Tw W lo la lc K Z ga gc G Y) : Tw W lo ga gc G Y la lc K Z := ⟨h.rg, h.eg, h.rl, h.el, fun k e f => h.d1 k f e, fun k e f => h.d2 k f e⟩
theorem EB_app {K E : List Ent} {k : Nat} (h : EB (K ++ E) k) : EB K k ∨ EB E k := by
  obtain ⟨e, he, ha⟩ := h
  rcases List.mem_append.1 he with h1 | h1
  · exact .inl ⟨e, h1, ha⟩
  · exact .inr ⟨e, h1, ha⟩
theorem Tw.app {E : List Ent} {Z' : Nat → List Int} {la' : Option Addr} {lc' : Nat} (h : Tw W lo la lc K Z ga gc G Y) (hE : Erow W lo (K ++ E) Z') (hd : ∀ k, EB E k → ¬ EB G k)
    (hr : Own 22 1 W' lo la' lc' (K.length + E.length) (K.map entV ++ E.map entV)) (hc : (la' = la ∧ lc' = lc ∧ Kept (At la) W W') ∨ ((∀ k, At la' k → W.heap.size ≤ k) ∧ Kept No W W')) :
    Tw W' lo la' lc' (K ++ E) Z' ga gc G Y := by
  have hk : Kept (At la) W W' := by
    rcases hc with ⟨_, _, hk⟩ | ⟨_, hk⟩
    · exact hk
    · exact hk.of_no
  have nt : ∀ {L : List Ent} {X : Nat → List Int}, Erow W lo L X → ∀ k, EB L k → ¬ At la k := fun hX k e f => h.rl.apart hX f e
  refine ⟨?_, hE.kept hk (nt hE), h.rg.kept hk (fun k e f => h.d2 k f e), h.eg.kept hk (nt h.eg), fun k e f => ?_, fun k e f => ?_⟩
  · unfold Rw
    rw [List.length_append, List.map_append]
    exact hr
  · rcases EB_app e with e | e
    · exact h.d1 k e f
    · exact hd k e f
  · rcases hc with ⟨h1, _, _⟩ | ⟨h1, _⟩
    · rw [h1] at e; exact h.d2 k e f
    · have := h1 k e; have := Own.lt h.rg f; omega
end
/-- New lists behind what there is. -/
theorem Erow.fresh {W W' : World} {lo B : Nat} {K : List Ent} {Z : Nat → List Int} (h : Erow W' lo K Z) {e : Ent} {zs : List Int} (hl : zs.length = e.l) (ho : OwI W' B e.a e.c zs) (hb : e.l ≤ 1000000) (hlo : lo ≤ B) (hB : ∀ k, EB K k → k < B) :
    Erow W' lo (K ++ [e]) (fun i => if i = K.length then zs else Z i) :=
  h.add hl (Own.lower ho hlo) hb (fun k hk hK => by have := hB k hK; have := Own.base ho hk; omega)
end Gx

/-- What Group tells. -/
def grpL (ps : List (Int × Int)) (wn : Nat) (bu : Int) (x : Ky) : List Int := if keyB x.kd x.a x.b x.c bu = true then grp ps (homeH x.kd x.a x.b x.c) wn else []
theorem grpL_le (ps : List (Int × Int)) (wn : Nat) (bu : Int) (x : Ky) : (grpL ps wn bu x).length ≤ wn := by
  unfold grpL
  split
  · exact grpN_le _ _ _ _
  · simp
theorem group_any (base r : Nat) (sz : List Int) (f : Int) (p : Nat) (bu bl ro : Int) (ps : List (Int × Int)) (wn : Nat) (x : Ky) (w : World) (hr : RingAt w base r sz f p bu bl ro ps) (hb0 : 0 ≤ bu) (hb1 : bu ≤ 256)
    (hm1 : 1 ≤ ps.length) (hm : ps.length ≤ 4096) (hRi : Rising ps) (hI : SrvI ps) (hf0 : 0 ≤ f) (hf : f ≤ 3) (hwn : (wn : Int) = 2 * f + 1) :
    Calls Try.prog 12 #[.pointer (some ⟨r, 0, none⟩), keyV x.kd x.a x.b x.c] w fun e w' => ∃ ga gc er, e = .returned (.tuple #[.slice ga (grpL ps wn bu x).length gc, .int .i64 er]) ∧ OwI w' w.heap.size ga gc (grpL ps wn bu x) ∧ Kept No w w' := by
  obtain ⟨sa, sn, sc, pg, pc, m, hv⟩ := hr.v
  have hl := hv.len
  by_cases hk : keyB x.kd x.a x.b x.c bu = true
  · refine (groupYes_any r sa sn sc f p bu bl ro pg pc m wn ps x.kd x.a x.b x.c w hv hb0 hb1 hk (by omega) (by omega) hRi hI hf0 hf hwn).mono ?_
    rintro e w' ⟨g, _, rfl, ho, hk'⟩
    refine ⟨some ⟨g, 0, none⟩, wn, 0, ?_, ?_, hk'⟩
    · unfold grpL; rw [if_pos hk]
    · unfold grpL OwI; rw [if_pos hk]; exact ho
  · refine (groupNo_any r sa sn sc f p bu bl ro pg pc m ps x.kd x.a x.b x.c w hv hb0 hb1 (by simpa using hk)).mono ?_
    rintro e w' ⟨rfl, hk'⟩
    refine ⟨none, 0, 21, ?_, ?_, hk'⟩
    · unfold grpL; rw [if_neg hk]; rfl
    · unfold grpL; rw [if_neg hk]; exact Own.nil0 _ _ _ _
/-- The ring in memory, where only one other block changes. -/
theorem RingAt.kept {S : Nat → Prop} {w w' : World} {base r : Nat} {zs : List Int} {f : Int} {p : Nat} {bu bl ro : Int} {ps : List (Int × Int)} (h : RingAt w base r zs f p bu bl ro ps) (hk : Kept S w w') (hS : ∀ k, S k → k < base) : RingAt w' base r zs f p bu bl ro ps := by
  obtain ⟨sg, sc, pg, pc, n, m, h1, h2, h3, h4, h5, h6⟩ := h
  refine ⟨sg, sc, pg, pc, n, m, h1, h2, h3.kept hk (fun e => by have := hS _ e; omega), Own.kept h4 hk (fun k e f => ?_), Own.kept h5 hk (fun k e f => ?_), h6⟩
  · have := hS _ f; have := Own.base h4 e; omega
  · have := hS _ f; have := Own.base h5 e; omega

end Go.Proofs.Ytpapbleabjpbfab
