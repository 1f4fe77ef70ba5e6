import Derived.Test.YtgiokkcdgoloaaaVo
namespace Go.Proofs.Ytgiokkcdgoloaaa.Md
open Go.RowKit
set_option linter.unusedVariables false
set_option linter.unusedSimpArgs false
section
variable {N Lb Db R : Nat} {x : Wd} {G : Nat → Int → Sp} {T : Nat → Option Sp} {up : List Bool}
theorem exF_qb (k : Bool) (hq : QB N Lb Db R x) : ∀ l : List Pm, QB (N + 2 * l.length) (Lb + 7 * l.length) (Db + l.length) (R + l.length) (exF k up x l).1 := by
  refine snoc_ind (P := fun l => QB (N + 2 * l.length) (Lb + 7 * l.length) (Db + l.length) (R + l.length) (exF k up x l).1) ?_ ?_
  · exact ⟨hq.now, hq.ls, hq.ds, hq.n, hq.rd, hq.mr, Nat.zero_le _, (fun p hp => by cases hp)⟩
  · intro l p ih
    rw [exF_snoc, List.length_append]
    unfold exS
    split
    · exact ih.mono (by simp only [List.length_singleton]; omega) (by simp only [List.length_singleton]; omega) (by omega) (by omega)
    · split
      · exact (ih.del p).mono (by simp only [List.length_singleton]; omega) (by simp only [List.length_singleton]; omega) (by simp only [List.length_singleton]; omega) (by simp only [List.length_singleton]; omega)
      · exact ih.mono (by simp only [List.length_singleton]; omega) (by simp only [List.length_singleton]; omega) (by omega) (by omega)
theorem exF_2 (k : Bool) (l : List Pm) : ∀ p, p ∈ (exF k up x l).2 → p ∈ l := by
  refine snoc_ind (P := fun l => ∀ p, p ∈ (exF k up x l).2 → p ∈ l) ?_ ?_ l
  · intro p hp; exact hp
  · intro l q ih p hp
    rw [exF_snoc] at hp
    unfold exS at hp
    split at hp
    · rcases List.mem_append.1 hp with hp | hp
      · exact List.mem_append_left _ (ih p hp)
      · exact List.mem_append_right _ hp
    · split at hp
      · exact List.mem_append_left _ (ih p hp)
      · exact List.mem_append_left _ (ih p hp)
theorem exK_qb (k : Bool) (h : WInv x G T) (hq : QB N Lb Db R x) (hl : x.un.length ≤ 43) (hn12 : ∀ p, p ∈ x.un → p.k = 12 → p.st = spZ) : QB (N + 2 * x.un.length) (Lb + 7 * x.un.length) (Db + x.un.length) (R + x.un.length) (exK k up x) := by
  have h1 := exF_qb (up := up) k hq x.un
  have h2 := exK_len (up := up) k h hq.n
  exact ⟨h1.now, h1.ls, h1.ds, h1.n, h1.rd, h1.mr, by omega, fun p hp hk => by
    have hp : p ∈ (exF k up x x.un).2 ++ (exF k up x x.un).1.un := hp
    rcases List.mem_append.1 hp with hp | hp
    · exact hn12 p (exF_2 k _ p hp) hk
    · exact h1.n12 p hp hk⟩
theorem mok_of {p : Pm} (hw : WInv x G T) (hp : UnOk x G T p) (h12 : p.k = 12 → p.st = spZ) : MOk x.n p := by
  obtain ⟨j, d, hj, _, _, hu⟩ := hp
  rcases hu with ⟨e1, e2, _, e3⟩ | ⟨e1, _, e2, e3⟩
  · exact .inr ⟨e1, mem_wdG e2, e3.imp id (fun q => q.1)⟩
  · have hcl := hw.cls j d hj
    refine .inl ⟨by rw [e1], ⟨(d.cl - 1).toNat, by omega, by rw [e1]; dsimp only; omega⟩, ?_⟩
    rcases e3 with ⟨_, q1, _⟩ | ⟨q1, _⟩
    · have q2 := hw.low j p.fr.id
      unfold sle spZ at q2
      unfold sle at q1
      dsimp only at q2
      omega
    · rw [h12 q1]
      show (-9223372036854775808 : Int) ≤ 0
      decide
structure DelB (x : Wd) (p : Pm) : Prop where
  ok : MOk x.n p
  now : 0 ≤ x.now ∧ x.now ≤ 900000000
  ls : x.ls.length ≤ 900000
  n : x.n ≤ 100
  at' : ∀ c s, x.m c = some s → x.at' c < x.ds.length
theorem exF_delB (k : Bool) (h : WInv x G T) (hq : QB N Lb Db R x) (hN : N ≤ 100000) (hL : Lb ≤ 100000) (hl : x.un.length ≤ 1000) {i : Nat} {p : Pm} (hp : x.un[i]? = some p) : DelB (exF k up x (x.un.take i)).1 p := by
  have hin : ∀ q, q ∈ x.un.take i → q ∈ x.un := fun q hq => List.mem_of_mem_take hq
  obtain ⟨T', k1, _, k3, k4⟩ := exF_inv (up := up) k h (x.un.take i) (fun q hq => h.msg q (hin q hq))
  have hb := exF_qb (up := up) k hq (x.un.take i)
  have htl : (x.un.take i).length ≤ 1000 := by rw [List.length_take]; omega
  have hpm := List.mem_of_getElem? hp
  have hok := mok_of k1 ((h.msg p hpm).gro k3 k4) (hq.n12 p hpm)
  refine ⟨hok, ⟨hb.now.1, by have := hb.now.2; omega⟩, by have := hb.ls; omega, by have := hb.n; omega, fun c s hs => ?_⟩
  obtain ⟨_, _, _, _, _, ⟨d, hd, _⟩, _⟩ := k1.act c s hs
  exact (List.getElem?_eq_some_iff.1 hd).1
end
section
variable {w W W2 : World} {n0 : Nat} {J0 J J2 S : Nat → Prop} {b : Nat} {v v2 : Wv} {x x2 : Wd} {mp mp2 : Nat → Option Nat} {I I2 : Nat → Nat → Prop} {H H2 : List Bl} {U U2 : List Mg} {D D2 : List Dv} {L L2 : List Lv} {l l2 : List (Nat × TypeId × Array Value)} {T T' : List Rowx} {Q Q' : List (Sl × List Int)} {cs : Array Value} {rs : List Rowx} {ms : Nat → Option RM}
theorem Wl.adopt (H : Wl W n0 J b cs rs I ms mp) {j : Nat} {x : Rowx} (hx : rs[j]? = some x) {s : Sl} {vs : List Value} (ho : Own x.2.1 x.2.2.1 W n0 s.a s.k s.l vs) (hn : ∀ k, At s.a k → ¬ J k) :
    Wl W n0 (fun k => (J k ∧ ¬ At x.1.a k) ∨ At s.a k) b cs (rs.set j (s, x.2.1, x.2.2.1, vs)) I ms mp := by
  have hj := (List.getElem?_eq_some_iff.1 hx).1
  have key : ∀ (i : Nat) y, (rs.set j (s, x.2.1, x.2.2.1, vs))[i]? = some y → (i = j ∧ y = (s, x.2.1, x.2.2.1, vs)) ∨ (i ≠ j ∧ rs[i]? = some y) := by
    intro i y hy
    by_cases e : j = i
    · subst e
      rw [List.getElem?_set_self hj] at hy
      exact .inl ⟨rfl, (Option.some.inj hy).symm⟩
    · rw [List.getElem?_set_ne e] at hy
      exact .inr ⟨fun f => e f.symm, hy⟩
  refine ⟨H.box, ?_, ?_, ?_, ?_, H.mn, H.ii, H.ib, ?_, fun i k e => .inl ⟨H.ij i k e, fun f => H.ri i k j x e hx f⟩, .inl ⟨H.bj, H.rb hx⟩, ?_, ?_⟩
  · intro i y hy
    rcases key i y hy with ⟨rfl, rfl⟩ | ⟨hne, hy⟩
    · exact ho
    · exact H.ow i y hy
  · intro i y hy
    rcases key i y hy with ⟨rfl, rfl⟩ | ⟨hne, hy⟩
    · exact H.ty _ x hx
    · exact H.ty i y hy
  · intro i q y z k hy hz e f
    rcases key i y hy with ⟨e1, e2⟩ | ⟨hne, hy'⟩ <;> rcases key q z hz with ⟨f1, f2⟩ | ⟨hne2, hz'⟩
    · rw [e1, f1]
    · rw [e2] at e
      exact absurd (H.rj q z k hz' f) (hn k e)
    · rw [f2] at f
      exact absurd (H.rj i y k hy' e) (hn k f)
    · exact H.ap i q y z k hy' hz' e f
  · intro c s' hs
    exact H.mc c s' hs
  · intro q k i y e hy
    rcases key i y hy with ⟨rfl, rfl⟩ | ⟨hne, hy⟩
    · exact fun f => hn k f (H.ij q k e)
    · exact H.ri q k i y e hy
  · intro i y k hy e
    rcases key i y hy with ⟨rfl, rfl⟩ | ⟨hne, hy⟩
    · exact .inr e
    · exact .inl ⟨H.rj i y k hy e, fun f => hne (H.ap i j y x k hy hx e f)⟩
  · rintro k (e | e)
    · exact H.jl k e.1
    · exact ⟨Own.base ho e, Own.lt ho e⟩
theorem Wg.n0W (G : Wg w W n0 J0 J b v x mp I H U D L l T Q) : n0 ≤ W.heap.size := Nat.le_trans G.nw G.fr.kept.size
theorem Wg.adopt (G : Wg w W n0 J0 J b v x mp I H U D L l T Q) {s : Sl} {un2 : List Pm} (ho : Own 52 30 W n0 s.a s.k s.l (mgL U2)) (hn : ∀ k, At s.a k → ¬ J k ∧ w.heap.size ≤ k) (hl : ∀ (i : Nat) g t cs, l[i]? = some (g, t, cs) → ¬ At s.a g) (hT : ∀ (i : Nat) y k, T[i]? = some y → At y.1.a k → ¬ At s.a k) (hU : Two2 (UnM W n0) un2 U2) :
    ∃ J2, (∀ k, J2 k → J k ∨ At s.a k) ∧ (∀ k, At v.un.a k → ¬ At s.a k → ¬ J2 k) ∧ Wg w (W.setRow b (Wv.cells ⟨v.gp, v.hd, v.mm, v.aa, v.rr, v.gn, s, v.ds, v.ls, v.now, v.br⟩)) n0 J0 J2 b ⟨v.gp, v.hd, v.mm, v.aa, v.rr, v.gn, s, v.ds, v.ls, v.now, v.br⟩ { x with un := un2 } mp I H U2 D L l T Q := by
  have h1 := G.wa.wl.adopt (j := 6) (x := (v.un, 52, 30, mgL U)) rfl ho (fun k e => (hn k e).1)
  have hA : WA W n0 (fun k => (J k ∧ ¬ At v.un.a k) ∨ At s.a k) b v x mp I H U D L → True := fun _ => trivial
  obtain ⟨h3, h4⟩ := h1.put (Wv.cells ⟨v.gp, v.hd, v.mm, v.aa, v.rr, v.gn, s, v.ds, v.ls, v.now, v.br⟩)
  have hbl : N5 W J b := G.wa.wl.b5
  have u0 : Up5 W J (W.setRow b (Wv.cells ⟨v.gp, v.hd, v.mm, v.aa, v.rr, v.gn, s, v.ds, v.ls, v.now, v.br⟩)) J := ⟨fun _ e => .inl e, (Kept.setRow W b _).mono (fun k _ e => (show k = b from e) ▸ hbl)⟩
  have p := G.wa.pt.up u0 G.wa.n0J
  have hu : Kept J W _ := Kept.five u0.kept
  refine ⟨fun k => (J k ∧ ¬ At v.un.a k) ∨ At s.a k, fun k e => e.imp And.left id, fun k e f g => g.elim (fun q => q.2 e) f, ⟨⟨h3, ⟨p.hd, hU.mono (fun a c r => r.kept u0.kept (fun k e => ⟨G.wa.n0J k e.1, e.2⟩)), p.ds, p.ls⟩, G.wa.now, G.wa.br⟩, ?_, fun k e => e.elim (fun q => G.ja k q.1) (fun q => .inr (hn k q).2), G.nw, fun i g t cs hi => ⟨fun e => e.elim (fun q => (G.li i g t cs hi).1 q.1) (hl i g t cs hi), (G.li i g t cs hi).2⟩, fun i y hy => Own.kept (G.tl i y hy) hu (fun k e => G.tj i y k hy e), fun i y k hy e f => f.elim (fun q => G.tj i y k hy e q.1) (hT i y k hy e), G.tb, fun i y hy => (G.qs i y hy).up u0 G.wa.n0J⟩⟩
  refine ⟨G.fr.kept.trans u0.kept (fun _ e => e) (fun k hk e => ?_), fun i g t cs hi => (G.fr.box i g t cs hi).kept hu (G.li i g t cs hi).1, G.fr.low, G.fr.inj⟩
  exact ⟨(G.ja k e.1).elim id (fun g => absurd hk (by omega)), fun hb => e.2 (boxKept hb G.fr.kept (fun f => f.2 hb))⟩
theorem Wg.cutU (G : Wg w W n0 J0 J b v x mp I H U D L l T Q) :
    ∃ J2, Wg w (W.setRow b (Wv.cells ⟨v.gp, v.hd, v.mm, v.aa, v.rr, v.gn, slZ, v.ds, v.ls, v.now, v.br⟩)) n0 J0 J2 b ⟨v.gp, v.hd, v.mm, v.aa, v.rr, v.gn, slZ, v.ds, v.ls, v.now, v.br⟩ { x with un := [] } mp I H [] D L l (T ++ [(v.un, 52, 30, mgL U)]) Q ∧ (∀ k, At v.un.a k → ¬ J2 k) := by
  obtain ⟨J2, h1, h2, h3⟩ := G.adopt (s := slZ) (un2 := []) (U2 := []) (Own.nil _ _ _ _) (fun k e => absurd e At.none) (fun _ _ _ _ _ e => At.none e) (fun _ _ _ _ _ e => At.none e) ⟨rfl, fun i a c e => by cases e⟩
  have hw : Own 52 30 (W.setRow b (Wv.cells ⟨v.gp, v.hd, v.mm, v.aa, v.rr, v.gn, slZ, v.ds, v.ls, v.now, v.br⟩)) n0 v.un.a v.un.k v.un.l (mgL U) := Own.kept G.wa.un (Kept.setRow _ _ _) (fun k e f => G.wa.wl.rb (i := 6) (x := (v.un, 52, 30, mgL U)) rfl ((show k = b from f) ▸ e))
  refine ⟨J2, h3.add (y := (v.un, 52, 30, mgL U)) (c := n0) hw (fun k e => h2 k e At.none) (fun j g ty cs hj e => ?_), fun k e => h2 k e At.none⟩
  exact (G.li j g ty cs hj).1 (G.wa.wl.rj 6 (v.un, 52, 30, mgL U) g rfl e)
theorem Own.rebase {T : TypeId} {c : Nat} {W : World} {base base' n k : Nat} {a : Option Addr} {vs : List Value} (h : Own T c W base a k n vs) (hb : ∀ j, At a j → base' ≤ j) : Own T c W base' a k n vs := by
  refine ⟨h.1, h.2.imp id ?_⟩
  rintro ⟨g, cap, cur, hv, _, rest⟩
  refine ⟨g, cap, cur, hv, hb g ?_, rest⟩
  simp only [Value.slice.injEq] at hv
  exact ⟨_, hv.1, rfl⟩
theorem own_src {T : TypeId} {c : Nat} {W : World} {base n k : Nat} {a : Option Addr} {vs : List Value} (h : Own T c W base a k n vs) (hc : 0 < c) : (a = none → k = 0) ∧ ∀ (j : Nat) u, vs[j]? = some u → ∃ ad, a = some ad ∧ W.cell? (ad.add j) = some u := by
  rcases h.2 with ⟨hv, hn⟩ | ⟨g, cap, cur, hv, _⟩
  · simp only [Value.slice.injEq] at hv
    refine ⟨fun _ => hv.2.2, fun j u hj => ?_⟩
    have := (List.getElem?_eq_some_iff.1 hj).1
    rw [h.1, hn, Nat.zero_mul] at this
    omega
  · simp only [Value.slice.injEq] at hv
    obtain ⟨e, _, _⟩ := hv
    refine ⟨(fun f => by rw [f] at e; cases e), fun j u hj => ⟨_, e, ?_⟩⟩
    subst e
    exact World.ownsRow.cells h (by rfl) j u hj
theorem Wg.later (G : Wg w W n0 J0 J b v x mp I H U D L l T Q) {q : Nat} {lt : Sl} {V : List Mg} (ht : T[q]? = some (lt, 52, 30, mgL V)) (hb0 : ∀ k, At lt.a k → w.heap.size ≤ k) (hd : ∀ (i : Nat) y k, i ≠ q → T[i]? = some y → At y.1.a k → ¬ At lt.a k) (hl : lt.l ≤ 1000000000) {y : Mg} {g cc : Nat} (hnews : ∀ (j : Nat) u, y.cs[j]? = some u → W.cell? ((⟨g, 0, none⟩ : Addr).add j) = some u) :
    ∃ a1 k1 W2, (Builtin.append_ #[71, 71] 71 #[lt.v, .slice (some ⟨g, 0, none⟩) 1 cc]).run Try.prog W = .ok (.slice a1 (lt.l + 1) k1) W2 ∧ (∀ k, At a1 k → w.heap.size ≤ k) ∧ (∀ (i : Nat) y k, i ≠ q → T[i]? = some y → At y.1.a k → ¬ At a1 k) ∧
      Wg w W2 n0 J0 J b v x mp I H U D L l (T.set q (⟨a1, lt.l + 1, k1⟩, 52, 30, mgL (V ++ [y]))) Q := by
  have ho : Own 52 30 W w.heap.size lt.a lt.k lt.l (mgL V) := Own.rebase (G.tl q _ ht) hb0
  obtain ⟨a1, k1, W2, h, ho2, hk, hn⟩ := run_appN (w := W) 71 71 52 30 312 _ U71 I52 rfl (by decide) w.heap.size lt.l lt.k lt.a (mgL V) ho (some ⟨g, 0, none⟩) 1 cc y.cs rfl (fun e => by cases e) (fun j u hj => ⟨_, rfl, hnews j u hj⟩) y.oneL (by omega) (by omega) G.fr.kept.size
  rw [← mgL_snoc] at ho2
  have hS : ∀ k, At lt.a k → n0 ≤ k ∧ ¬ ∃ cs, Box W k 5 cs := fun k e => ⟨by have := Own.base ho e; have := G.nw; omega, fun hb => ty_ne hb (Own.ty ho e) (by decide)⟩
  have noJ : ∀ k, At lt.a k → ¬ J k := fun k e => G.tj q _ k ht e
  have nol : ∀ (i : Nat) g t cs, l[i]? = some (g, t, cs) → ¬ At lt.a g := fun i g t cs hi e => G.tb q i _ g t cs ht hi e
  have hq := (List.getElem?_eq_some_iff.1 ht).1
  have key : ∀ (i : Nat) z, (T.set q (⟨a1, lt.l + 1, k1⟩, 52, 30, mgL (V ++ [y])))[i]? = some z → (i = q ∧ z = (⟨a1, lt.l + 1, k1⟩, 52, 30, mgL (V ++ [y]))) ∨ (i ≠ q ∧ T[i]? = some z) := by
    intro i z hz
    by_cases e : q = i
    · subst e
      rw [List.getElem?_set_self hq] at hz
      exact .inl ⟨rfl, (Option.some.inj hz).symm⟩
    · rw [List.getElem?_set_ne e] at hz
      exact .inr ⟨fun f => e f.symm, hz⟩
  refine ⟨a1, k1, W2, h, fun k e => Own.base ho2 e, fun i z k hi hz e f => (hn k f).elim (hd i z k hi hz e) (fun r => by have := Own.lt (G.tl i z hz) e; omega), ⟨G.wa.kept hk (fun k e => .inr ⟨noJ k e, hS k e⟩), ⟨G.fr.kept.trans hk (fun _ e => e) (fun k hk e => by have := Own.base ho e; omega), fun i g t cs hi => (G.fr.box i g t cs hi).kept hk (nol i g t cs hi), G.fr.low, G.fr.inj⟩, G.ja, G.nw, G.li, fun i z hz => ?_, fun i z k hz e => ?_, fun i j z g t cs hz hj e => ?_, fun i z hz => (G.qs i z hz).kept hk hS⟩⟩
  · rcases key i z hz with ⟨rfl, rfl⟩ | ⟨hi, hz⟩
    · exact Own.lower ho2 (Nat.zero_le _)
    · exact Own.kept (G.tl i z hz) hk (fun k e => hd i z k hi hz e)
  · rcases key i z hz with ⟨rfl, rfl⟩ | ⟨hi, hz⟩
    · exact (hn k e).elim (noJ k) (fun r f => by have := (G.wa.wl.jl k f).2; omega)
    · exact G.tj i z k hz e
  · rcases key i z hz with ⟨rfl, rfl⟩ | ⟨hi, hz⟩
    · exact (hn _ e).elim (nol j g t cs hj) (fun r => by have := (G.fr.box j g t cs hj).lt; omega)
    · exact G.tb i j z g t cs hz hj e
theorem Wg.back (G : Wg w W n0 J0 J b v x mp I H U D L [] T Q) {q : Nat} {lt : Sl} {V : List Mg} {ps : List Pm} (ht : T[q]? = some (lt, 52, 30, mgL V)) (hb0 : ∀ k, At lt.a k → w.heap.size ≤ k) (hd : ∀ (i : Nat) y k, T'[i]? = some y → At y.1.a k → ¬ At lt.a k) (hT : ∀ y, y ∈ T' → y ∈ T) (hV : Two2 (UnM W n0) ps V) (hl : lt.l ≤ 1000000000) (hul : v.un.l ≤ 1000000000) :
    ∃ a1 k1 W2, (Builtin.append_ #[71, 71] 71 #[lt.v, v.un.v]).run Try.prog W = .ok (.slice a1 (lt.l + v.un.l) k1) W2 ∧ Box W2 b 75 v.cells ∧ ∃ J2, (∀ k, J2 k → J k ∨ w.heap.size ≤ k) ∧ Wg w (W2.setRow b (Wv.cells ⟨v.gp, v.hd, v.mm, v.aa, v.rr, v.gn, ⟨a1, lt.l + v.un.l, k1⟩, v.ds, v.ls, v.now, v.br⟩)) n0 J0 J2 b ⟨v.gp, v.hd, v.mm, v.aa, v.rr, v.gn, ⟨a1, lt.l + v.un.l, k1⟩, v.ds, v.ls, v.now, v.br⟩ { x with un := ps ++ x.un } mp I H (V ++ U) D L [] T' Q := by
  have ho : Own 52 30 W w.heap.size lt.a lt.k lt.l (mgL V) := Own.rebase (G.tl q _ ht) hb0
  obtain ⟨hx0, hxc⟩ := own_src G.wa.un (by decide)
  obtain ⟨a1, k1, W2, h, ho2, hk, hn⟩ := run_appN (w := W) 71 71 52 30 312 _ U71 I52 rfl (by decide) w.heap.size lt.l lt.k lt.a (mgL V) ho v.un.a v.un.l v.un.k (mgL U) G.wa.un.1 hx0 hxc (mgL_one _) (by omega) (by omega) G.fr.kept.size
  rw [← mgL_app] at ho2
  have hS : ∀ k, At lt.a k → n0 ≤ k ∧ ¬ ∃ cs, Box W k 5 cs := fun k e => ⟨by have := Own.base ho e; have := G.nw; omega, fun hb => ty_ne hb (Own.ty ho e) (by decide)⟩
  have noJ : ∀ k, At lt.a k → ¬ J k := fun k e => G.tj q _ k ht e
  have inT : ∀ (i : Nat) y, T'[i]? = some y → ∃ j, T[j]? = some y := fun i y hy => List.mem_iff_getElem?.1 (hT y (List.mem_of_getElem? hy))
  have G2 : Wg w W2 n0 J0 J b v x mp I H U D L [] T' Q := ⟨G.wa.kept hk (fun k e => .inr ⟨noJ k e, hS k e⟩), ⟨G.fr.kept.trans hk (fun _ e => e) (fun k hk e => by have := Own.base ho e; omega), by simp, by simp, by simp⟩, G.ja, G.nw, by simp, fun i y hy => by
      obtain ⟨j, hj⟩ := inT i y hy
      exact Own.kept (G.tl j y hj) hk (fun k e => hd i y k hy e), fun i y k hy e => by
      obtain ⟨j, hj⟩ := inT i y hy
      exact G.tj j y k hj e, by simp, fun i z hz => (G.qs i z hz).kept hk hS⟩
  have hU : Two2 (UnM W2 n0) (ps ++ x.un) (V ++ U) := by
    have hV2 := hV.mono (fun a c r => (r.kept hk hS : UnM W2 n0 a c))
    have hU2 := G2.wa.pt.un
    refine ⟨by rw [List.length_append, List.length_append, hV2.1, hU2.1], fun i a c e f => ?_⟩
    rw [List.getElem?_append] at e f
    rw [hV2.1] at e
    split at e
    · rename_i hi
      rw [if_pos hi] at f
      exact hV2.2 i a c e f
    · rename_i hi
      rw [if_neg hi] at f
      exact hU2.2 _ a c e f
  have new : ∀ k, At a1 k → ¬ J k ∧ w.heap.size ≤ k := fun k e => ⟨(hn k e).elim (noJ k) (fun r f => by have := (G.wa.wl.jl k f).2; omega), Own.base ho2 e⟩
  obtain ⟨J2, j1, _, j3⟩ := G2.adopt (s := ⟨a1, lt.l + v.un.l, k1⟩) (un2 := ps ++ x.un) (U2 := V ++ U) (Own.lower ho2 G.nw) new (by simp) (fun i y k hy e f => by
    obtain ⟨j, hj⟩ := inT i y hy
    exact (hn k f).elim (hd i y k hy e) (fun r => by have := Own.lt (G.tl j y hj) e; omega)) hU
  exact ⟨a1, k1, W2, h, G2.wbox, J2, fun k e => (j1 k e).imp id (fun f => (new k f).2), j3⟩
theorem Wg.qmem (G : Wg w W n0 J0 J b v x mp I H U D L l T Q) {y : Sl × List Int} (h : y ∈ Q) : By W n0 y.1 y.2 := by
  obtain ⟨i, hi⟩ := List.mem_iff_getElem?.1 h
  exact G.qs i y hi
end
def qOf (ps : List Pm) (ms : List Mg) : List (Sl × List Int) := (ps.zip ms).map (fun q => (q.2.bl, q.1.z))
def Eqm (ps : List Pm) (ms : List Mg) : Prop := Two2 (fun p (m : Mg) => m = { mgP p with bl := m.bl }) ps ms
theorem qOf_mem {ps : List Pm} {ms : List Mg} {i : Nat} {p : Pm} {m : Mg} (h1 : ps[i]? = some p) (h2 : ms[i]? = some m) : (m.bl, p.z) ∈ qOf ps ms := by
  unfold qOf
  refine List.mem_map.2 ⟨(p, m), List.mem_iff_getElem?.2 ⟨i, ?_⟩, rfl⟩
  rw [List.getElem?_zip_eq_some]
  exact ⟨h1, h2⟩
theorem of_unm {W : World} {n0 : Nat} {ps : List Pm} {ms : List Mg} (h : Two2 (UnM W n0) ps ms) : Eqm ps ms ∧ ∀ y, y ∈ qOf ps ms → By W n0 y.1 y.2 := by
  refine ⟨h.mono (fun a c r => r.e), fun y hy => ?_⟩
  unfold qOf at hy
  obtain ⟨⟨p, m⟩, hq, rfl⟩ := List.mem_map.1 hy
  obtain ⟨i, hi⟩ := List.mem_iff_getElem?.1 hq
  rw [List.getElem?_zip_eq_some] at hi
  exact (h.2 i p m hi.1 hi.2).b
theorem unm_of {W : World} {n0 : Nat} {ps : List Pm} {ms : List Mg} (h : Eqm ps ms) (hb : ∀ y, y ∈ qOf ps ms → By W n0 y.1 y.2) : Two2 (UnM W n0) ps ms :=
  ⟨h.1, fun i a c e f => ⟨h.2 i a c e f, hb _ (qOf_mem e f)⟩⟩
theorem qOf_snoc {ps : List Pm} {ms : List Mg} (h : ps.length = ms.length) (p : Pm) (m : Mg) : qOf (ps ++ [p]) (ms ++ [m]) = qOf ps ms ++ [(m.bl, p.z)] := by
  unfold qOf
  rw [List.zip_append h, List.map_append]
  rfl
def xsW (x1 : Wd) (up : List Bool) : Nat → Wd
  | 0 => x1
  | 1 => exK false up x1
  | _ => exK true up (exK false up x1)
theorem xs_step (x1 : Wd) (up : List Bool) {kd : Nat} (h : kd < 2) : xsW x1 up (kd + 1) = exK (kd == 1) up (xsW x1 up kd) := by
  match kd, h with
  | 0, _ => rfl
  | 1, _ => rfl
theorem xs_ok {x1 : Wd} {up : List Bool} {G : Nat → Int → Sp} {T : Nat → Option Sp} {N Lb Db R : Nat} (h : WInv x1 G T) (hq : QB N Lb Db R x1) (hl : x1.un.length ≤ 100) {kd : Nat} (hk : kd < 2) : (∃ T', WInv (xsW x1 up kd) G T') ∧ QB (N + 200) (Lb + 700) (Db + 100) (R + 100) (xsW x1 up kd) ∧ (xsW x1 up kd).un.length ≤ 100 ∧ (xsW x1 up kd).n = x1.n := by
  match kd, hk with
  | 0, _ => exact ⟨⟨T, h⟩, hq.mono (by omega) (by omega) (by omega) (by omega), hl, rfl⟩
  | 1, _ =>
    obtain ⟨T', k1, k2⟩ := exK_gro (up := up) false h
    have hf1 := (qry_fold (x := x1) (up := up) (by omega) x1.un [] (List.append_nil _).symm).1.len
    have h1 := exF_qb (up := up) false hq x1.un
    have hun : (xsW x1 up 1).un.length ≤ 100 := by
      show ((exF false up x1 x1.un).2 ++ (exF false up x1 x1.un).1.un).length ≤ _
      rw [List.length_append]
      omega
    refine ⟨⟨T', k1⟩, (⟨h1.now, h1.ls, h1.ds, h1.n, h1.rd, h1.mr, by omega, fun p hp hk => ?_⟩ : QB (N + 2 * x1.un.length) (Lb + 7 * x1.un.length) (Db + x1.un.length) (R + x1.un.length) (xsW x1 up 1)).mono (by omega) (by omega) (by omega) (by omega), hun, k2.n⟩
    have hp : p ∈ (exF false up x1 x1.un).2 ++ (exF false up x1 x1.un).1.un := hp
    rcases List.mem_append.1 hp with hp | hp
    · exact hq.n12 p (exF_2 false _ p hp) hk
    · exact h1.n12 p hp hk
theorem exW_qb {x : Wd} {c : Nat} {up : List Bool} {G : Nat → Int → Sp} {T : Nat → Option Sp} {N Lb Db R : Nat} {w : World} (h : WInv x G T) (hq : QB N Lb Db R x) (hg : x.gone c = false) (hl : x.un.length ≤ 30) : QB (N + 400) (Lb + 1400) (Db + 200) (R + 200) (exW x c up) := by
  cases hm : x.m c with
  | none => rw [exW_none hm]; exact hq.mono (by omega) (by omega) (by omega) (by omega)
  | some s =>
    rw [exW_some hm]
    have h1 := h.tick c
    have q1 := hq.tick (w := w) c (fun s hs => h.tikL hs)
    rw [tick_send hm hg] at h1 q1
    have hss : (outs (s, tikP s)).length ≤ 7 := by
      rw [outs_len]
      have e1 := h.tikL hm
      have e2 := (hq.mr c s hm).2.2
      have e3 := hq.n
      show (tikP s).ss.length ≤ 7
      omega
    have hlen := send_len (outs (s, tikP s)) x
    generalize sendW x (outs (s, tikP s)) = x1 at h1 q1 hlen
    have hf1 := (qry_fold (x := x1) (up := up) (by omega) x1.un [] (List.append_nil _).symm).1.len
    obtain ⟨T', k1, k2⟩ := exK_gro (up := up) false h1
    have q2 := exK_qb (up := up) false h1 q1 (by omega) q1.n12
    have hl2 : (exK false up x1).un.length ≤ 37 := by
      show ((exF false up x1 x1.un).2 ++ (exF false up x1 x1.un).1.un).length ≤ _
      rw [List.length_append]
      omega
    have q3 := exK_qb (up := up) true k1 q2 (by omega) q2.n12
    exact q3.mono (by omega) (by omega) (by omega) (by omega)
end Go.Proofs.Ytgiokkcdgoloaaa.Md
