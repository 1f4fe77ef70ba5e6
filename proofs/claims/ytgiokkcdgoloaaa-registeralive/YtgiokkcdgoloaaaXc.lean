import Derived.Test.YtgiokkcdgoloaaaUd
import Derived.Test.YtgiokkcdgoloaaaZa
namespace Go.Proofs.Ytgiokkcdgoloaaa.Md
open Go.RowKit
set_option linter.unusedVariables false
set_option linter.unusedSimpArgs false
abbrev Rowx := Sl × TypeId × Nat × List Value
def ifV : Option Nat → Value
  | none => .nilIface
  | some m => .iface 115 (.pointer (some ⟨m, 0, none⟩))
theorem box_one {w : World} {k : Nat} {t t' : TypeId} {cs cs' : Array Value} (h : Box w k t cs) (h' : Box w k t' cs') : t = t' := by
  unfold Box at h h'
  rw [h] at h'
  cases h'
  rfl
theorem ty_ne {w : World} {k : Nat} {t t' : TypeId} (h : ∃ cs, Box w k t cs) (h' : ∃ cs, Box w k t' cs) (hne : t ≠ t') : False := by
  obtain ⟨_, h⟩ := h; obtain ⟨_, h'⟩ := h'; exact hne (box_one h h')
structure Up5 (W : World) (J : Nat → Prop) (W2 : World) (J2 : Nat → Prop) : Prop where
  sub : ∀ k, J2 k → J k ∨ W.heap.size ≤ k
  kept : Kept (N5 W J) W W2
theorem N5.back {W W2 : World} {J J2 : Nat → Prop} (hk : Kept (N5 W J) W W2) (hs : ∀ k, J2 k → J k ∨ W.heap.size ≤ k) {k : Nat} (hl : k < W.heap.size) (h : N5 W2 J2 k) : N5 W J k :=
  ⟨(hs k h.1).elim id (fun l => absurd hl (by omega)), fun hb => h.2 (Kept.box5 hk hb)⟩
theorem Up5.trans {W W2 W3 : World} {J J2 J3 : Nat → Prop} (a : Up5 W J W2 J2) (b : Up5 W2 J2 W3 J3) : Up5 W J W3 J3 :=
  ⟨fun k e => (b.sub k e).elim (a.sub k) (fun l => .inr (Nat.le_trans a.kept.size l)), a.kept.trans b.kept (fun _ e => e) (fun k hk e => e.back a.kept a.sub hk)⟩
theorem Up5.refl (W : World) (J : Nat → Prop) : Up5 W J W J := ⟨fun _ e => .inl e, Kept.refl _ W⟩
theorem Up5.no {W W2 : World} {J : Nat → Prop} (hk : Kept No W W2) : Up5 W J W2 J := ⟨fun _ e => .inl e, hk.of_no⟩
structure By (W : World) (n0 : Nat) (s : Sl) (z : List Int) : Prop where
  rd : RdB W s z
  le : z.length ≤ 140737488351232
  wh : z ≠ [] → ∀ k, At s.a k → k < n0 ∨ ∃ cs, Box W k 5 cs
theorem By.nil (W : World) (n0 : Nat) : By W n0 slZ [] := ⟨⟨fun i hi => by simp at hi, rfl, fun _ => rfl⟩, by simp, fun h => absurd rfl h⟩
theorem By.kept {W W2 : World} {n0 : Nat} {S : Nat → Prop} {s : Sl} {z : List Int} (h : By W n0 s z) (hk : Kept S W W2) (hS : ∀ k, S k → n0 ≤ k ∧ ¬ ∃ cs, Box W k 5 cs) : By W2 n0 s z := by
  have q : z ≠ [] → ∀ k, At s.a k → ¬ S k := fun hz k e f => (h.wh hz k e).elim (fun l => by have := (hS k f).1; omega) (hS k f).2
  refine ⟨?_, h.le, fun hz k e => (h.wh hz k e).imp id (fun b => boxKept b hk (q hz k e))⟩
  by_cases hz : z = []
  · subst hz
    exact ⟨fun i hi => by simp at hi, h.rd.len, h.rd.cap⟩
  · exact h.rd.kept hk (q hz)
theorem By.up {W W2 : World} {n0 : Nat} {J J2 : Nat → Prop} {s : Sl} {z : List Int} (h : By W n0 s z) (u : Up5 W J W2 J2) (hJ : ∀ k, J k → n0 ≤ k) : By W2 n0 s z := h.kept u.kept (fun k e => ⟨hJ k e.1, e.2⟩)
theorem By.no {W W2 : World} {n0 : Nat} {s : Sl} {z : List Int} (h : By W n0 s z) (hk : Kept No W W2) : By W2 n0 s z := h.kept hk (fun _ e => e.elim)
theorem By.own {W : World} {n0 base : Nat} {a : Option Addr} {c : Nat} {z : List Int} (h : OwnB W base a c z) (hl : z.length ≤ 140737488351232) : By W n0 ⟨a, z.length, c⟩ z :=
  ⟨⟨h.bytes, rfl, fun e => Own.cap0 h e⟩, hl, fun _ k e => .inr (OwnB.five h e)⟩
structure Wl (W : World) (n0 : Nat) (J : Nat → Prop) (b : Nat) (cs : Array Value) (rs : List Rowx) (I : Nat → Nat → Prop) (ms : Nat → Option RM) (mp : Nat → Option Nat) : Prop where
  box : Box W b 75 cs
  ow : ∀ (i : Nat) x, rs[i]? = some x → Own x.2.1 x.2.2.1 W n0 x.1.a x.1.k x.1.l x.2.2.2
  ty : ∀ (i : Nat) x, rs[i]? = some x → x.2.1 ≠ 5 ∧ x.2.1 ≠ 75
  ap : ∀ (i j : Nat) x y k, rs[i]? = some x → rs[j]? = some y → At x.1.a k → At y.1.a k → i = j
  mc : ∀ c s, ms c = some s → ∃ m, mp c = some m ∧ Mch W (I c) m s
  mn : ∀ c, ms c = none → mp c = none
  ii : ∀ i j k, I i k → I j k → i = j
  ib : ∀ j k, I j k → k ≠ b
  ri : ∀ (j : Nat) k (i : Nat) x, I j k → rs[i]? = some x → ¬ At x.1.a k
  ij : ∀ j k, I j k → J k
  bj : J b
  rj : ∀ (i : Nat) x k, rs[i]? = some x → At x.1.a k → J k
  jl : ∀ k, J k → n0 ≤ k ∧ k < W.heap.size
section
variable {W W2 : World} {n0 : Nat} {J S : Nat → Prop} {b : Nat} {cs : Array Value} {rs : List Rowx} {I : Nat → Nat → Prop} {ms : Nat → Option RM} {mp : Nat → Option Nat}
theorem Wl.rty (H : Wl W n0 J b cs rs I ms mp) {i : Nat} {x : Rowx} (hx : rs[i]? = some x) {k : Nat} (e : At x.1.a k) : ∃ c, Box W k x.2.1 c := Own.ty (H.ow i x hx) e
theorem Wl.rb (H : Wl W n0 J b cs rs I ms mp) {i : Nat} {x : Rowx} (hx : rs[i]? = some x) : ¬ At x.1.a b := fun e => ty_ne (H.rty hx e) ⟨_, H.box⟩ (H.ty i x hx).2
theorem Wl.kept (H : Wl W n0 J b cs rs I ms mp) (hk : Kept S W W2) (hS : ∀ k, J k → ¬ S k) : Wl W2 n0 J b cs rs I ms mp :=
  ⟨H.box.kept hk (hS b H.bj), fun i x hx => Own.kept (H.ow i x hx) hk (fun k e => hS k (H.rj i x k hx e)), H.ty, H.ap, fun c s hs => by
    obtain ⟨m, h1, h2⟩ := H.mc c s hs
    exact ⟨m, h1, h2.kept hk (fun k e _ => ⟨hS k (H.ij c k e), e⟩)⟩, H.mn, H.ii, H.ib, H.ri, H.ij, H.bj, H.rj, fun k e => ⟨(H.jl k e).1, Nat.lt_of_lt_of_le (H.jl k e).2 hk.size⟩⟩
theorem Wl.no (H : Wl W n0 J b cs rs I ms mp) (hk : Kept No W W2) : Wl W2 n0 J b cs rs I ms mp := H.kept hk (fun _ _ e => e)
theorem Wl.b5 (H : Wl W n0 J b cs rs I ms mp) : N5 W J b := ⟨H.bj, fun h => ty_ne h ⟨_, H.box⟩ (by decide)⟩
theorem Wl.r5 (H : Wl W n0 J b cs rs I ms mp) {i : Nat} {x : Rowx} (hx : rs[i]? = some x) {k : Nat} (e : At x.1.a k) : N5 W J k := ⟨H.rj i x k hx e, fun h => ty_ne h (H.rty hx e) (fun f => (H.ty i x hx).1 f.symm)⟩
theorem Wl.put (H : Wl W n0 J b cs rs I ms mp) (cs' : Array Value) : Wl (W.setRow b cs') n0 J b cs' rs I ms mp ∧ Up5 W J (W.setRow b cs') J := by
  have hk : Kept (Only b) W (W.setRow b cs') := Kept.setRow W b cs'
  refine ⟨⟨Box.setRow H.box _, fun i x hx => Own.kept (H.ow i x hx) hk (fun k e f => H.rb hx ((show k = b from f) ▸ e)), H.ty, H.ap, fun c s hs => ?_, H.mn, H.ii, H.ib, H.ri, H.ij, H.bj, H.rj, fun k e => ⟨(H.jl k e).1, Nat.lt_of_lt_of_le (H.jl k e).2 hk.size⟩⟩, fun _ e => .inl e, hk.mono (fun k _ e => (show k = b from e) ▸ H.b5)⟩
  obtain ⟨m, h1, h2⟩ := H.mc c s hs
  exact ⟨m, h1, h2.kept hk (fun k e _ => ⟨fun f => H.ib c k e f, e⟩)⟩
theorem Wl.row (H : Wl W n0 J b cs rs I ms mp) {j : Nat} {x : Rowx} (hx : rs[j]? = some x) (hk : Kept (At x.1.a) W W2) {s : Sl} {vs : List Value} (ho : Own x.2.1 x.2.2.1 W2 n0 s.a s.k s.l vs) (hn : ∀ k, At s.a k → At x.1.a k ∨ W.heap.size ≤ k) :
    ∃ J2, Wl W2 n0 J2 b cs (rs.set j (s, x.2.1, x.2.2.1, vs)) I ms mp ∧ Up5 W J W2 J2 := by
  have hj := (List.getElem?_eq_some_iff.1 hx).1
  have key : ∀ (i : Nat) y, (rs.set j (s, x.2.1, x.2.2.1, vs))[i]? = some y → (i = j ∧ y = (s, x.2.1, x.2.2.1, vs)) ∨ (i ≠ j ∧ rs[i]? = some y) := by
    intro i y hy
    by_cases e : j = i
    · subst e
      rw [List.getElem?_set_self hj] at hy
      exact .inl ⟨rfl, (Option.some.inj hy).symm⟩
    · rw [List.getElem?_set_ne e] at hy
      exact .inr ⟨fun f => e f.symm, hy⟩
  have sn : ∀ k, At s.a k → k < W2.heap.size := fun k e => Own.lt ho e
  have noJ : ∀ k, At s.a k → J k → At x.1.a k := fun k e f => (hn k e).elim id (fun l => absurd (H.jl k f).2 (by omega))
  refine ⟨fun k => J k ∨ At s.a k, ⟨H.box.kept hk (H.rb hx), ?_, ?_, ?_, ?_, H.mn, H.ii, H.ib, ?_, fun i k e => .inl (H.ij i k e), .inl H.bj, ?_, ?_⟩, ?_, hk.mono (fun k _ e => H.r5 hx e)⟩
  · intro i y hy
    rcases key i y hy with ⟨rfl, rfl⟩ | ⟨hne, hy⟩
    · exact ho
    · exact Own.kept (H.ow i y hy) hk (fun k e f => hne (H.ap i j y x k hy hx e f))
  · intro i y hy
    rcases key i y hy with ⟨rfl, rfl⟩ | ⟨hne, hy⟩
    · exact H.ty _ x hx
    · exact H.ty i y hy
  · intro i q y z k hy hz e f
    rcases key i y hy with ⟨e1, e2⟩ | ⟨hne, hy'⟩ <;> rcases key q z hz with ⟨f1, f2⟩ | ⟨hne2, hz'⟩
    · rw [e1, f1]
    · rw [e2] at e
      exact absurd (H.ap _ _ _ _ k hx hz' (noJ k e (H.rj q z k hz' f)) f).symm hne2
    · rw [f2] at f
      exact absurd (H.ap _ _ _ _ k hy' hx e (noJ k f (H.rj i y k hy' e))) hne
    · exact H.ap i q y z k hy' hz' e f
  · intro c s' hs
    obtain ⟨m, h1, h2⟩ := H.mc c s' hs
    exact ⟨m, h1, h2.kept hk (fun k e _ => ⟨fun f => H.ri c k j x e hx f, e⟩)⟩
  · intro q k i y e hy
    rcases key i y hy with ⟨rfl, rfl⟩ | ⟨hne, hy⟩
    · exact fun f => H.ri q k _ x e hx (noJ k f (H.ij q k e))
    · exact H.ri q k i y e hy
  · intro i y k hy e
    rcases key i y hy with ⟨rfl, rfl⟩ | ⟨hne, hy⟩
    · exact .inr e
    · exact .inl (H.rj i y k hy e)
  · rintro k (e | e)
    · exact ⟨(H.jl k e).1, Nat.lt_of_lt_of_le (H.jl k e).2 hk.size⟩
    · exact ⟨Own.base ho e, sn k e⟩
  · rintro k (e | e)
    · exact .inl e
    · exact (hn k e).imp (H.rj j x k hx) id
theorem Wl.make (H : Wl W n0 J b cs rs I ms mp) {c : Nat} (hs : ms c = none) {s : RM} {e : Ending} (hN : NewM W s e W2) : ∃ m I2 J2, e = .returned (ifV (some m)) ∧ Wl W2 n0 J2 b cs rs I2 (upN ms c (some s)) (upN mp c (some m)) ∧ Up5 W J W2 J2 := by
  obtain ⟨m, I', he, hM, hI, hK⟩ := hN
  have n0J : n0 ≤ W.heap.size := by have := H.jl b H.bj; omega
  have H2 := H.no hK
  refine ⟨m, fun i k => (i = c ∧ I' k) ∨ (i ≠ c ∧ I i k), fun k => J k ∨ I' k, he, ⟨H2.box, H2.ow, H.ty, H.ap, ?_, ?_, ?_, ?_, ?_, ?_, .inl H.bj, fun i x k hx e => .inl (H.rj i x k hx e), ?_⟩, ?_, hK.of_no⟩
  · intro i t ht
    unfold upN at ht ⊢
    by_cases e : i = c
    · subst e
      rw [if_pos rfl] at ht ⊢
      cases ht
      exact ⟨m, rfl, hM.wide (fun k e => .inl ⟨rfl, e⟩)⟩
    · rw [if_neg e] at ht ⊢
      obtain ⟨m', h1, h2⟩ := H2.mc i t ht
      exact ⟨m', h1, h2.wide (fun k f => .inr ⟨e, f⟩)⟩
  · intro i hi
    unfold upN at hi ⊢
    by_cases e : i = c
    · subst e; rw [if_pos rfl] at hi; cases hi
    · rw [if_neg e] at hi ⊢; exact H.mn i hi
  · rintro i q k (⟨rfl, e⟩ | ⟨e1, e⟩) (⟨rfl, f⟩ | ⟨f1, f⟩)
    · rfl
    · have := hI k e; have := (H.jl k (H.ij q k f)).2; omega
    · have := hI k f; have := (H.jl k (H.ij i k e)).2; omega
    · exact H.ii i q k e f
  · rintro i k (⟨rfl, e⟩ | ⟨e1, e⟩)
    · have := hI k e; have := (H.jl b H.bj).2; omega
    · exact H.ib i k e
  · rintro q k i x (⟨rfl, e⟩ | ⟨e1, e⟩) hx f
    · have := hI k e; have := (H.jl k (H.rj i x k hx f)).2; omega
    · exact H.ri q k i x e hx f
  · rintro q k (⟨rfl, e⟩ | ⟨e1, e⟩)
    · exact .inr e
    · exact .inl (H.ij q k e)
  · rintro k (e | e)
    · exact ⟨(H.jl k e).1, Nat.lt_of_lt_of_le (H.jl k e).2 hK.size⟩
    · have := hI k e; exact ⟨by omega, this.2⟩
  · rintro k (e | e)
    · exact .inl e
    · exact .inr (hI k e).1
theorem Wl.drop (H : Wl W n0 J b cs rs I ms mp) (c : Nat) : Wl W n0 J b cs rs (fun i k => i ≠ c ∧ I i k) (upN ms c none) (upN mp c none) := by
  refine ⟨H.box, H.ow, H.ty, H.ap, fun i t ht => ?_, fun i hi => ?_, fun i q k e f => H.ii i q k e.2 f.2, fun i k e => H.ib i k e.2, fun q k i x e hx => H.ri q k i x e.2 hx, fun q k e => H.ij q k e.2, H.bj, H.rj, H.jl⟩
  · unfold upN at ht ⊢
    by_cases e : i = c
    · subst e; rw [if_pos rfl] at ht; cases ht
    · rw [if_neg e] at ht ⊢
      obtain ⟨m', h1, h2⟩ := H.mc i t ht
      exact ⟨m', h1, h2.wide (fun k f => ⟨e, f⟩)⟩
  · unfold upN at hi ⊢
    by_cases e : i = c
    · rw [if_pos e]
    · rw [if_neg e] at hi ⊢; exact H.mn i hi
end
end Go.Proofs.Ytgiokkcdgoloaaa.Md
namespace Go.Proofs.Ytgiokkcdgoloaaa.Md
open Go.RowKit
set_option linter.unusedVariables false
set_option linter.unusedSimpArgs false
structure Wv where
  gp : Sl
  hd : Sl
  mm : Sl
  aa : Sl
  rr : Sl
  gn : Sl
  un : Sl
  ds : Sl
  ls : Sl
  now : Int
  br : Bool
def Wv.cs (x : Wv) : List Value := [x.gp.v, x.hd.v, x.mm.v, x.aa.v, x.rr.v, x.gn.v, x.un.v, x.ds.v, x.ls.v, .int .i64 x.now, .bool x.br]
def Wv.cells (x : Wv) : Array Value := x.cs.toArray
structure Dv where
  wr : Bool
  cl : Int
  beg : Int
  en : Int
  da : Sl
  r : Rz
def Dv.cs (x : Dv) : List Value := [.bool x.wr, .int .i64 x.cl, .int .i64 x.beg, .int .i64 x.en, x.da.v] ++ x.r.cs
def Dv.cells (x : Dv) : Array Value := x.cs.toArray
structure Lv where
  t : Sp
  d : Sl
def Lv.cs (x : Lv) : List Value := x.t.cs ++ [x.d.v]
def Lv.cells (x : Lv) : Array Value := x.cs.toArray
def itL (l : List Int) : List Value := l.map (Value.int .i64)
def bnL (l : List Bool) : List Value := l.map Value.bool
def ifL (l : List (Option Nat)) : List Value := l.map ifV
def bkL (l : List Bl) : List Value := (l.map Bl.cs).flatten
def dvL (l : List Dv) : List Value := (l.map Dv.cs).flatten
def lvL (l : List Lv) : List Value := (l.map Lv.cs).flatten
theorem bkL_c (l : List Bl) : ∀ x ∈ l.map Bl.cs, x.length = 3 := by intro x hx; obtain ⟨s, _, rfl⟩ := List.mem_map.1 hx; rfl
theorem dvL_c (l : List Dv) : ∀ x ∈ l.map Dv.cs, x.length = 16 := by intro x hx; obtain ⟨s, _, rfl⟩ := List.mem_map.1 hx; rfl
theorem lvL_c (l : List Lv) : ∀ x ∈ l.map Lv.cs, x.length = 3 := by intro x hx; obtain ⟨s, _, rfl⟩ := List.mem_map.1 hx; rfl
def c4 {α : Type} (f : Nat → α) : List α := [f 0, f 1, f 2, f 3]
def c4i (f : Nat → Nat) : List Int := c4 (fun c => (f c : Int))
theorem c4_get {α : Type} (f : Nat → α) {c : Nat} (h : c < 4) : (c4 f)[c]? = some (f c) := by
  rcases c with _ | _ | _ | _ | c
  · rfl
  · rfl
  · rfl
  · rfl
  · omega
theorem c4_up {α : Type} (f : Nat → α) {c : Nat} (h : c < 4) (v : α) : c4 (upN f c v) = (c4 f).set c v := by
  rcases c with _ | _ | _ | _ | c
  · rfl
  · rfl
  · rfl
  · rfl
  · omega
def rows (v : Wv) (x : Wd) (mp : Nat → Option Nat) (H : List Bl) (U : List Mg) (D : List Dv) (L : List Lv) : List Rowx :=
  [(v.gp, 3, 1, itL (wdG x)), (v.hd, 57, 3, bkL H), (v.mm, 31, 1, ifL (c4 mp)), (v.aa, 3, 1, itL (c4i x.at')), (v.rr, 3, 1, itL (c4 x.rd)), (v.gn, 4, 1, bnL (c4 x.gone)), (v.un, 52, 30, mgL U), (v.ds, 109, 16, dvL D), (v.ls, 147, 3, lvL L)]
structure HdM (W : World) (n0 : Nat) (p : Bp) (v : Bl) : Prop where
  s : v.s = p.st
  b : By W n0 v.d p.z
structure UnM (W : World) (n0 : Nat) (p : Pm) (v : Mg) : Prop where
  e : v = { mgP p with bl := v.bl }
  b : By W n0 v.bl p.z
structure DdM (W : World) (n0 : Nat) (p : Dd) (v : Dv) : Prop where
  e : v = ⟨p.wr, p.cl, p.beg, p.en, v.da, ⟨p.er, enZ, slZ, v.r.da, 0, p.st, 0⟩⟩
  b : By W n0 v.da p.z
  c : By W n0 v.r.da p.rz
structure LdM (W : World) (n0 : Nat) (p : Sp × List Int) (v : Lv) : Prop where
  s : v.t = p.1
  b : By W n0 v.d p.2
def hdsW (x : Wd) : List Bp := (List.range x.n).map (fun (i : Nat) => x.held ((i : Int) + 1))
structure Pts (W : World) (n0 : Nat) (x : Wd) (H : List Bl) (U : List Mg) (D : List Dv) (L : List Lv) : Prop where
  hd : Two2 (HdM W n0) (hdsW x) H
  un : Two2 (UnM W n0) x.un U
  ds : Two2 (DdM W n0) x.ds D
  ls : Two2 (LdM W n0) x.ls L
theorem _root_.Go.Proofs.Ytgiokkcdgoloaaa.Two2.mono {α β : Type} {R R' : α → β → Prop} {l : List α} {k : List β} (h : Two2 R l k) (hR : ∀ a b, R a b → R' a b) : Two2 R' l k := ⟨h.1, fun i a b e f => hR a b (h.2 i a b e f)⟩
theorem _root_.Go.Proofs.Ytgiokkcdgoloaaa.Two2.snoc {α β : Type} {R : α → β → Prop} {l : List α} {k : List β} (h : Two2 R l k) {a : α} {b : β} (hR : R a b) : Two2 R (l ++ [a]) (k ++ [b]) := by
  have hl := h.1
  refine ⟨by rw [List.length_append, List.length_append, h.1]; rfl, fun i a' b' e f => ?_⟩
  rw [List.getElem?_append] at e f
  by_cases hi : i < l.length
  · rw [if_pos hi] at e
    rw [if_pos (by omega)] at f
    exact h.2 i a' b' e f
  · rw [if_neg hi] at e
    rw [if_neg (by omega)] at f
    have e1 := List.mem_of_getElem? e
    have f1 := List.mem_of_getElem? f
    simp at e1 f1
    rw [e1, f1]
    exact hR
theorem _root_.Go.Proofs.Ytgiokkcdgoloaaa.Two2.at {α β : Type} {R : α → β → Prop} {l : List α} {k : List β} (h : Two2 R l k) {i : Nat} {a : α} (e : l[i]? = some a) : ∃ b, k[i]? = some b ∧ R a b := by
  have hi := (List.getElem?_eq_some_iff.1 e).1
  have hk : k[i]? = some (k[i]'(by rw [← h.1]; exact hi)) := List.getElem?_eq_getElem _
  exact ⟨_, hk, h.2 i _ _ e hk⟩
theorem _root_.Go.Proofs.Ytgiokkcdgoloaaa.Two2.set {α β : Type} {R : α → β → Prop} {l : List α} {k : List β} (h : Two2 R l k) (i : Nat) {a : α} {b : β} (hR : R a b) : Two2 R (l.set i a) (k.set i b) := by
  refine ⟨by rw [List.length_set, List.length_set, h.1], fun j a' b' e f => ?_⟩
  rw [List.getElem?_set] at e f
  by_cases hi : i = j
  · rw [if_pos hi] at e f
    split at e
    · split at f
      · cases e; cases f; exact hR
      · cases f
    · cases e
  · rw [if_neg hi] at e f
    exact h.2 j a' b' e f
theorem _root_.Go.Proofs.Ytgiokkcdgoloaaa.Two2.cut {α β : Type} {R : α → β → Prop} {l : List α} {k : List β} (h : Two2 R l k) (i : Nat) : Two2 R (l.take i ++ l.drop (i + 1)) (k.take i ++ k.drop (i + 1)) := by
  have hl := h.1
  refine ⟨by simp only [List.length_append, List.length_take, List.length_drop]; omega, fun j a b e f => ?_⟩
  rw [List.getElem?_append] at e f
  simp only [List.length_take] at e f
  by_cases hj : j < min i l.length
  · rw [if_pos hj] at e
    rw [if_pos (by omega)] at f
    rw [List.getElem?_take, if_pos (by omega)] at e f
    exact h.2 j a b e f
  · rw [if_neg hj] at e
    rw [if_neg (by omega)] at f
    rw [List.getElem?_drop] at e f
    rw [show min i k.length = min i l.length by omega] at f
    exact h.2 _ a b e f
section
variable {W W2 : World} {n0 : Nat} {S J J2 : Nat → Prop} {x : Wd} {H : List Bl} {U : List Mg} {D : List Dv} {L : List Lv}
theorem UnM.kept {p : Pm} {v : Mg} (h : UnM W n0 p v) (hk : Kept S W W2) (hS : ∀ k, S k → n0 ≤ k ∧ ¬ ∃ cs, Box W k 5 cs) : UnM W2 n0 p v := ⟨h.e, h.b.kept hk hS⟩
theorem Pts.kept (h : Pts W n0 x H U D L) (hk : Kept S W W2) (hS : ∀ k, S k → n0 ≤ k ∧ ¬ ∃ cs, Box W k 5 cs) : Pts W2 n0 x H U D L :=
  ⟨h.hd.mono (fun a b r => ⟨r.s, r.b.kept hk hS⟩), h.un.mono (fun a b r => r.kept hk hS), h.ds.mono (fun a b r => ⟨r.e, r.b.kept hk hS, r.c.kept hk hS⟩), h.ls.mono (fun a b r => ⟨r.s, r.b.kept hk hS⟩)⟩
theorem Pts.up (h : Pts W n0 x H U D L) (u : Up5 W J W2 J2) (hJ : ∀ k, J k → n0 ≤ k) : Pts W2 n0 x H U D L := h.kept u.kept (fun k e => ⟨hJ k e.1, e.2⟩)
end
structure WA (W : World) (n0 : Nat) (J : Nat → Prop) (b : Nat) (v : Wv) (x : Wd) (mp : Nat → Option Nat) (I : Nat → Nat → Prop) (H : List Bl) (U : List Mg) (D : List Dv) (L : List Lv) : Prop where
  wl : Wl W n0 J b v.cells (rows v x mp H U D L) I x.m mp
  pt : Pts W n0 x H U D L
  now : v.now = x.now
  br : v.br = x.br
def WAt (W : World) (n0 : Nat) (J : Nat → Prop) (b : Nat) (x : Wd) : Prop := ∃ v mp I H U D L, WA W n0 J b v x mp I H U D L
section
variable {W W2 W3 : World} {n0 : Nat} {S J J2 : Nat → Prop} {b : Nat} {v : Wv} {x : Wd} {mp : Nat → Option Nat} {I : Nat → Nat → Prop} {H : List Bl} {U : List Mg} {D : List Dv} {L : List Lv}
theorem WA.n0J (h : WA W n0 J b v x mp I H U D L) : ∀ k, J k → n0 ≤ k := fun k e => (h.wl.jl k e).1
theorem WA.kept (h : WA W n0 J b v x mp I H U D L) (hk : Kept S W W2) (hS : ∀ k, S k → W.heap.size ≤ k ∨ (¬ J k ∧ n0 ≤ k ∧ ¬ ∃ cs, Box W k 5 cs)) : WA W2 n0 J b v x mp I H U D L := by
  have hk' : Kept (fun k => S k ∧ k < W.heap.size) W W2 := hk.mono (fun k hl e => ⟨e, hl⟩)
  exact ⟨h.wl.kept hk' (fun k e f => (hS k f.1).elim (fun l => absurd f.2 (by omega)) (fun g => g.1 e)), h.pt.kept hk' (fun k f => (hS k f.1).elim (fun l => absurd f.2 (by omega)) (fun g => g.2)), h.now, h.br⟩
theorem WA.no (h : WA W n0 J b v x mp I H U D L) (hk : Kept No W W2) : WA W2 n0 J b v x mp I H U D L := h.kept hk (fun _ e => e.elim)
theorem WA.gp (h : WA W n0 J b v x mp I H U D L) : Own 3 1 W n0 v.gp.a v.gp.k v.gp.l (itL (wdG x)) := h.wl.ow 0 _ rfl
theorem WA.hd (h : WA W n0 J b v x mp I H U D L) : Own 57 3 W n0 v.hd.a v.hd.k v.hd.l (bkL H) := h.wl.ow 1 _ rfl
theorem WA.mm (h : WA W n0 J b v x mp I H U D L) : Own 31 1 W n0 v.mm.a v.mm.k v.mm.l (ifL (c4 mp)) := h.wl.ow 2 _ rfl
theorem WA.aa (h : WA W n0 J b v x mp I H U D L) : Own 3 1 W n0 v.aa.a v.aa.k v.aa.l (itL (c4i x.at')) := h.wl.ow 3 _ rfl
theorem WA.rr (h : WA W n0 J b v x mp I H U D L) : Own 3 1 W n0 v.rr.a v.rr.k v.rr.l (itL (c4 x.rd)) := h.wl.ow 4 _ rfl
theorem WA.gn (h : WA W n0 J b v x mp I H U D L) : Own 4 1 W n0 v.gn.a v.gn.k v.gn.l (bnL (c4 x.gone)) := h.wl.ow 5 _ rfl
theorem WA.un (h : WA W n0 J b v x mp I H U D L) : Own 52 30 W n0 v.un.a v.un.k v.un.l (mgL U) := h.wl.ow 6 _ rfl
theorem WA.ds (h : WA W n0 J b v x mp I H U D L) : Own 109 16 W n0 v.ds.a v.ds.k v.ds.l (dvL D) := h.wl.ow 7 _ rfl
theorem WA.ls (h : WA W n0 J b v x mp I H U D L) : Own 147 3 W n0 v.ls.a v.ls.k v.ls.l (lvL L) := h.wl.ow 8 _ rfl
theorem WA.ul (h : WA W n0 J b v x mp I H U D L) : U.length = v.un.l := by
  have := h.un.1
  unfold mgL at this
  rw [flat_len 30 _ (mgL_c U), List.length_map] at this
  omega
theorem WA.dl (h : WA W n0 J b v x mp I H U D L) : D.length = v.ds.l := by
  have := h.ds.1
  unfold dvL at this
  rw [flat_len 16 _ (dvL_c D), List.length_map] at this
  omega
theorem WA.ll (h : WA W n0 J b v x mp I H U D L) : L.length = v.ls.l := by
  have := h.ls.1
  unfold lvL at this
  rw [flat_len 3 _ (lvL_c L), List.length_map] at this
  omega
theorem WA.hl (h : WA W n0 J b v x mp I H U D L) : H.length = v.hd.l := by
  have := h.hd.1
  unfold bkL at this
  rw [flat_len 3 _ (bkL_c H), List.length_map] at this
  omega
theorem WA.hn (h : WA W n0 J b v x mp I H U D L) : v.hd.l = x.n := by
  rw [← h.hl, ← h.pt.hd.1]
  simp [hdsW]
theorem WA.flag (h : WA W n0 J b v x mp I H U D L) (n : Int) (br : Bool) : WA (W.setRow b (Wv.cells ⟨v.gp, v.hd, v.mm, v.aa, v.rr, v.gn, v.un, v.ds, v.ls, n, br⟩)) n0 J b ⟨v.gp, v.hd, v.mm, v.aa, v.rr, v.gn, v.un, v.ds, v.ls, n, br⟩ { x with now := n, br := br } mp I H U D L ∧ Up5 W J (W.setRow b (Wv.cells ⟨v.gp, v.hd, v.mm, v.aa, v.rr, v.gn, v.un, v.ds, v.ls, n, br⟩)) J := by
  obtain ⟨h1, h2⟩ := h.wl.put (Wv.cells ⟨v.gp, v.hd, v.mm, v.aa, v.rr, v.gn, v.un, v.ds, v.ls, n, br⟩)
  have p := h.pt.up h2 h.n0J
  exact ⟨⟨h1, ⟨p.hd, p.un, p.ds, p.ls⟩, rfl, rfl⟩, h2⟩
theorem WA.setU (h : WA W n0 J b v x mp I H U D L) (hk : Kept (At v.un.a) W W2) {s : Sl} {U2 : List Mg} {un2 : List Pm} (ho : Own 52 30 W2 n0 s.a s.k s.l (mgL U2)) (hn : ∀ k, At s.a k → At v.un.a k ∨ W.heap.size ≤ k) (hU : Two2 (UnM W2 n0) un2 U2) :
    ∃ J2, WA (W2.setRow b (Wv.cells ⟨v.gp, v.hd, v.mm, v.aa, v.rr, v.gn, s, v.ds, v.ls, v.now, v.br⟩)) n0 J2 b ⟨v.gp, v.hd, v.mm, v.aa, v.rr, v.gn, s, v.ds, v.ls, v.now, v.br⟩ { x with un := un2 } mp I H U2 D L ∧ Up5 W J (W2.setRow b (Wv.cells ⟨v.gp, v.hd, v.mm, v.aa, v.rr, v.gn, s, v.ds, v.ls, v.now, v.br⟩)) J2 ∧ Box W2 b 75 v.cells := by
  obtain ⟨J2, h1, h2⟩ := h.wl.row (j := 6) (x := (v.un, 52, 30, mgL U)) rfl hk (s := s) ho hn
  obtain ⟨h3, h4⟩ := h1.put (Wv.cells ⟨v.gp, v.hd, v.mm, v.aa, v.rr, v.gn, s, v.ds, v.ls, v.now, v.br⟩)
  have u := h2.trans h4
  have p := h.pt.up u h.n0J
  refine ⟨J2, ⟨h3, ⟨p.hd, hU.mono (fun a c r => r.kept h4.kept (fun k e => ⟨(h1.jl k e.1).1, e.2⟩)), p.ds, p.ls⟩, h.now, h.br⟩, u, h1.box⟩
theorem WA.setD (h : WA W n0 J b v x mp I H U D L) (hk : Kept (At v.ds.a) W W2) {s : Sl} {D2 : List Dv} {ds2 : List Dd} (ho : Own 109 16 W2 n0 s.a s.k s.l (dvL D2)) (hn : ∀ k, At s.a k → At v.ds.a k ∨ W.heap.size ≤ k) (hU : Two2 (DdM W2 n0) ds2 D2) :
    ∃ J2, WA (W2.setRow b (Wv.cells ⟨v.gp, v.hd, v.mm, v.aa, v.rr, v.gn, v.un, s, v.ls, v.now, v.br⟩)) n0 J2 b ⟨v.gp, v.hd, v.mm, v.aa, v.rr, v.gn, v.un, s, v.ls, v.now, v.br⟩ { x with ds := ds2 } mp I H U D2 L ∧ Up5 W J (W2.setRow b (Wv.cells ⟨v.gp, v.hd, v.mm, v.aa, v.rr, v.gn, v.un, s, v.ls, v.now, v.br⟩)) J2 ∧ Box W2 b 75 v.cells := by
  obtain ⟨J2, h1, h2⟩ := h.wl.row (j := 7) (x := (v.ds, 109, 16, dvL D)) rfl hk (s := s) ho hn
  obtain ⟨h3, h4⟩ := h1.put (Wv.cells ⟨v.gp, v.hd, v.mm, v.aa, v.rr, v.gn, v.un, s, v.ls, v.now, v.br⟩)
  have u := h2.trans h4
  have p := h.pt.up u h.n0J
  refine ⟨J2, ⟨h3, ⟨p.hd, p.un, hU.mono (fun a c r => ⟨r.e, r.b.up h4 (fun k e => (h1.jl k e).1), r.c.up h4 (fun k e => (h1.jl k e).1)⟩), p.ls⟩, h.now, h.br⟩, u, h1.box⟩
theorem WA.setL (h : WA W n0 J b v x mp I H U D L) (hk : Kept (At v.ls.a) W W2) {s : Sl} {L2 : List Lv} {ls2 : List (Sp × List Int)} (ho : Own 147 3 W2 n0 s.a s.k s.l (lvL L2)) (hn : ∀ k, At s.a k → At v.ls.a k ∨ W.heap.size ≤ k) (hU : Two2 (LdM W2 n0) ls2 L2) :
    ∃ J2, WA (W2.setRow b (Wv.cells ⟨v.gp, v.hd, v.mm, v.aa, v.rr, v.gn, v.un, v.ds, s, v.now, v.br⟩)) n0 J2 b ⟨v.gp, v.hd, v.mm, v.aa, v.rr, v.gn, v.un, v.ds, s, v.now, v.br⟩ { x with ls := ls2 } mp I H U D L2 ∧ Up5 W J (W2.setRow b (Wv.cells ⟨v.gp, v.hd, v.mm, v.aa, v.rr, v.gn, v.un, v.ds, s, v.now, v.br⟩)) J2 ∧ Box W2 b 75 v.cells := by
  obtain ⟨J2, h1, h2⟩ := h.wl.row (j := 8) (x := (v.ls, 147, 3, lvL L)) rfl hk (s := s) ho hn
  obtain ⟨h3, h4⟩ := h1.put (Wv.cells ⟨v.gp, v.hd, v.mm, v.aa, v.rr, v.gn, v.un, v.ds, s, v.now, v.br⟩)
  have u := h2.trans h4
  have p := h.pt.up u h.n0J
  refine ⟨J2, ⟨h3, ⟨p.hd, p.un, p.ds, hU.mono (fun a c r => ⟨r.s, r.b.up h4 (fun k e => (h1.jl k e).1)⟩)⟩, h.now, h.br⟩, u, h1.box⟩
theorem WA.setH (h : WA W n0 J b v x mp I H U D L) (hk : Kept (At v.hd.a) W W2) {H2 : List Bl} {hl2 : Int → Bp} (ho : Own 57 3 W2 n0 v.hd.a v.hd.k v.hd.l (bkL H2)) (hU : Two2 (HdM W2 n0) (hdsW { x with held := hl2 }) H2) :
    ∃ J2, WA W2 n0 J2 b v { x with held := hl2 } mp I H2 U D L ∧ Up5 W J W2 J2 := by
  obtain ⟨J2, h1, h2⟩ := h.wl.row (j := 1) (x := (v.hd, 57, 3, bkL H)) rfl hk (s := v.hd) ho (fun k e => .inl e)
  have p := h.pt.up h2 h.n0J
  exact ⟨J2, ⟨h1, ⟨hU, p.un, p.ds, p.ls⟩, h.now, h.br⟩, h2⟩
theorem WA.setE (h : WA W n0 J b v x mp I H U D L) (hk : Kept (At v.ds.a) W W2) {D2 : List Dv} {ds2 : List Dd} (ho : Own 109 16 W2 n0 v.ds.a v.ds.k v.ds.l (dvL D2)) (hU : Two2 (DdM W2 n0) ds2 D2) :
    ∃ J2, WA W2 n0 J2 b v { x with ds := ds2 } mp I H U D2 L ∧ Up5 W J W2 J2 := by
  obtain ⟨J2, h1, h2⟩ := h.wl.row (j := 7) (x := (v.ds, 109, 16, dvL D)) rfl hk (s := v.ds) ho (fun k e => .inl e)
  have p := h.pt.up h2 h.n0J
  exact ⟨J2, ⟨h1, ⟨p.hd, p.un, hU, p.ls⟩, h.now, h.br⟩, h2⟩
theorem WA.setA (h : WA W n0 J b v x mp I H U D L) (hk : Kept (At v.aa.a) W W2) {f : Nat → Nat} (ho : Own 3 1 W2 n0 v.aa.a v.aa.k v.aa.l (itL (c4i f))) :
    ∃ J2, WA W2 n0 J2 b v { x with at' := f } mp I H U D L ∧ Up5 W J W2 J2 := by
  obtain ⟨J2, h1, h2⟩ := h.wl.row (j := 3) (x := (v.aa, 3, 1, itL (c4i x.at'))) rfl hk (s := v.aa) ho (fun k e => .inl e)
  have p := h.pt.up h2 h.n0J
  exact ⟨J2, ⟨h1, ⟨p.hd, p.un, p.ds, p.ls⟩, h.now, h.br⟩, h2⟩
theorem WA.setR (h : WA W n0 J b v x mp I H U D L) (hk : Kept (At v.rr.a) W W2) {f : Nat → Int} (ho : Own 3 1 W2 n0 v.rr.a v.rr.k v.rr.l (itL (c4 f))) :
    ∃ J2, WA W2 n0 J2 b v { x with rd := f } mp I H U D L ∧ Up5 W J W2 J2 := by
  obtain ⟨J2, h1, h2⟩ := h.wl.row (j := 4) (x := (v.rr, 3, 1, itL (c4 x.rd))) rfl hk (s := v.rr) ho (fun k e => .inl e)
  have p := h.pt.up h2 h.n0J
  exact ⟨J2, ⟨h1, ⟨p.hd, p.un, p.ds, p.ls⟩, h.now, h.br⟩, h2⟩
theorem WA.setG (h : WA W n0 J b v x mp I H U D L) (hk : Kept (At v.gn.a) W W2) {f : Nat → Bool} (ho : Own 4 1 W2 n0 v.gn.a v.gn.k v.gn.l (bnL (c4 f))) :
    ∃ J2, WA W2 n0 J2 b v { x with gone := f } mp I H U D L ∧ Up5 W J W2 J2 := by
  obtain ⟨J2, h1, h2⟩ := h.wl.row (j := 5) (x := (v.gn, 4, 1, bnL (c4 x.gone))) rfl hk (s := v.gn) ho (fun k e => .inl e)
  have p := h.pt.up h2 h.n0J
  exact ⟨J2, ⟨h1, ⟨p.hd, p.un, p.ds, p.ls⟩, h.now, h.br⟩, h2⟩
end
end Go.Proofs.Ytgiokkcdgoloaaa.Md
namespace Go.Proofs.Ytgiokkcdgoloaaa.Md
open Go.RowKit
set_option linter.unusedVariables false
set_option linter.unusedSimpArgs false
structure Wg (w W : World) (n0 : Nat) (J0 J : Nat → Prop) (b : Nat) (v : Wv) (x : Wd) (mp : Nat → Option Nat) (I : Nat → Nat → Prop) (H : List Bl) (U : List Mg) (D : List Dv) (L : List Lv) (l : List (Nat × TypeId × Array Value)) (T : List Rowx) (Q : List (Sl × List Int)) : Prop where
  wa : WA W n0 J b v x mp I H U D L
  fr : Fq (N5 w J0) w W l
  ja : ∀ k, J k → J0 k ∨ w.heap.size ≤ k
  nw : n0 ≤ w.heap.size
  li : ∀ (i : Nat) g t cs, l[i]? = some (g, t, cs) → ¬ J g ∧ w.heap.size ≤ g ∧ t ≠ 5
  tl : ∀ (i : Nat) y, T[i]? = some y → Own y.2.1 y.2.2.1 W 0 y.1.a y.1.k y.1.l y.2.2.2
  tj : ∀ (i : Nat) y k, T[i]? = some y → At y.1.a k → ¬ J k
  tb : ∀ (i j : Nat) y g t cs, T[i]? = some y → l[j]? = some (g, t, cs) → ¬ At y.1.a g
  qs : ∀ (i : Nat) y, Q[i]? = some y → By W n0 y.1 y.2
section
variable {w W W' : World} {n0 : Nat} {J0 J J2 S : Nat → Prop} {b : Nat} {v v2 : Wv} {x x2 : Wd} {mp mp2 : Nat → Option Nat} {I I2 : Nat → Nat → Prop} {H H2 : List Bl} {U U2 : List Mg} {D D2 : List Dv} {L L2 : List Lv} {l l2 : List (Nat × TypeId × Array Value)} {T T' : List Rowx} {Q Q' : List (Sl × List Int)}
theorem Wg.box (G : Wg w W n0 J0 J b v x mp I H U D L l T Q) : ∀ (i : Nat) g T cs, l[i]? = some (g, T, cs) → Box W g T cs := G.fr.box
theorem Wg.wbox (G : Wg w W n0 J0 J b v x mp I H U D L l T Q) : Box W b 75 v.cells := G.wa.wl.box
theorem Wg.low (G : Wg w W n0 J0 J b v x mp I H U D L l T Q) : ∀ (i : Nat) g t cs, l[i]? = some (g, t, cs) → w.heap.size ≤ g := fun i g t cs hi => (G.li i g t cs hi).2.1
theorem Wg.ne (G : Wg w W n0 J0 J b v x mp I H U D L l T Q) (i j : Nat) {g g' : Nat} {T T' : TypeId} {cs cs' : Array Value} (hi : l[i]? = some (g, T, cs)) (hj : l[j]? = some (g', T', cs')) (hne : i ≠ j) : g ≠ g' := G.fr.ne i j hi hj hne
theorem Wg.no (G : Wg w W n0 J0 J b v x mp I H U D L l T Q) (hk : Kept No W W') : Wg w W' n0 J0 J b v x mp I H U D L l T Q :=
  ⟨G.wa.no hk, G.fr.no hk, G.ja, G.nw, G.li, fun i y hy => Own.no (G.tl i y hy) hk, G.tj, G.tb, fun i y hy => (G.qs i y hy).no hk⟩
theorem Wg.drew (G : Wg w W n0 J0 J b v x mp I H U D L l T Q) : Wg w W.drew n0 J0 J b v x mp I H U D L l T Q := G.no (Kept.refl No W).drew
theorem Wg.alloc (G : Wg w W n0 J0 J b v x mp I H U D L l T Q) (t : TypeId) (cs : Array Value) (h5 : t ≠ 5 := by decide) : Wg w (W.alloc (.cells cs t)) n0 J0 J b v x mp I H U D L (l ++ [(W.heap.size, t, cs)]) T Q := by
  have hk : Kept No W (W.alloc (.cells cs t)) := (Kept.refl No W).alloc _
  have h1 := G.no hk
  have key : ∀ (j : Nat) g t' cs', (l ++ [(W.heap.size, t, cs)])[j]? = some (g, t', cs') → l[j]? = some (g, t', cs') ∨ (g = W.heap.size ∧ t' = t) := by
    intro j g t' cs' hj
    rw [List.getElem?_append] at hj
    split at hj
    · exact .inl hj
    · have := List.mem_of_getElem? hj
      simp at this
      exact .inr ⟨this.1, this.2.1⟩
  refine ⟨h1.wa, G.fr.alloc t cs, G.ja, G.nw, fun i g t' cs' hi => ?_, h1.tl, G.tj, fun i j y g t' cs' hy hj => ?_, h1.qs⟩
  · rcases key i g t' cs' hi with hi | ⟨rfl, rfl⟩
    · exact G.li i g t' cs' hi
    · exact ⟨fun e => by have := (G.wa.wl.jl _ e).2; omega, G.fr.kept.size, h5⟩
  · rcases key j g t' cs' hj with hj | ⟨rfl, rfl⟩
    · exact G.tb i j y g t' cs' hy hj
    · intro e; have := Own.lt (G.tl i y hy) e; omega
theorem Wg.set (G : Wg w W n0 J0 J b v x mp I H U D L l T Q) (i : Nat) {g : Nat} {t : TypeId} {cs : Array Value} (hi : l[i]? = some (g, t, cs)) (cs' : Array Value) : Wg w (W.setRow g cs') n0 J0 J b v x mp I H U D L (l.set i (g, t, cs')) T Q := by
  have hk : Kept (Only g) W (W.setRow g cs') := Kept.setRow W g cs'
  obtain ⟨hg, hlo, h5⟩ := G.li i g t cs hi
  have nw := G.nw
  have hS : ∀ k, Only g k → n0 ≤ k ∧ ¬ ∃ cs, Box W k 5 cs := fun k e => by
    have e : k = g := e
    subst e
    exact ⟨by omega, fun hb => ty_ne hb ⟨_, G.fr.box i _ _ _ hi⟩ (fun f => h5 f.symm)⟩
  have key : ∀ (j : Nat) g1 t1 cs1, (l.set i (g, t, cs'))[j]? = some (g1, t1, cs1) → ∃ cs2, l[j]? = some (g1, t1, cs2) := by
    intro j g1 t1 cs1 hj
    rw [List.getElem?_set] at hj
    split at hj
    · rename_i hij
      split at hj
      · cases hj; exact ⟨cs, by rw [← hij]; exact hi⟩
      · cases hj
    · exact ⟨cs1, hj⟩
  refine ⟨G.wa.kept hk (fun k e => .inr ⟨fun f => hg ((show k = g from e) ▸ f), hS k e⟩), G.fr.set i hi cs', G.ja, G.nw, fun j g1 t1 cs1 hj => ?_, fun j y hy => Own.kept (G.tl j y hy) hk (fun k e f => G.tb j i y g t cs hy hi ((show k = g from f) ▸ e)), G.tj, fun j q y g1 t1 cs1 hy hq => ?_, fun j y hy => (G.qs j y hy).kept hk hS⟩
  · obtain ⟨cs2, hj⟩ := key j g1 t1 cs1 hj
    exact G.li j g1 t1 cs2 hj
  · obtain ⟨cs2, hq⟩ := key q g1 t1 cs1 hq
    exact G.tb j q y g1 t1 cs2 hy hq
theorem Wg.upd (G : Wg w W n0 J0 J b v x mp I H U D L l T Q) (hH : WA W' n0 J2 b v2 x2 mp2 I2 H2 U2 D2 L2) (u : Up5 W J W' J2) : Wg w W' n0 J0 J2 b v2 x2 mp2 I2 H2 U2 D2 L2 l T Q := by
  have hsz := G.fr.kept.size
  have off : ∀ k, k < W.heap.size → ¬ J k → ¬ J2 k := fun k hk e f => (u.sub k f).elim e (fun g => absurd hk (by omega))
  have hu : Kept J W W' := Kept.five u.kept
  refine ⟨hH, ⟨G.fr.kept.trans u.kept (fun _ e => e) (fun k hk e => ?_), fun i g t cs hi => (G.fr.box i g t cs hi).kept hu (G.li i g t cs hi).1, G.fr.low, G.fr.inj⟩, fun k e => (u.sub k e).elim (G.ja k) (fun g => .inr (by omega)), G.nw, fun i g t cs hi => ⟨off g (G.fr.box i g t cs hi).lt (G.li i g t cs hi).1, (G.li i g t cs hi).2⟩, fun i y hy => Own.kept (G.tl i y hy) hu (fun k e => G.tj i y k hy e), fun i y k hy e => off k (Own.lt (G.tl i y hy) e) (G.tj i y k hy e), G.tb, fun i y hy => (G.qs i y hy).up u G.wa.n0J⟩
  exact ⟨(G.ja k e.1).elim id (fun g => absurd hk (by omega)), fun hb => e.2 (boxKept hb G.fr.kept (fun f => f.2 hb))⟩
theorem Wg.add (G : Wg w W n0 J0 J b v x mp I H U D L l T Q) {y : Rowx} {c : Nat} (ho : Own y.2.1 y.2.2.1 W c y.1.a y.1.k y.1.l y.2.2.2) (hj : ∀ k, At y.1.a k → ¬ J k) (hl : ∀ (j : Nat) g ty cs, l[j]? = some (g, ty, cs) → ¬ At y.1.a g) : Wg w W n0 J0 J b v x mp I H U D L l (T ++ [y]) Q := by
  have key : ∀ (j : Nat) z, (T ++ [y])[j]? = some z → T[j]? = some z ∨ z = y := by
    intro j z hj
    rw [List.getElem?_append] at hj
    split at hj
    · exact .inl hj
    · have := List.mem_of_getElem? hj
      simp at this
      exact .inr this
  refine ⟨G.wa, G.fr, G.ja, G.nw, G.li, fun j z hz => ?_, fun j z k hz => ?_, fun i j z g ty cs hz hq => ?_, G.qs⟩
  · rcases key j z hz with hz | rfl
    · exact G.tl j z hz
    · exact Own.lower ho (Nat.zero_le _)
  · rcases key j z hz with hz | rfl
    · exact G.tj j z k hz
    · exact hj k
  · rcases key i z hz with hz | rfl
    · exact G.tb i j z g ty cs hz hq
    · exact hl j g ty cs hq
theorem Wg.byt (G : Wg w W n0 J0 J b v x mp I H U D L l T Q) (h : ∀ y ∈ Q', By W n0 y.1 y.2) : Wg w W n0 J0 J b v x mp I H U D L l T (Q ++ Q') := by
  refine ⟨G.wa, G.fr, G.ja, G.nw, G.li, G.tl, G.tj, G.tb, fun i y hy => ?_⟩
  rcases List.mem_append.1 (List.mem_of_getElem? hy) with e | e
  · obtain ⟨j, hj⟩ := List.mem_iff_getElem?.1 e
    exact G.qs j y hj
  · exact h y e
theorem Wg.pick (G : Wg w W n0 J0 J b v x mp I H U D L l T Q) (hT : ∀ y, y ∈ T' → y ∈ T) (hQ : ∀ y, y ∈ Q' → y ∈ Q) : Wg w W n0 J0 J b v x mp I H U D L l T' Q' := by
  have key : ∀ (i : Nat) y, T'[i]? = some y → ∃ j, T[j]? = some y := fun i y hy => List.mem_iff_getElem?.1 (hT y (List.mem_of_getElem? hy))
  refine ⟨G.wa, G.fr, G.ja, G.nw, G.li, fun i y hy => ?_, fun i y k hy => ?_, fun i j y g t cs hy hj => ?_, fun i y hy => ?_⟩
  · obtain ⟨q, hy⟩ := key i y hy; exact G.tl q y hy
  · obtain ⟨q, hy⟩ := key i y hy; exact G.tj q y k hy
  · obtain ⟨q, hy⟩ := key i y hy; exact G.tb q j y g t cs hy hj
  · obtain ⟨q, hy⟩ := List.mem_iff_getElem?.1 (hQ y (List.mem_of_getElem? hy)); exact G.qs q y hy
theorem Wg.front (G : Wg w W n0 J0 J b v x mp I H U D L (l ++ l2) T Q) : Wg w W n0 J0 J b v x mp I H U D L l T Q := by
  have key : ∀ (i : Nat) y, l[i]? = some y → (l ++ l2)[i]? = some y := fun i y hy => by rw [List.getElem?_append_left (List.getElem?_eq_some_iff.1 hy).1]; exact hy
  exact ⟨G.wa, G.fr.front, G.ja, G.nw, fun i g t cs hi => G.li i g t cs (key i _ hi), G.tl, G.tj, fun i j y g t cs hy hj => G.tb i j y g t cs hy (key j _ hj), G.qs⟩
theorem Wg.start (h : WA W n0 J b v x mp I H U D L) : Wg W W n0 J J b v x mp I H U D L [] [] [] :=
  ⟨h, Fq.start _ _, fun _ e => .inl e, Nat.le_of_lt (Nat.lt_of_le_of_lt (h.n0J b h.wl.bj) (h.wl.jl b h.wl.bj).2), by simp, by simp, by simp, by simp, by simp⟩
end
def WOut (w : World) (n0 : Nat) (J : Nat → Prop) (b : Nat) (x : Wd) (e : Ending) (w' : World) : Prop := e = .returned (.tuple #[]) ∧ ∃ J2, WAt w' n0 J2 b x ∧ Up5 w J w' J2
theorem Wg.out {w W : World} {n0 : Nat} {J0 J : Nat → Prop} {b : Nat} {v : Wv} {x : Wd} {mp : Nat → Option Nat} {I : Nat → Nat → Prop} {H : List Bl} {U : List Mg} {D : List Dv} {L : List Lv} {l : List (Nat × TypeId × Array Value)} {T : List Rowx} {Q : List (Sl × List Int)} (G : Wg w W n0 J0 J b v x mp I H U D L l T Q) : ∃ J2, WAt W n0 J2 b x ∧ Up5 w J0 W J2 := ⟨J, ⟨v, mp, I, H, U, D, L, G.wa⟩, G.ja, G.fr.kept⟩
end Go.Proofs.Ytgiokkcdgoloaaa.Md
