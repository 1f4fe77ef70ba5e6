import Derived.Test.YtapjnanenfcdjaaS
namespace Go.Proofs.Ytapjnanenfcdjaa
open Go.RowKit
set_option linter.unusedVariables false
set_option linter.unusedSimpArgs false

def ownC (b : Sp) (n : Int) : Cm := ⟨4, b.c, n, ⟨#[]⟩, 0, 0, 0, 0, 0⟩
def newP (b : Sp) (n : Int) : Pv := ⟨b, [], sZ, ownC b n, false, []⟩
theorem get_app {α : Type} {l : List α} {j : Nat} {x y : α} (h : (l ++ [x])[j]? = some y) : l[j]? = some y ∨ (j = l.length ∧ y = x) := by
  rcases Nat.lt_or_ge j l.length with e | e
  · rw [List.getElem?_append_left e] at h; exact .inl h
  · rw [List.getElem?_append_right e] at h
    have := (List.getElem?_eq_some_iff.1 h).1
    simp at this
    have e2 : j - l.length = 0 := by omega
    rw [e2] at h
    simp at h
    exact .inr ⟨by omega, h.symm⟩
theorem app_get {α : Type} {l : List α} {j : Nat} {x y : α} (h : l[j]? = some y) : (l ++ [x])[j]? = some y := by
  rw [List.getElem?_append_left (List.getElem?_eq_some_iff.1 h).1]; exact h
theorem Inv.begin {st : PS} (h : Inv st) {b : Sp} (n : Int) (hb : One b) (hn : ∀ (j : Nat) (y : Pv), st.ls[j]? = some y → y.b ≠ b) : Inv { st with ls := st.ls ++ [newP b n] } where
  len := h.len
  ok := fun k x hx => by
    rcases get_app hx with e | ⟨-, rfl⟩
    · exact h.ok k x e
    · exact ⟨hb, by simp [newP], by simp [newP], by simp [newP], by simp [newP], by simp [newP], by simp [newP], by simp [newP], rfl⟩
  un := fun k j x y hx hy e => by
    rcases get_app hx with a | ⟨rfl, rfl⟩ <;> rcases get_app hy with c | ⟨rfl, rfl⟩
    · exact h.un k j x y a c e
    · exact absurd e (hn k x a)
    · exact absurd e.symm (hn j y c)
    · rfl
  ins := fun s i hi hd => by
    have o := h.ins s i hi hd
    refine ⟨?_, o.ap, ?_, ?_⟩
    · rcases o.acc with e | ⟨j, y, a, r⟩
      · exact .inl e
      · exact .inr ⟨j, y, app_get a, r⟩
    · intro j y hy hs
      rcases get_app hy with e | ⟨-, rfl⟩
      · exact o.top j y e hs
      · simp [newP] at hs
    · intro j y hy hs
      rcases get_app hy with e | ⟨-, rfl⟩
      · exact o.pro j y e hs
      · simp [newP] at hs
  held := fun k x hx => by
    rcases get_app hx with e | ⟨-, rfl⟩
    · rcases h.held k x e with q | ⟨j, y, a, r⟩
      · exact .inl q
      · exact .inr ⟨j, y, app_get a, r⟩
    · exact .inl rfl
  cov := fun k x hx s hs j y hy hsy hl => by
    rcases get_app hx with e | ⟨-, rfl⟩
    · rcases get_app hy with e2 | ⟨-, rfl⟩
      · exact h.cov k x e s hs j y e2 hsy hl
      · simp [newP] at hsy
    · simp [newP] at hs
  dec := by
    rcases h.dec with ⟨a, c⟩ | ⟨a, j, y, b1, r⟩
    · exact .inl ⟨a, fun j y hy => by
        rcases get_app hy with e | ⟨-, rfl⟩
        · exact c j y e
        · simp [newP]⟩
    · exact .inr ⟨a, j, y, app_get b1, r⟩
  kn := h.kn

/-- A promise. -/
theorem Inv.promise {st : PS} (h : Inv st) {k s : Nat} {x : Pv} {i : In} (hi : st.is[s]? = some i) (hd : i.d = false) (b : Sp) (hp : Le i.p b) :
    Inv { st with is := st.is.set s ⟨b, i.a, i.c, i.d⟩ } where
  len := by simp [h.len]
  ok := h.ok
  un := h.un
  ins := fun s' i' hi' hd' => by
    rcases get_set hi' with ⟨rfl, rfl⟩ | ⟨-, e⟩
    · have o := h.ins s' i hi hd
      exact ⟨o.acc, o.ap.trans hp, o.top, fun j y hy hs => (o.pro j y hy hs).trans hp⟩
    · exact h.ins s' i' e hd'
  held := h.held
  cov := h.cov
  dec := h.dec
  kn := fun s' i' hi' hd' => by
    rcases get_set hi' with ⟨rfl, rfl⟩ | ⟨-, e⟩
    · rw [hd] at hd'; cases hd'
    · exact h.kn s' i' e hd'

/-- A promise that counts. -/
def cntP (f : Nat) (x : Pv) (ia : Sp) (ic : Cm) (s : Int) : Pv := ⟨x.b, x.pr ++ [s], if lt x.h ia then ia else x.h, if lt x.h ia then ic else x.c, decide (x.pr.length + 1 = f + 1), x.ac⟩
theorem Inv.count {st : PS} (h : Inv st) {k s : Nat} {x : Pv} {i : In} (hx : st.ls[k]? = some x) (hi : st.is[s]? = some i) (hd : i.d = false) (hp : i.p = x.b) (hc : x.ch = false) (hs : ¬ (s : Int) ∈ x.pr) :
    Inv { st with ls := st.ls.set k (cntP st.f x i.a i.c s) } := by
  have ox := h.ok k x hx
  have oi := h.ins s i hi hd
  have hac : x.ac = [] := ox.un hc
  have hsl : s < 2 * st.f + 1 := by rw [← h.len]; exact (List.getElem?_eq_some_iff.1 hi).1
  have hlt : x.pr.length < st.f + 1 := by
    rcases Nat.lt_or_ge x.pr.length (st.f + 1) with e | e
    · exact e
    · have e1 := ox.le
      have e2 : x.pr.length = st.f + 1 := by omega
      rw [ox.ch.2 e2] at hc
      cases hc
  have hx' := set_here (x := cntP st.f x i.a i.c s) hx
  -- what has accepted stands elsewhere
  have far : ∀ (j : Nat) (y : Pv), st.ls[j]? = some y → y.ch = true → j ≠ k := fun j y hy hch e => by
    subst e; rw [hx] at hy; cases hy; rw [hc] at hch; cases hch
  have acs : ∀ (j : Nat) (y : Pv) (t : Int), (st.ls.set k (cntP st.f x i.a i.c s))[j]? = some y → t ∈ y.ac → st.ls[j]? = some y ∧ j ≠ k := fun j y t hy ht => by
    rcases get_set hy with ⟨rfl, rfl⟩ | ⟨e, q⟩
    · simp [cntP, hac] at ht
    · exact ⟨q, e⟩
  -- where the accepted one is greater
  have wit : lt x.h i.a = true → ∃ (j : Nat) (y : Pv), st.ls[j]? = some y ∧ y.b = i.a ∧ LT i.a x.b ∧ i.c = y.c ∧ y.ch = true ∧ j ≠ k := fun hl => by
    rcases oi.acc with e | ⟨j, y, a, yb, ys, yc⟩
    · exfalso
      rw [lt_iff, e] at hl
      rcases h.held k x hx with q | ⟨j, y, a, yb, -⟩
      · rw [q] at hl; unfold LT sZ at hl; simp only [] at hl; omega
      · have o := (h.ok j y a).one
        rw [← yb] at hl
        unfold LT sZ at hl; unfold One at o; simp only [] at hl; omega
    · have hch := h.chosen a ys
      have hne := far j y a hch
      refine ⟨j, y, a, yb, ?_, yc, hch, hne⟩
      rw [← yb]
      refine Le.lt_of_ne ?_ (fun e => hne (h.un j k y x a hx e))
      rw [yb, ← hp]; exact oi.ap
  have hmax1 : Le x.h (cntP st.f x i.a i.c s).h := by
    simp only [cntP]
    split
    · rename_i e; exact Le.of_lt (lt_iff.1 e)
    · exact Le.refl _
  have hmax2 : Le i.a (cntP st.f x i.a i.c s).h := by
    simp only [cntP]
    split
    · exact Le.refl _
    · rename_i e; intro q; exact e (lt_iff.2 q)
  refine ⟨h.len, ?_, ?_, ?_, ?_, ?_, ?_, h.kn⟩
  · intro j y hy
    rcases get_set hy with ⟨rfl, rfl⟩ | ⟨-, e⟩
    · refine ⟨ox.one, ?_, ox.na, ?_, ox.ba, ?_, ?_, fun _ => hac, ?_⟩
      · simp only [cntP]
        rw [List.nodup_append]
        exact ⟨ox.nd, by simp, fun a ha b hb e => by simp at hb; subst e; rw [hb] at ha; exact hs ha⟩
      · intro t ht
        simp only [cntP, List.mem_append, List.mem_singleton] at ht
        rcases ht with e | rfl
        · exact ox.bp t e
        · show 0 ≤ _ ∧ _ < _
          simp only []
          omega
      · simp only [cntP, List.length_append, List.length_singleton]; omega
      · simp [cntP]
      · simp only [cntP]
        split
        · rename_i e
          obtain ⟨j2, y, a, -, -, yc, -⟩ := wit e
          rw [yc]; exact (h.ok j2 y a).kd
        · exact ox.kd
    · exact h.ok j y e
  · intro a c y z hy hz e
    rcases get_set hy with ⟨rfl, rfl⟩ | ⟨n1, e1⟩ <;> rcases get_set hz with ⟨rfl, rfl⟩ | ⟨n2, e2⟩
    · rfl
    · exact h.un _ c x z hx e2 e
    · exact h.un a _ y x e1 hx e
    · exact h.un a c y z e1 e2 e
  · intro s' i' hi' hd'
    have o := h.ins s' i' hi' hd'
    refine ⟨?_, o.ap, ?_, ?_⟩
    · rcases o.acc with e | ⟨j, y, a, yb, ys, yc⟩
      · exact .inl e
      · exact .inr ⟨j, y, set_get a (far j y a (h.chosen a ys)), yb, ys, yc⟩
    · intro j y hy ht
      exact o.top j y (acs j y _ hy ht).1 ht
    · intro j y hy ht
      rcases get_set hy with ⟨rfl, rfl⟩ | ⟨-, e⟩
      · simp only [cntP, List.mem_append, List.mem_singleton] at ht
        rcases ht with e | e
        · exact o.pro _ x hx e
        · have : s' = s := by omega
          subst this
          rw [hi] at hi'
          cases hi'
          show Le x.b i.p
          rw [hp]; exact Le.refl _
      · exact o.pro j y e ht
  · intro j y hy
    rcases get_set hy with ⟨rfl, rfl⟩ | ⟨n1, e1⟩
    · simp only [cntP]
      split
      · rename_i e
        obtain ⟨j2, y, a, yb, yl, yc, ych, yn⟩ := wit e
        exact .inr ⟨j2, y, set_get a yn, yb, yl, yc, ych⟩
      · rcases h.held _ x hx with q | ⟨j2, y, a, yb, yl, yc, ych⟩
        · exact .inl q
        · exact .inr ⟨j2, y, set_get a (far j2 y a ych), yb, yl, yc, ych⟩
    · rcases h.held j y e1 with q | ⟨j2, z, a, yb, yl, yc, ych⟩
      · exact .inl q
      · exact .inr ⟨j2, z, set_get a (far j2 z a ych), yb, yl, yc, ych⟩
  · intro a y hy t ht j z hz htz hl
    obtain ⟨ez, nz⟩ := acs j z t hz htz
    rcases get_set hy with ⟨rfl, rfl⟩ | ⟨n1, e1⟩
    · simp only [cntP, List.mem_append, List.mem_singleton] at ht
      rcases ht with e | rfl
      · exact (h.cov _ x hx t e j z ez htz hl).trans hmax1
      · exact (oi.top j z ez htz).trans hmax2
    · exact h.cov a y e1 t ht j z ez htz hl
  · rcases h.dec with ⟨a, c⟩ | ⟨a, j, y, b1, b2, b3⟩
    · exact .inl ⟨a, fun j y hy => by
        rcases get_set hy with ⟨rfl, rfl⟩ | ⟨-, e⟩
        · show x.ac.length < _
          rw [hac]; simp
        · exact c j y e⟩
    · refine .inr ⟨a, j, y, set_get b1 ?_, b2, b3⟩
      intro e
      subst e
      rw [hx] at b1
      cases b1
      rw [hac] at b2
      simp at b2

/-- An acceptance of one that had accepted it already. -/
theorem Inv.acc0 {st : PS} (h : Inv st) {k s : Nat} {x : Pv} {i : In} (hx : st.ls[k]? = some x) (hi : st.is[s]? = some i) (hd : i.d = false) (hp : Le i.p x.b) (hs : (s : Int) ∈ x.ac) :
    Inv { st with is := st.is.set s ⟨x.b, x.b, x.c, false⟩ } where
  len := by simp [h.len]
  ok := h.ok
  un := h.un
  ins := fun s' i' hi' hd' => by
    rcases get_set hi' with ⟨rfl, rfl⟩ | ⟨-, e⟩
    · have o := h.ins s' i hi hd
      exact ⟨.inr ⟨k, x, hx, rfl, hs, rfl⟩, Le.refl _, fun j y hy ht => ((o.top j y hy ht).trans o.ap).trans hp, fun j y hy ht => (o.pro j y hy ht).trans hp⟩
    · exact h.ins s' i' e hd'
  held := h.held
  cov := h.cov
  dec := h.dec
  kn := fun s' i' hi' hd' => by
    rcases get_set hi' with ⟨rfl, rfl⟩ | ⟨-, e⟩
    · cases hd'
    · exact h.kn s' i' e hd'

def accP (x : Pv) (s : Int) : Pv := ⟨x.b, x.pr, x.h, x.c, x.ch, x.ac ++ [s]⟩
/-- A new acceptance; what is decided stands as it was. -/
theorem Inv.acc1 {st : PS} (h : Inv st) {k s : Nat} {x : Pv} {i : In} (hx : st.ls[k]? = some x) (hc : x.ch = true) (hi : st.is[s]? = some i) (hd : i.d = false) (hp : Le i.p x.b) (hs : ¬ (s : Int) ∈ x.ac) (d : Cm)
    (hdd : (st.dec.k = 0 ∧ ((x.ac.length + 1 < st.f + 1 ∧ d = st.dec) ∨ (st.f + 1 ≤ x.ac.length + 1 ∧ d = x.c))) ∨ (st.dec.k = 4 ∧ d = st.dec)) :
    Inv ⟨st.f, st.is.set s ⟨x.b, x.b, x.c, false⟩, st.ls.set k (accP x s), d⟩ := by
  have ox := h.ok k x hx
  have oi := h.ins s i hi hd
  have hsl : s < 2 * st.f + 1 := by rw [← h.len]; exact (List.getElem?_eq_some_iff.1 hi).1
  have hx' := set_here (x := accP x s) hx
  -- a proposal of before, now
  have old : ∀ (j : Nat) (y : Pv), st.ls[j]? = some y → ∃ y', (st.ls.set k (accP x s))[j]? = some y' ∧ y'.b = y.b ∧ y'.c = y.c ∧ y'.ch = y.ch ∧ (∀ t ∈ y.ac, t ∈ y'.ac) ∧ y.ac.length ≤ y'.ac.length := fun j y hy => by
    by_cases e : j = k
    · subst e
      rw [hx] at hy
      cases hy
      exact ⟨_, hx', rfl, rfl, rfl, fun t ht => by simp [accP, ht], by simp [accP]⟩
    · exact ⟨y, set_get hy e, rfl, rfl, rfl, fun t ht => ht, Nat.le_refl _⟩
  have new : ∀ (j : Nat) (y : Pv), (st.ls.set k (accP x s))[j]? = some y → ∃ y0, st.ls[j]? = some y0 ∧ y.b = y0.b ∧ y.pr = y0.pr ∧ y.h = y0.h ∧ y.c = y0.c ∧ y.ch = y0.ch ∧ (∀ t ∈ y.ac, t ∈ y0.ac ∨ (t = s ∧ j = k ∧ y0 = x)) := fun j y hy => by
    rcases get_set hy with ⟨rfl, rfl⟩ | ⟨-, e⟩
    · refine ⟨x, hx, rfl, rfl, rfl, rfl, rfl, fun t ht => ?_⟩
      simp only [accP, List.mem_append, List.mem_singleton] at ht
      rcases ht with e | e
      · exact .inl e
      · exact .inr ⟨e, rfl, rfl⟩
    · exact ⟨y, e, rfl, rfl, rfl, rfl, rfl, fun t ht => .inl ht⟩
  refine ⟨by simp [h.len], ?_, ?_, ?_, ?_, ?_, ?_, ?_⟩
  · intro j y hy
    rcases get_set hy with ⟨rfl, rfl⟩ | ⟨-, e⟩
    · refine ⟨ox.one, ox.nd, ?_, ox.bp, ?_, ox.le, ox.ch, fun e => ?_, ox.kd⟩
      · simp only [accP]
        rw [List.nodup_append]
        exact ⟨ox.na, by simp, fun a ha b hb e => by simp at hb; subst e; rw [hb] at ha; exact hs ha⟩
      · intro t ht
        simp only [accP, List.mem_append, List.mem_singleton] at ht
        rcases ht with e | rfl
        · exact ox.ba t e
        · show 0 ≤ _ ∧ _ < _
          simp only []
          omega
      · have e : x.ch = false := e
        rw [hc] at e; cases e
    · exact h.ok j y e
  · intro a c y z hy hz e
    obtain ⟨y0, a1, a2, -⟩ := new a y hy
    obtain ⟨z0, c1, c2, -⟩ := new c z hz
    exact h.un a c y0 z0 a1 c1 (by rw [← a2, ← c2]; exact e)
  · intro s' i' hi' hd'
    rcases get_set hi' with ⟨rfl, rfl⟩ | ⟨hne, e⟩
    · refine ⟨.inr ⟨k, _, hx', rfl, by simp [accP], rfl⟩, Le.refl _, ?_, ?_⟩
      · intro j y hy ht
        obtain ⟨y0, a1, a2, -, -, -, -, a7⟩ := new j y hy
        rw [a2]
        rcases a7 _ ht with q | ⟨-, -, q⟩
        · exact ((oi.top j y0 a1 q).trans oi.ap).trans hp
        · rw [q]; exact Le.refl _
      · intro j y hy ht
        obtain ⟨y0, a1, a2, a3, -⟩ := new j y hy
        rw [a2]
        rw [a3] at ht
        exact (oi.pro j y0 a1 ht).trans hp
    · have o := h.ins s' i' e hd'
      refine ⟨?_, o.ap, ?_, ?_⟩
      · rcases o.acc with q | ⟨j, y, a, yb, ys, yc⟩
        · exact .inl q
        · obtain ⟨y', b1, b2, b3, -, b5, -⟩ := old j y a
          exact .inr ⟨j, y', b1, by rw [b2]; exact yb, b5 _ ys, by rw [b3]; exact yc⟩
      · intro j y hy ht
        obtain ⟨y0, a1, a2, -, -, -, -, a7⟩ := new j y hy
        rw [a2]
        rcases a7 _ ht with q | ⟨q, -, -⟩
        · exact o.top j y0 a1 q
        · exact absurd (by omega) hne
      · intro j y hy ht
        obtain ⟨y0, a1, a2, a3, -⟩ := new j y hy
        rw [a2]
        rw [a3] at ht
        exact o.pro j y0 a1 ht
  · intro j y hy
    obtain ⟨y0, a1, a2, -, a4, a5, -, -⟩ := new j y hy
    rw [a2, a4, a5]
    rcases h.held j y0 a1 with q | ⟨l, z, z1, z2, z3, z4, z5⟩
    · exact .inl q
    · obtain ⟨z', b1, b2, b3, b4, -, -⟩ := old l z z1
      exact .inr ⟨l, z', b1, by rw [b2]; exact z2, z3, by rw [b3]; exact z4, by rw [b4]; exact z5⟩
  · intro a y hy t ht j z hz htz hl
    obtain ⟨y0, a1, a2, a3, a4, -⟩ := new a y hy
    obtain ⟨z0, c1, c2, -, -, -, -, c7⟩ := new j z hz
    rw [a4, c2]
    rw [c2, a2] at hl
    rw [a3] at ht
    rcases c7 _ htz with q | ⟨q, -, q2⟩
    · exact h.cov a y0 a1 t ht j z0 c1 q hl
    · exfalso
      subst q2
      rw [q] at ht
      have := (oi.pro a y0 a1 ht).trans hp
      exact this hl
  · rcases hdd with ⟨d0, ⟨q1, q2⟩ | ⟨q1, q2⟩⟩ | ⟨d4, q2⟩
    · rcases h.dec with ⟨a, c⟩ | ⟨a, -⟩
      · refine .inl ⟨by rw [q2]; exact a, fun j y hy => ?_⟩
        rcases get_set hy with ⟨rfl, rfl⟩ | ⟨-, e⟩
        · simp only [accP, List.length_append, List.length_singleton]; exact q1
        · exact c j y e
      · rw [d0] at a; cases a
    · exact .inr ⟨by rw [q2]; exact ox.kd, k, _, hx', by simp only [accP, List.length_append, List.length_singleton]; exact q1, by rw [q2]; rfl⟩
    · rcases h.dec with ⟨a, -⟩ | ⟨a, j, y, b1, b2, b3⟩
      · rw [d4] at a; cases a
      · obtain ⟨y', e1, -, e3, -, -, e6⟩ := old j y b1
        exact .inr ⟨by rw [q2]; exact a, j, y', e1, Nat.le_trans b2 e6, by rw [e3, q2]; exact b3⟩
  · intro s' i' hi' hd'
    rcases get_set hi' with ⟨rfl, rfl⟩ | ⟨hne, e⟩
    · cases hd'
    · obtain ⟨k1, k2⟩ := h.kn s' i' e hd'
      rcases hdd with ⟨d0, -⟩ | ⟨d4, q2⟩
      · rw [d0] at k2; cases k2
      · rw [q2]; exact ⟨k1, k2⟩

/-- What is learned. -/
theorem Inv.learn {st : PS} (h : Inv st) {s : Nat} (hk : st.dec.k ≠ 0) : Inv { st with is := st.is.set s ⟨sZ, sZ, st.dec, true⟩ } where
  len := by simp [h.len]
  ok := h.ok
  un := h.un
  ins := fun s' i' hi' hd' => by
    rcases get_set hi' with ⟨rfl, rfl⟩ | ⟨-, e⟩
    · cases hd'
    · exact h.ins s' i' e hd'
  held := h.held
  cov := h.cov
  dec := h.dec
  kn := fun s' i' hi' hd' => by
    rcases get_set hi' with ⟨rfl, rfl⟩ | ⟨-, e⟩
    · refine ⟨rfl, ?_⟩
      rcases h.dec with ⟨a, -⟩ | ⟨a, -⟩
      · exact absurd a hk
      · exact a
    · exact h.kn s' i' e hd'
/-- At the beginning. -/
theorem Inv.start (f : Nat) : Inv ⟨f, List.replicate (2 * f + 1) iZ, [], cZ⟩ where
  len := by simp
  ok := fun k x hx => by simp at hx
  un := fun k j x y hx => by simp at hx
  ins := fun s i hi hd => by
    have e : i = iZ := by
      have := List.mem_of_getElem? hi
      exact (List.mem_replicate.1 this).2
    subst e
    exact ⟨.inl rfl, Le.refl _, fun j y hy => by simp at hy, fun j y hy => by simp at hy⟩
  held := fun k x hx => by simp at hx
  cov := fun k x hx => by simp at hx
  dec := .inl ⟨rfl, fun j y hy => by simp at hy⟩
  kn := fun s i hi hd => by
    have e : i = iZ := by
      have := List.mem_of_getElem? hi
      exact (List.mem_replicate.1 this).2
    subst e
    cases hd

end Go.Proofs.Ytapjnanenfcdjaa
