import Derived.Test.YtphiokehcgbldaaNd
import Derived.Test.YtphiokehcgbldaaNe
namespace Go.Proofs.Ytphiokehcgbldaa
open Go.RowKit
set_option linter.unusedVariables false
set_option linter.unusedSimpArgs false

theorem Own.ltA {t : TypeId} {c : Nat} {w : World} {base : Nat} {a : Option Addr} {cap n : Nat} {vs : List Value} (h : Own t c w base a cap n vs) {k : Nat} (hk : At a k) : k < w.heap.size := by
  obtain ⟨cur, e⟩ := Gx.own_type h hk
  exact (Array.getElem?_eq_some_iff.1 e).1
/-- A Net that has sent something, in memory. -/
structure NetB (w : World) (n : Nat) (s : Ns) (I : Nat → Prop) (b1 b2 b3 : Nat) (P : Nm → Nat × Nat × Nat) : Prop where
  ok : NOk s
  box : Box w n 69 #[.map (some b1), .map (some b2), .map (some b3), .int .i64 (s.came : Nat)]
  m1 : MapG mkA w b1 (gS s.sent)
  m2 : MapG mkP w b2 (gP s.L)
  m3 : MapG mkN w b3 (gN s.L P)
  ne : b1 ≠ b2 ∧ b1 ≠ b3 ∧ b2 ≠ b3
  pl : ∀ q ∈ s.L, PlA w (P q.nm).1 (P q.nm).2.1 (P q.nm).2.2 (pls s.L q.nm)
  pd : ∀ p ∈ s.L, ∀ q ∈ s.L, p.nm ≠ q.nm → (P p.nm).1 ≠ (P q.nm).1
  dt : ∀ q ∈ s.L, OwnB w 0 q.da q.dc q.zs
  inn : I n ∧ I b1 ∧ I b2 ∧ I b3
  inp : ∀ q ∈ s.L, I (P q.nm).1
  ind : ∀ q ∈ s.L, ∀ k, At q.da k → I k
section
variable {S I I' : Nat → Prop} {w w' : World} {n b1 b2 b3 : Nat} {s : Ns} {P : Nm → Nat × Nat × Nat}
theorem NetB.kept (h : NetB w n s I b1 b2 b3 P) (hk : Kept S w w') (hS : ∀ k, I k → k < w.heap.size → ¬ S k ∧ I' k) : NetB w' n s I' b1 b2 b3 P where
  ok := h.ok
  box := h.box.kept hk (hS n h.inn.1 h.box.lt).1
  m1 := h.m1.kept hk (hS b1 h.inn.2.1 h.m1.lt).1
  m2 := h.m2.kept hk (hS b2 h.inn.2.2.1 h.m2.lt).1
  m3 := h.m3.kept hk (hS b3 h.inn.2.2.2 h.m3.lt).1
  ne := h.ne
  pl := fun q hq => (h.pl q hq).kept hk (hS _ (h.inp q hq) (h.pl q hq).lt).1
  pd := h.pd
  dt := fun q hq => Own.kept (h.dt q hq) hk (fun k e => (hS k (h.ind q hq k e) (Own.ltA (h.dt q hq) e)).1)
  inn := ⟨(hS n h.inn.1 h.box.lt).2, (hS b1 h.inn.2.1 h.m1.lt).2, (hS b2 h.inn.2.2.1 h.m2.lt).2, (hS b3 h.inn.2.2.2 h.m3.lt).2⟩
  inp := fun q hq => (hS _ (h.inp q hq) (h.pl q hq).lt).2
  ind := fun q hq k e => (hS k (h.ind q hq k e) (Own.ltA (h.dt q hq) e)).2
theorem NetB.no (h : NetB w n s I b1 b2 b3 P) (hk : Kept No w w') : NetB w' n s I b1 b2 b3 P := h.kept hk (fun k e _ => ⟨fun f => f, e⟩)
theorem PlA.neBox {b off cap : Nat} {ps : List Nat} {g : Nat} {T : TypeId} {cs : Array Value} (h : PlA w b off cap ps) (hb : Box w g T cs) (hT : T ≠ 3) : b ≠ g := fun e => by
  subst e
  obtain ⟨c, h1⟩ := h.typ
  have h2 : w.heap[b]? = some (.cells cs T (0, 0)) := hb
  rw [h1] at h2
  simp only [Option.some.injEq, Obj.cells.injEq] at h2
  exact hT h2.2.1.symm
theorem PlA.neMap {K : Type} [DecidableEq K] {mk : K → Value} {b off cap : Nat} {ps : List Nat} {m : Nat} {g : K → Option Value} (h : PlA w b off cap ps) (hm : MapG mk w m g) : b ≠ m := fun e => by
  subst e
  obtain ⟨c, h1⟩ := h.typ
  obtain ⟨es, cl, hb, _⟩ := hm
  rw [h1] at hb
  cases hb
theorem Own.neMap {K : Type} [DecidableEq K] {mk : K → Value} {T : TypeId} {c base : Nat} {a : Option Addr} {cap l : Nat} {vs : List Value} {m : Nat} {g : K → Option Value} (h : Own T c w base a cap l vs) (hm : MapG mk w m g) : ¬ At a m := fun e => by
  obtain ⟨c, h1⟩ := Gx.own_type h e
  obtain ⟨es, cl, hb, _⟩ := hm
  rw [h1] at hb
  cases hb
theorem Own.neBox {T T' : TypeId} {c base : Nat} {a : Option Addr} {cap l : Nat} {vs : List Value} {m : Nat} {cs : Array Value} (h : Own T c w base a cap l vs) (hb : Box w m T' cs) (hT : T ≠ T') : ¬ At a m := fun e => by
  obtain ⟨c, h1⟩ := Gx.own_type h e
  have h2 : w.heap[m]? = some (.cells cs T' (0, 0)) := hb
  rw [h1] at h2
  simp only [Option.some.injEq, Obj.cells.injEq] at h2
  exact hT h2.2.1
end
/-- Of I, what holds no bytes. -/
def W5 (w : World) (I : Nat → Prop) : Nat → Prop := fun k => I k ∧ ∀ cs fr, w.heap[k]? ≠ some (.cells cs 5 fr)
section
variable {w w1 w2 : World} {I J U : Nat → Prop}
theorem W5.box {g : Nat} {T : TypeId} {cs : Array Value} (hb : Box w g T cs) (hT : T ≠ 5) (hI : I g) : W5 w I g := ⟨hI, fun cs' fr e => by
  have h2 : w.heap[g]? = some (.cells cs T (0, 0)) := hb
  rw [h2] at e
  simp only [Option.some.injEq, Obj.cells.injEq] at e
  exact hT e.2.1⟩
theorem W5.map {K : Type} [DecidableEq K] {mk : K → Value} {m : Nat} {g : K → Option Value} (hm : MapG mk w m g) (hI : I m) : W5 w I m := ⟨hI, fun cs fr e => by
  obtain ⟨es, cl, hb, _⟩ := hm
  rw [hb] at e
  cases e⟩
theorem W5.pl {b off cap : Nat} {ps : List Nat} (h : PlA w b off cap ps) (hI : I b) : W5 w I b := ⟨hI, fun cs fr e => by
  obtain ⟨c, h1⟩ := h.typ
  rw [h1] at e
  simp at e⟩
theorem W5.kept (h : Kept (W5 w I) w w1) : Kept I w w1 := h.mono (fun _ _ e => e.1)
theorem W5.mono (h : Kept (W5 w I) w w1) (hI : ∀ i, i < w.heap.size → I i → U i) : Kept (W5 w U) w w1 := Kept.mono h (fun i l e => ⟨hI i l e.1, e.2⟩)
theorem W5.trans (h : Kept (W5 w I) w w1) (k : Kept (W5 w1 J) w1 w2) (hI : ∀ i, I i → U i) (hJ : ∀ i, i < w.heap.size → J i → U i) : Kept (W5 w U) w w2 :=
  Kept.trans h k (fun i e => ⟨hI i e.1, e.2⟩) (fun i hi e => ⟨hJ i hi e.1, fun cs fr f => e.2 cs fr ((h.block i hi (fun g => g.2 cs fr f)).trans f)⟩)
end
/-- What come is handed: bytes, places. -/
structure CoIn (w : World) (s : Ns) (P : Nm → Nat × Nat × Nat) (q : Pq) (pv : Value) : Prop where
  same : ∀ p ∈ s.L, p.nm = q.nm → SameP p q
  cnt : 1 ≤ q.nm.2 ∧ q.nm.2 ≤ (s.sent q.nm.1 : Nat)
  dt : OwnB w 0 q.da q.dc q.zs
  pv : (pls s.L q.nm = [] ∧ pv = .slice none 0 0) ∨ ((∃ p ∈ s.L, p.nm = q.nm) ∧ pv = plV P q.nm (pls s.L q.nm).length)
  pl : q.pl = s.came + 1
  few : s.came < 1000000000000

/-- One place more in a name's row. -/
def CoR (L : List Pq) (k : Nm) (P : Nm → Nat × Nat × Nat) (c : Nat) (W : World) (v' : Value) (W' : World) : Prop :=
  ∃ b' off' cap', v' = .slice (some ⟨b', off', none⟩) ((pls L k).length + 1) cap' ∧ PlA W' b' off' cap' (pls L k ++ [c]) ∧ (((∃ p ∈ L, p.nm = k) ∧ b' = (P k).1) ∨ W.heap.size ≤ b') ∧ Kept (fun j => (∃ p ∈ L, p.nm = k) ∧ j = (P k).1) W W'
theorem come_fin {I : Nat → Prop} {w w4 w6 W W' w7 w8 : World} {n b1 b2 b3 bA : Nat} {s : Ns} {P : Nm → Nat × Nat × Nat} {q : Pq} {pv v2 : Value} (hN : NetB w n s I b1 b2 b3 P) (hi : CoIn w s P q pv) (hw : cnP s.L (q.nm.1, q.to') < 64)
    (K04 : Kept No w w4) (K46 : Kept (fun j => j = n ∨ j = b2) w4 w6) (hM6 : MapG mkP w6 b2 (upG (gP s.L) (q.nm.1, q.to') (some (.int .i64 ((cnP s.L (q.nm.1, q.to') + 1 : Nat) : Int))))) (hkW : Kept No w6 W) (hR : CoR s.L q.nm P (s.came + 1) W v2 W') (K77 : Kept (Only bA) W' w7) (hbA : w.heap.size ≤ bA) (hbA2 : bA < w6.heap.size) (hB7 : Box w7 n 69 #[.map (some b1), .map (some b2), .map (some b3), .int .i64 ((s.came + 1 : Nat) : Int)])
    (hM8 : MapG mkN w8 b3 (upG (gN s.L P) q.nm (some (alV q v2)))) (K78 : Kept (Only b3) w7 w8) :
    Kept (W5 w I) w w8 ∧ ∃ P', NetB w8 n ⟨s.sent, s.L ++ [q], s.came + 1⟩ (fun k => I k ∨ w.heap.size ≤ k ∨ At q.da k) b1 b2 b3 P' := by
  obtain ⟨b', off', cap', hv2, hP', hb', hkR⟩ := hR
  have s04 := K04.size
  have s46 := K46.size
  have s6W := hkW.size
  have hnl := hN.box.lt
  have hb1l := hN.m1.lt
  have hb2l := hN.m2.lt
  have hb3l := hN.m3.lt
  have hPl : ∀ p ∈ s.L, p.nm = q.nm → (P q.nm).1 < w.heap.size ∧ (P q.nm).1 ≠ n ∧ (P q.nm).1 ≠ b1 ∧ (P q.nm).1 ≠ b2 ∧ (P q.nm).1 ≠ b3 ∧ I (P q.nm).1 := fun p hp e => by
    have h := hN.pl p hp
    have h' := hN.inp p hp
    rw [e] at h h'
    exact ⟨h.lt, h.neBox hN.box (by decide), h.neMap hN.m1, h.neMap hN.m2, h.neMap hN.m3, h'⟩
  have inL : ∀ p ∈ s.L ++ [q], p.nm ≠ q.nm → p ∈ s.L := fun p hp e => by
    rcases List.mem_append.1 hp with h | h
    · exact h
    · rw [List.mem_singleton.1 h] at e; exact absurd rfl e
  have KT : Kept (fun j => j = n ∨ j = b2 ∨ j = b3 ∨ (w.heap.size ≤ j) ∨ ((∃ p ∈ s.L, p.nm = q.nm) ∧ j = (P q.nm).1)) w w8 := by
    refine (((K04.of_no.then (K46.mono (fun j _ e => ?_))).then hkW.of_no).then (hkR.mono (fun j _ e => .inr (.inr (.inr (.inr e)))))).then ((K77.mono (fun j _ e => ?_)).then (K78.mono (fun j _ e => ?_)))
    · rcases e with e | e
      · exact .inl e
      · exact .inr (.inl e)
    · have e : j = bA := e; exact .inr (.inr (.inr (.inl (by omega))))
    · exact .inr (.inr (.inl e))
  have K68 : Kept (fun j => j = b3 ∨ w.heap.size ≤ j ∨ ((∃ p ∈ s.L, p.nm = q.nm) ∧ j = (P q.nm).1)) w6 w8 := by
    refine (hkW.of_no.then (hkR.mono (fun j _ e => .inr (.inr e)))).then ((K77.mono (fun j _ e => ?_)).then (K78.mono (fun j _ e => .inl e)))
    have e : j = bA := e; exact .inr (.inl (by omega))
  have KR8 : Kept (fun j => j = bA ∨ j = b3) W' w8 := (K77.mono (fun j _ e => .inl e)).then (K78.mono (fun j _ e => .inr e))
  refine ⟨KT.mono (fun j l e => ?_), upP P q.nm (b', off', cap'), ok_add hN.ok q hi.same hi.cnt hw hi.pl, hB7.kept K78 (fun e => ?_), hN.m1.kept KT (fun e => ?_), ?_, ?_, hN.ne, fun p hp => ?_, fun p hp r hr hne => ?_, fun p hp => ?_, ⟨.inl hN.inn.1, .inl hN.inn.2.1, .inl hN.inn.2.2.1, .inl hN.inn.2.2.2⟩, fun p hp => ?_, fun p hp k e => ?_⟩
  · rcases e with e | e | e | e | ⟨⟨p, hp, hpn⟩, e⟩
    · rw [e]; exact W5.box hN.box (by decide) hN.inn.1
    · rw [e]; exact W5.map hN.m2 hN.inn.2.2.1
    · rw [e]; exact W5.map hN.m3 hN.inn.2.2.2
    · omega
    · rw [e]; exact W5.pl (by have h := hN.pl p hp; rw [hpn] at h; exact h) (hPl p hp hpn).2.2.2.2.2
  · exact hN.box.neMap hN.m3 e
  · rcases e with e | e | e | e | ⟨⟨p, hp, hpn⟩, e⟩
    · exact hN.box.neMap hN.m1 e.symm
    · exact hN.ne.1 e
    · exact hN.ne.2.1 e
    · omega
    · exact (hPl p hp hpn).2.2.1 e.symm
  · show MapG mkP w8 b2 (gP (s.L ++ [q]))
    rw [gP_add]
    refine hM6.kept K68 (fun e => ?_)
    rcases e with e | e | ⟨⟨p, hp, hpn⟩, e⟩
    · exact hN.ne.2.2 e
    · omega
    · exact (hPl p hp hpn).2.2.2.1 e.symm
  · show MapG mkN w8 b3 (gN (s.L ++ [q]) (upP P q.nm (b', off', cap')))
    rw [gN_add hN.ok q hi.same]
    have e : plV (upP P q.nm (b', off', cap')) q.nm ((pls s.L q.nm).length + 1) = v2 := by rw [hv2]; simp [plV, upP]
    rw [e]
    exact hM8
  · show PlA w8 _ _ _ (pls (s.L ++ [q]) p.nm)
    rw [pls_add]
    by_cases e : p.nm = q.nm
    · rw [e, if_pos rfl]
      have : upP P q.nm (b', off', cap') q.nm = (b', off', cap') := by simp [upP]
      rw [this, hi.pl]
      refine hP'.kept KR8 (fun f => ?_)
      rcases hb' with ⟨⟨p0, hp0, hn0⟩, g⟩ | g
      · obtain ⟨g1, _, _, _, g5, _⟩ := hPl p0 hp0 hn0
        rcases f with f | f
        · omega
        · exact g5 (g.symm.trans f)
      · rcases f with f | f
        · omega
        · omega
    · have e2 : ¬ q.nm = p.nm := fun f => e f.symm
      rw [if_neg e2, List.append_nil]
      have : upP P q.nm (b', off', cap') p.nm = P p.nm := by simp [upP, e]
      rw [this]
      have hpL := inL p hp e
      have h := hN.pl p hpL
      refine h.kept KT (fun f => ?_)
      have hl := h.lt
      rcases f with f | f | f | f | ⟨⟨p0, hp0, hn0⟩, f⟩
      · exact h.neBox hN.box (by decide) f
      · exact h.neMap hN.m2 f
      · exact h.neMap hN.m3 f
      · omega
      · rw [← hn0] at f
        exact hN.pd p hpL p0 hp0 (fun g => e (g.trans hn0)) f
  · have key : ∀ r ∈ s.L, r.nm ≠ q.nm → b' ≠ (P r.nm).1 := fun r hr hrq => by
      have hl := (hN.pl r hr).lt
      rcases hb' with ⟨⟨p0, hp0, hn0⟩, g⟩ | g
      · rw [g, ← hn0]
        exact hN.pd p0 hp0 r hr (fun f => hrq (f.symm.trans hn0))
      · omega
    by_cases e1 : p.nm = q.nm
    · have e2 : r.nm ≠ q.nm := fun f => hne (e1.trans f.symm)
      have h1 : upP P q.nm (b', off', cap') p.nm = (b', off', cap') := by simp [upP, e1]
      have h2 : upP P q.nm (b', off', cap') r.nm = P r.nm := by simp [upP, e2]
      rw [h1, h2]
      exact key r (inL r hr e2) e2
    · have h1 : upP P q.nm (b', off', cap') p.nm = P p.nm := by simp [upP, e1]
      rw [h1]
      by_cases e2 : r.nm = q.nm
      · have h2 : upP P q.nm (b', off', cap') r.nm = (b', off', cap') := by simp [upP, e2]
        rw [h2]
        exact fun f => key p (inL p hp e1) e1 f.symm
      · have h2 : upP P q.nm (b', off', cap') r.nm = P r.nm := by simp [upP, e2]
        rw [h2]
        exact hN.pd p (inL p hp e1) r (inL r hr e2) hne
  · have hd : OwnB w 0 p.da p.dc p.zs := by
      rcases List.mem_append.1 hp with h | h
      · exact hN.dt p h
      · rw [List.mem_singleton.1 h]; exact hi.dt
    refine Own.kept hd KT (fun k e f => ?_)
    have hl := Own.ltA hd e
    rcases f with f | f | f | f | ⟨⟨p0, hp0, hn0⟩, f⟩
    · rw [f] at e; exact Own.neBox hd hN.box (by decide) e
    · rw [f] at e; exact Own.neMap hd hN.m2 e
    · rw [f] at e; exact Own.neMap hd hN.m3 e
    · omega
    · have h := hN.pl p0 hp0
      rw [hn0] at h
      obtain ⟨cs, h1⟩ := h.typ
      obtain ⟨cs', h2⟩ := Gx.own_type hd e
      rw [f] at h2
      exact Gx.typ_ne h2 h1 (by decide)
  · by_cases e1 : p.nm = q.nm
    · have h1 : upP P q.nm (b', off', cap') p.nm = (b', off', cap') := by simp [upP, e1]
      rw [h1]
      rcases hb' with ⟨⟨p0, hp0, hn0⟩, g⟩ | g
      · exact .inl (by show I b'; rw [g]; exact (hPl p0 hp0 hn0).2.2.2.2.2)
      · exact .inr (.inl (by show w.heap.size ≤ b'; omega))
    · have h1 : upP P q.nm (b', off', cap') p.nm = P p.nm := by simp [upP, e1]
      rw [h1]
      exact .inl (hN.inp p (inL p hp e1))
  · rcases List.mem_append.1 hp with h | h
    · exact .inl (hN.ind p h k e)
    · rw [List.mem_singleton.1 h] at e; exact .inr (.inr e)
section
set_option maxRecDepth 100000 in
set_option maxHeartbeats 8000000 in
theorem come_any {I : Nat → Prop} {n b1 b2 b3 : Nat} {s : Ns} {P : Nm → Nat × Nat × Nat} (q : Pq) (pv : Value) (w : World) (h : NetB w n s I b1 b2 b3 P) (hi : CoIn w s P q pv) :
    Calls Try.prog 34 #[.pointer (some ⟨n, 0, none⟩), .agg #[.bool q.nm.1.1, .int .i64 q.nm.1.2, .int .i64 q.nm.2], .agg #[.bool q.to'.1, .int .i64 q.to'.2, .slice q.da q.zs.length q.dc, pv]] w (fun e w' => (64 ≤ cnP s.L (q.nm.1, q.to') ∧ e = .returned (.bool false) ∧ Kept No w w') ∨ (cnP s.L (q.nm.1, q.to') < 64 ∧ e = .returned (.bool true) ∧ Kept (W5 w I) w w' ∧ ∃ P', NetB w' n ⟨s.sent, s.L ++ [q], s.came + 1⟩ (fun k => I k ∨ w.heap.size ≤ k ∨ At q.da k) b1 b2 b3 P')) := by
  have HN : Hid (NetB w n s I b1 b2 b3 P) := h
  have HI : Hid (CoIn w s P q pv) := hi
  clear h hi
  obtain ⟨⟨⟨kc, ki⟩, kn⟩, ⟨tc, ti⟩, da, dc, zs, pl⟩ := q
  simp only at HI ⊢
  go_enter Try.func34, Try.ntmps34
  go_upto_region 2 with fail
  obtain ⟨w3, hw3⟩ : ∃ w3, w3 = ((w.alloc (.cells #[.bool kc, .int .i64 ki, .int .i64 kn] 79)).alloc (.cells #[.bool tc, .int .i64 ti, .slice da zs.length dc, pv] 81)).alloc (.cells #[.bool kc, .int .i64 ki, .bool tc, .int .i64 ti] 76) := ⟨_, rfl⟩
  have HK3 : Hid (Kept No w w3) := by rw [hw3]; exact (((Kept.refl No w).alloc _).alloc _).alloc _
  have HBK : Hid (Box w3 w.heap.size 79 #[.bool kc, .int .i64 ki, .int .i64 kn]) := by rw [hw3]; exact ((Box.new _ _ _).alloc _).alloc _
  have HBA : Hid (Box w3 (w.heap.size + 1) 81 #[.bool tc, .int .i64 ti, .slice da zs.length dc, pv]) := by
    have h := (Box.new (w.alloc (.cells #[.bool kc, .int .i64 ki, .int .i64 kn] 79)) 81 #[.bool tc, .int .i64 ti, .slice da zs.length dc, pv]).alloc (.cells #[.bool kc, .int .i64 ki, .bool tc, .int .i64 ti] 76)
    have e : (w.alloc (.cells #[.bool kc, .int .i64 ki, .int .i64 kn] 79)).heap.size = w.heap.size + 1 := by simp
    rw [e] at h
    rw [hw3]
    exact h
  have HBW : Hid (Box w3 (w.heap.size + 1 + 1) 76 #[.bool kc, .int .i64 ki, .bool tc, .int .i64 ti]) := by
    have h := Box.new ((w.alloc (.cells #[.bool kc, .int .i64 ki, .int .i64 kn] 79)).alloc (.cells #[.bool tc, .int .i64 ti, .slice da zs.length dc, pv] 81)) 76 #[.bool kc, .int .i64 ki, .bool tc, .int .i64 ti]
    have e : ((w.alloc (.cells #[.bool kc, .int .i64 ki, .int .i64 kn] 79)).alloc (.cells #[.bool tc, .int .i64 ti, .slice da zs.length dc, pv] 81)).heap.size = w.heap.size + 1 + 1 := by simp
    rw [e] at h
    rw [hw3]
    exact h
  rw [← hw3]
  obtain ⟨bK, hbK⟩ : ∃ b, b = w.heap.size := ⟨_, rfl⟩
  obtain ⟨bA, hbA⟩ : ∃ b, b = w.heap.size + 1 := ⟨_, rfl⟩
  obtain ⟨bW, hbW⟩ : ∃ b, b = w.heap.size + 1 + 1 := ⟨_, rfl⟩
  rw [← hbW, ← hbA, ← hbK]
  rw [← hbK] at HBK
  rw [← hbA] at HBA
  rw [← hbW] at HBW
  have HBb : Hid (w.heap.size ≤ bK ∧ w.heap.size ≤ bA ∧ w.heap.size ≤ bW) := ⟨by omega, by omega, by omega⟩
  clear hw3 hbK hbA hbW
  have HN3 : Hid (NetB w3 n s I b1 b2 b3 P) := HN.out.no HK3.out
  have HLk : Hid (LkG mkP w3 b2 ((kc, ki), (tc, ti)) (.int .i64 0) (.int .i64 (cnP s.L ((kc, ki), (tc, ti)) : Nat))) := ⟨_, HN3.out.m2, gP_get _ _⟩
  refine c2 _ n bW b2 (cnP s.L ((kc, ki), (tc, ti))) ((kc, ki), (tc, ti)) _ _ _ w3 _ rfl rfl rfl HN3.out.box HBW.out HLk.out (fun _ _ t _ _ h => by cases t <;> exact h) ?_
  intro w4 hk4
  have HN4 : Hid (NetB w4 n s I b1 b2 b3 P) := HN3.out.no hk4
  have HBK4 : Hid (Box w4 bK 79 #[.bool kc, .int .i64 ki, .int .i64 kn]) := HBK.out.kept hk4 (fun e => e)
  have HBA4 : Hid (Box w4 bA 81 #[.bool tc, .int .i64 ti, .slice da zs.length dc, pv]) := HBA.out.kept hk4 (fun e => e)
  have HBW4 : Hid (Box w4 bW 76 #[.bool kc, .int .i64 ki, .bool tc, .int .i64 ti]) := HBW.out.kept hk4 (fun e => e)
  have HK4 : Hid (Kept No w w4) := HK3.out.then hk4
  clear hk4 HLk HN3 HBK HBA HBW HK3
  simp only [Wa.pA, Wa.pB, Wa.p1, Wa.p2, Wa.p3]
  by_cases hge : 64 ≤ cnP s.L ((kc, ki), (tc, ti))
  · have hd : decide (64 ≤ cnP s.L ((kc, ki), (tc, ti))) = true := decide_eq_true hge
    rw [hd]
    go_wp2
    go_ret
    exact .inl ⟨hge, rfl, HK4.out⟩
  · have hd : decide (64 ≤ cnP s.L ((kc, ki), (tc, ti))) = false := decide_eq_false hge
    rw [hd]
    have d3 := HN4.out.box.cell 3
    have f3 := HN4.out.box.frozen 3
    simp only [List.getElem?_toArray, List.getElem?_cons_zero, List.getElem?_cons_succ] at d3
    have hwr : IntKind.i64.wrap ((s.came : Int) + 1) = ((s.came + 1 : Nat) : Int) := by rw [IntKind.wrap_i64]; have := HI.out.few; push_cast; omega
    go_upto_region 5 with fail
    have hcm : (s.came : Int) + 1 = ((s.came + 1 : Nat) : Int) := by push_cast; rfl
    rw [hcm]
    have HB5 : Hid (Box (w4.setCell ⟨n, 3, none⟩ (.int .i64 ((s.came + 1 : Nat) : Int))) n 69 #[.map (some b1), .map (some b2), .map (some b3), .int .i64 ((s.came + 1 : Nat) : Int)] ∧ Kept (Only n) w4 (w4.setCell ⟨n, 3, none⟩ (.int .i64 ((s.came + 1 : Nat) : Int)))) := ⟨HN4.out.box.set 3 _, (Kept.refl (Only n) w4).setCell (p := ⟨n, 3, none⟩) (fun _ => rfl) _⟩
    generalize w4.setCell ⟨n, 3, none⟩ (.int .i64 ((s.came + 1 : Nat) : Int)) = w5 at HB5 ⊢
    clear d3 f3 hwr hcm
    have hnl : n < w.heap.size := HN.out.box.lt
    have hnW : n ≠ bW := by have := HBb.out.2.2; omega
    have hnA : n ≠ bA := by have := HBb.out.2.1; omega
    have hnK : n ≠ bK := by have := HBb.out.1; omega
    refine c5 _ n bW b2 (cnP s.L ((kc, ki), (tc, ti))) ((kc, ki), (tc, ti)) (gP s.L) _ _ _ w5 _ rfl rfl rfl HB5.out.1 (HBW4.out.kept HB5.out.2 (fun e => hnW e.symm)) (HN4.out.m2.kept HB5.out.2 (fun e => HN4.out.box.neMap HN4.out.m2 e.symm)) (gP_get _ _) (by have := HN4.out.ok.way ((kc, ki), (tc, ti)); omega) (fun _ _ t _ _ h => by cases t <;> exact h) ?_
    intro w6 st hm6 hk6
    have HM6 : Hid (MapG mkP w6 b2 (upG (gP s.L) ((kc, ki), (tc, ti)) (some (.int .i64 ((cnP s.L ((kc, ki), (tc, ti)) + 1 : Nat) : Int)))) ∧ Kept (Only b2) w5 w6) := ⟨hm6, hk6⟩
    clear hm6 hk6
    simp only [Wa.pA, Wa.pB, Wa.p1, Wa.p2, Wa.p3]
    have hm5 : MapG mkP w5 b2 (gP s.L) := HN4.out.m2.kept HB5.out.2 (fun e => HN4.out.box.neMap HN4.out.m2 e.symm)
    have HB6 : Hid (Box w6 n 69 #[.map (some b1), .map (some b2), .map (some b3), .int .i64 ((s.came + 1 : Nat) : Int)]) := HB5.out.1.kept HM6.out.2 (fun e => HB5.out.1.neMap hm5 e)
    have HBA6 : Hid (Box w6 bA 81 #[.bool tc, .int .i64 ti, .slice da zs.length dc, pv]) := (HBA4.out.kept HB5.out.2 (fun e => hnA e.symm)).kept HM6.out.2 (fun e => (HBA4.out.kept HB5.out.2 (fun e => hnA e.symm)).neMap hm5 e)
    have HBK6 : Hid (Box w6 bK 79 #[.bool kc, .int .i64 ki, .int .i64 kn]) := (HBK4.out.kept HB5.out.2 (fun e => hnK e.symm)).kept HM6.out.2 (fun e => (HBK4.out.kept HB5.out.2 (fun e => hnK e.symm)).neMap hm5 e)
    have K46 : Hid (Kept (fun j => j = n ∨ j = b2) w4 w6) := (HB5.out.2.mono (fun j _ e => .inl e)).then (HM6.out.2.mono (fun j _ e => .inr e))
    clear hm5
    go_upto_region 6 with fail
    refine c6 _ n bA (s.came + 1) _ _ _ pv _ _ _ (fun W G v' W' => CoR s.L ((kc, ki), kn) P (s.came + 1) W v' W') w6 _ rfl rfl rfl HB6.out HBA6.out hnA (fun W G hkW hcW => ?_) (fun _ _ t _ _ h => by cases t <;> exact h) ?_
    · have hpv := HI.out.pv
      rcases hpv with ⟨h1, h2⟩ | ⟨⟨p, hp, hpn⟩, h2⟩
      · obtain ⟨cap', w'', hr, hP, hk⟩ := appNl (ty := 57) (s.came + 1) hcW
        refine ⟨_, w'', by rw [h2]; exact hr, ⟨W.heap.size, 0, cap', by rw [h1]; rfl, by rw [h1]; exact hP, .inr (Nat.le_refl _), hk.of_no⟩, fun hb => hb.kept hk (fun e => e), fun hb => hb.kept hk (fun e => e), rfl, rfl⟩
      · have hpl := HN4.out.pl p hp
        rw [hpn] at hpl
        have hq1 : (P ((kc, ki), kn)).1 ≠ n := hpl.neBox HN4.out.box (by decide)
        have hq2 : (P ((kc, ki), kn)).1 ≠ b2 := hpl.neMap HN4.out.m2
        have hpW := (hpl.kept K46.out (fun e => by rcases e with e | e; exact hq1 e; exact hq2 e)).kept hkW (fun e => e)
        obtain ⟨b', off', cap', w'', hr, hP, hb', hk⟩ := appPl (ty := 57) hpW (s.came + 1) hcW (Nat.lt_of_le_of_lt (pls_le HN.out.ok _) (by decide))
        refine ⟨_, w'', by rw [h2]; exact hr, ⟨b', off', cap', rfl, hP, ?_, hk.mono (fun j _ e => ⟨⟨p, hp, hpn⟩, e⟩)⟩, fun hb => hb.kept hk (fun e => hpW.neBox hb (by decide) e.symm), fun hb => hb.kept hk (fun e => hpW.neBox hb (by decide) e.symm), rfl, rfl⟩
        rcases hb' with h | h
        · exact .inl ⟨⟨p, hp, hpn⟩, h⟩
        · exact .inr (Nat.le_of_eq h.symm)
    intro W G v2 W' hkW hR hBA7 hB7
    have HR : Hid (Kept No w6 W ∧ CoR s.L ((kc, ki), kn) P (s.came + 1) W v2 W') := ⟨hkW, hR⟩
    have HBA7 : Hid (Box (W'.setRow bA #[.bool tc, .int .i64 ti, .slice da zs.length dc, v2]) bA 81 #[.bool tc, .int .i64 ti, .slice da zs.length dc, v2] ∧ Kept (Only bA) W' (W'.setRow bA #[.bool tc, .int .i64 ti, .slice da zs.length dc, v2])) := ⟨hBA7, Wa.Kept.setRow _ _ _⟩
    have HB7 : Hid (Box (W'.setRow bA #[.bool tc, .int .i64 ti, .slice da zs.length dc, v2]) n 69 #[.map (some b1), .map (some b2), .map (some b3), .int .i64 ((s.came + 1 : Nat) : Int)]) := hB7
    clear hkW hR hBA7 hB7
    generalize W'.setRow bA #[.bool tc, .int .i64 ti, .slice da zs.length dc, v2] = w7 at HBA7 HB7 ⊢
    simp only [Wa.pA, Wa.pB, Wa.p1, Wa.p2, Wa.p3]
    have hT : ∀ j, j < w4.heap.size → (∀ p ∈ s.L, p.nm = ((kc, ki), kn) → j ≠ (P ((kc, ki), kn)).1) → j ≠ n → j ≠ b2 → j ≠ bA → True := fun _ _ _ _ _ _ => trivial
    have HK47 : Hid (Kept (fun j => j = n ∨ j = b2 ∨ j = bA ∨ ((∃ p ∈ s.L, p.nm = ((kc, ki), kn)) ∧ j = (P ((kc, ki), kn)).1)) w4 w7) := by
      obtain ⟨b', off', cap', _, _, _, hk⟩ := HR.out.2
      exact ((K46.out.mono (fun j _ e => by rcases e with e | e; exact .inl e; exact .inr (.inl e))).then HR.out.1.of_no).then ((hk.mono (fun j _ e => .inr (.inr (.inr e)))).then (HBA7.out.2.mono (fun j _ e => .inr (.inr (.inl e)))))
    have hb3l : b3 < w.heap.size := HN.out.m3.lt
    have hb3 : ∀ p ∈ s.L, p.nm = ((kc, ki), kn) → b3 ≠ (P ((kc, ki), kn)).1 := fun p hp e => by
      have h := HN4.out.pl p hp
      rw [e] at h
      exact fun f => h.neMap HN4.out.m3 f.symm
    have HM7 : Hid (MapG mkN w7 b3 (gN s.L P)) := HN4.out.m3.kept HK47.out (fun e => by
      rcases e with e | e | e | ⟨⟨p, hp, hpn⟩, e⟩
      · exact HN4.out.box.neMap HN4.out.m3 e.symm
      · exact HN4.out.ne.2.2 e.symm
      · have := HBb.out.2.1; omega
      · exact hb3 p hp hpn e)
    have HBK7 : Hid (Box w7 bK 79 #[.bool kc, .int .i64 ki, .int .i64 kn]) := HBK4.out.kept HK47.out (fun e => by
      rcases e with e | e | e | ⟨⟨p, hp, hpn⟩, e⟩
      · exact hnK e.symm
      · exact HBK4.out.neMap HN4.out.m2 e
      · exact Wa.box_ne HBK4.out HBA4.out (by decide) e
      · have h := HN4.out.pl p hp
        rw [hpn] at h
        exact h.neBox HBK4.out (by decide) e.symm)
    clear hT
    go_upto_region 7 with fail
    refine c7 _ n bK bA b3 ((kc, ki), kn) (gN s.L P) _ _ _ _ _ _ _ w7 _ rfl rfl rfl rfl HB7.out HBK7.out HBA7.out.1 HM7.out (fun _ _ t _ _ h => by cases t <;> exact h) ?_
    intro w8 hm8 hk8
    have HM8 : Hid (MapG mkN w8 b3 (upG (gN s.L P) ((kc, ki), kn) (some (.agg #[.bool tc, .int .i64 ti, .slice da zs.length dc, v2]))) ∧ Kept (Only b3) w7 w8) := ⟨hm8, hk8⟩
    clear hm8 hk8
    simp only [Wa.pA, Wa.pB, Wa.p1, Wa.p2, Wa.p3]
    go_wp2
    go_ret
    refine .inr ⟨by omega, rfl, ?_⟩
    exact come_fin (q := ⟨((kc, ki), kn), (tc, ti), da, dc, zs, pl⟩) HN.out HI.out (Nat.lt_of_not_le hge) HK4.out K46.out HM6.out.1 HR.out.1 HR.out.2 HBA7.out.2 HBb.out.2.1 HBA6.out.lt HB7.out HM8.out.1 HM8.out.2
end

end Go.Proofs.Ytphiokehcgbldaa
