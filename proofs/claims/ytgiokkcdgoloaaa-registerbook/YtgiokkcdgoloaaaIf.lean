import Derived.Test.YtgiokkcdgoloaaaIe
namespace Go.Proofs.Ytgiokkcdgoloaaa
open Go.RowKit
set_option linter.unusedVariables false
set_option linter.unusedSimpArgs false

theorem mrow_at (ms : Nat → Nat) {i : Nat} (hi : i < 3) : (mrow ms)[i]? = some (.iface 115 (.pointer (some ⟨ms i, 0, none⟩))) := by
  match i, hi with
  | 0, _ => rfl
  | 1, _ => rfl
  | 2, _ => rfl
def msF (m0 m1 m2 : Nat) (j : Nat) : Nat := if j = 0 then m0 else if j = 1 then m1 else m2
theorem Msgs.keptS {S : Nat → Prop} {W W' : World} {B : Nat} {la : Option Addr} {lc : Nat} {x : MS} {h : Qh} {zs : List Int} {qs : List Qm} (hM : Msgs W B la lc x h zs qs) (hk : Kept S W W') (h1 : ∀ k, At la k → ¬ S k) (h2 : ∀ q ∈ qs, ∀ k, At q.ba k → ¬ S k) : Msgs W' B la lc x h zs qs :=
  ⟨Own.kept hM.row hk h1, fun q hq => (hM.own q hq).keptS hk (h2 q hq), hM.ord, hM.len⟩
theorem Msgs.below {S : Nat → Prop} {W W' : World} {B : Nat} {la : Option Addr} {lc : Nat} {x : MS} {h : Qh} {zs : List Int} {qs : List Qm} (hM : Msgs W B la lc x h zs qs) (hk : Kept S W W') (hS : ∀ k, S k → k < B) : Msgs W' B la lc x h zs qs :=
  hM.keptS hk (fun k e f => by have := Own.base hM.row e; have := hS k f; omega) (fun q hq k e f => by have := Own.base (hM.own q hq) e; have := hS k f; omega)
/-- A list that was told, its blocks among P, none of it among X. -/
structure Tq (w0 : World) (P X : Nat → Prop) (p : Par) (i : Nat) (la : Option Addr) (ln lc : Nat) (x : MS) (h : Qh) (qs : List Qm) (B : Nat) (W : World) : Prop where
  ms : Msgs W B la lc x h (tz p i) qs
  bs : w0.heap.size ≤ B
  ql : qs.length = ln
  tl : ln = tellN i
  pq : ∀ q ∈ qs, ∀ j, At q.ba j → P j ∧ ¬ X j
  nl : ∀ j, At la j → ¬ X j
section
variable {X X' P P' S : Nat → Prop} {p : Par} {w0 : World} {rg : Nat} {ms : Nat → Nat} {i j ph : Nat} {ra : Option Addr} {rc : Nat} {K : List Gx.Ent} {I : Nat → Nat → Prop} {Z : Nat → List Int} {W W' : World} {la : Option Addr} {ln lc B : Nat} {x : MS} {hq : Qh} {qs : List Qm}
theorem Tq.kept (h : Tq w0 P X p i la ln lc x hq qs B W) (hk : Kept S W W') (hS : ∀ k, S k → X k) : Tq w0 P X p i la ln lc x hq qs B W' :=
  ⟨h.ms.keptS hk (fun k e f => h.nl k e (hS k f)) (fun q hqm k e f => (h.pq q hqm k e).2 (hS k f)), h.bs, h.ql, h.tl, h.pq, h.nl⟩
theorem Tq.no (h : Tq w0 P X p i la ln lc x hq qs B W) (hk : Kept No W W') : Tq w0 P X p i la ln lc x hq qs B W' := h.kept hk (fun _ e => e.elim)
/-- The three machines, new. -/
theorem ai_init {w w2 w3 w4 w5 : World} {m0 m1 m2 : Nat} {a0 a1 a2 da : Option Addr} {c0 c1 c2 dc : Nat} {zs bz : List Int} (hk2 : Kept No w w2)
    (hM0 : Mach w3 m0 a0 c0 x7 138 (.agg #[.iface 118 (wv da zs.length dc)])) (hD : OwnB w3 w2.heap.size da dc zs) (hB0 : ∀ k, MB m0 a0 k → w2.heap.size ≤ k) (hO : ∀ k, At da k → ∀ j, MB m0 a0 j → k < j) (hk3 : Kept No w2 w3)
    (hM1 : Mach w4 m1 a1 c1 x7 138 (.agg #[.iface 120 rv])) (hB1 : ∀ k, MB m1 a1 k → w3.heap.size ≤ k) (hk4 : Kept No w3 w4)
    (hM2 : Mach w5 m2 a2 c2 x7 138 (.agg #[.iface 120 rv])) (hB2 : ∀ k, MB m2 a2 k → w4.heap.size ≤ k) (hk5 : Kept No w4 w5) :
    ∃ I Z, Ai No No ⟨da, dc, zs, bz⟩ w w5.heap.size (msF m0 m1 m2) 0 0 none 0 [] I Z (w5.alloc (.cells (mrow (msF m0 m1 m2)) 31)) := by
  have l0 : ∀ k, MB m0 a0 k → k < w3.heap.size := fun k e => by
    rcases e with rfl | e
    · exact hM0.box.lt
    · exact Own.lt0 hM0.row e
  have l1 : ∀ k, MB m1 a1 k → k < w4.heap.size := fun k e => by
    rcases e with rfl | e
    · exact hM1.box.lt
    · exact Own.lt0 hM1.row e
  have l2 : ∀ k, MB m2 a2 k → k < w5.heap.size := fun k e => by
    rcases e with rfl | e
    · exact hM2.box.lt
    · exact Own.lt0 hM2.row e
  have s2 := hk2.size
  have s3 := hk3.size
  have s4 := hk4.size
  have s5 := hk5.size
  have ka : Kept No w5 (w5.alloc (.cells (mrow (msF m0 m1 m2)) 31)) := (Kept.refl No _).alloc _
  have s6 : (w5.alloc (.cells (mrow (msF m0 m1 m2)) 31)).heap.size = w5.heap.size + 1 := by simp
  have k35 : Kept No w3 (w5.alloc (.cells (mrow (msF m0 m1 m2)) 31)) := hk4.then (hk5.then ka)
  have k45 : Kept No w4 (w5.alloc (.cells (mrow (msF m0 m1 m2)) 31)) := hk5.then ka
  refine ⟨fun j k => if j = 0 then w2.heap.size ≤ k ∧ k < w3.heap.size else if j = 1 then w3.heap.size ≤ k ∧ k < w4.heap.size else w4.heap.size ≤ k ∧ k < w5.heap.size, fun _ => [], ?_⟩
  refine ⟨fun j hj => ?_, fun j hj k e => ?_, fun j hj _ k e => ⟨fun f => by obtain ⟨x, hx, _⟩ := f; simp at hx, fun f => f⟩, fun j hj j' hj' hne k e f => ?_, Gx.Erow.nil _ _ _, Gx.Rw.nil _ _, fun k e => absurd e At.none, Box.new _ _ _, by omega, hk2.then (hk3.then k35), fun k e => e.elim, fun k e => e.elim⟩
  · match j, hj with
    | 0, _ => exact Pm.w (.f ⟨a0, c0, hM0.no k35, ⟨fun y hy => by
        rw [List.mem_singleton.1 hy]
        exact ⟨OwnB.lower0 (Own.no hD k35), fun k e => ⟨⟨Own.base hD e, hD.lt e⟩, fun f => by have := hO k e k f; omega⟩⟩⟩, fun k e => ⟨hB0 k e, l0 k e⟩⟩)
    | 1, _ => exact Pm.r (.f ⟨a1, c1, hM1.no k45, ⟨fun y hy => by simp at hy⟩, fun k e => ⟨hB1 k e, l1 k e⟩⟩)
    | 2, _ => exact Pm.z (.f ⟨a2, c2, hM2.no ka, ⟨fun y hy => by simp at hy⟩, fun k e => ⟨hB2 k e, l2 k e⟩⟩)
  · have hb : w2.heap.size ≤ k ∧ k < w5.heap.size := by
      match j, hj with
      | 0, _ => have e : w2.heap.size ≤ k ∧ k < w3.heap.size := e; omega
      | 1, _ => have e : w3.heap.size ≤ k ∧ k < w4.heap.size := e; omega
      | 2, _ => have e : w4.heap.size ≤ k ∧ k < w5.heap.size := e; omega
    exact ⟨by omega, by omega, by omega, At.none, fun f => f⟩
  · match j, hj, j', hj' with
    | 0, _, 0, _ => exact hne rfl
    | 1, _, 1, _ => exact hne rfl
    | 2, _, 2, _ => exact hne rfl
    | 0, _, 1, _ => have e : w2.heap.size ≤ k ∧ k < w3.heap.size := e; have f : w3.heap.size ≤ k ∧ k < w4.heap.size := f; omega
    | 0, _, 2, _ => have e : w2.heap.size ≤ k ∧ k < w3.heap.size := e; have f : w4.heap.size ≤ k ∧ k < w5.heap.size := f; omega
    | 1, _, 0, _ => have f : w2.heap.size ≤ k ∧ k < w3.heap.size := f; have e : w3.heap.size ≤ k ∧ k < w4.heap.size := e; omega
    | 1, _, 2, _ => have e : w3.heap.size ≤ k ∧ k < w4.heap.size := e; have f : w4.heap.size ≤ k ∧ k < w5.heap.size := f; omega
    | 2, _, 0, _ => have f : w2.heap.size ≤ k ∧ k < w3.heap.size := f; have e : w4.heap.size ≤ k ∧ k < w5.heap.size := e; omega
    | 2, _, 1, _ => have f : w3.heap.size ≤ k ∧ k < w4.heap.size := f; have e : w4.heap.size ≤ k ∧ k < w5.heap.size := e; omega
theorem ai_begin (hi : i < 3) (h : Ai X No p w0 rg ms i 0 ra rc K I Z W) : Calls Try.prog 82 #[.pointer (some ⟨ms i, 0, none⟩)] W (fun e W' => ∃ la lc, e = .returned (.slice la 5 lc) ∧ ∃ I', Ai X No p w0 rg ms i 1 ra rc K I' Z W') := by
  have hs := h.st i hi
  rw [phs_at] at hs
  refine (begin_m hi hs).mono ?_
  rintro e W' ⟨la, lc, rfl, I', hP, hI, hk, hm⟩
  exact ⟨la, lc, rfl, _, h.step hi (by decide) hk (fun k e => by have e : k = ms i := e; rw [e]; exact hm) hP hI (fun k e => e.elim)⟩
theorem ai_take {k : Nat} (hi : i < 3) (hk1 : 1 ≤ k) (hk3 : k ≤ 3) (h0 : p.zs.length ≤ 140737488351232) (h1 : p.bz.length ≤ 140737488351232) (h : Ai X No p w0 rg ms i k ra rc K I Z W) (ba : Option Addr) (bk : Nat) (hb : Bytes W ba p.bz) :
    Calls Try.prog 85 #[.pointer (some ⟨ms i, 0, none⟩), .agg (valD k 7 (sN i k) (sC i) ba p.bz.length bk).cells] W (fun e W' => ∃ la ln lc, e = .returned (.slice la ln lc) ∧ ∃ P I', Ai X P p w0 rg ms i (k + 1) ra rc K I' Z W' ∧ (k = 3 → ∃ x hq qs B, Tq w0 P X p i la ln lc x hq qs B W') ∧ (k ≠ 3 → P = No) ∧ W.heap.size ≤ W'.heap.size ∧ ∀ S : Nat → Prop, (∀ k, S k → X k) → Kept (fun k => ¬ S k) W W') := by
  have hs := h.st i hi
  rw [phs_at] at hs
  have hw := h.kp.size
  refine (take_m hi hk1 hk3 (by omega) (by omega) hs ba bk hb).mono ?_
  rintro e W' ⟨la, ln, lc, rfl, I', hP, hI, hk, hT⟩
  have hKS : ∀ S : Nat → Prop, (∀ k, S k → X k) → Kept (fun k => ¬ S k) W W' := fun S hS => hk.mono (fun k l e f => (h.bd i hi k e).2.2.2.2 (hS k f))
  by_cases e3 : k = 3
  · obtain ⟨x, hq, qs, B, hM, hB, hql, htl, hne⟩ := hT e3
    refine ⟨la, ln, lc, rfl, fun j => ∃ q ∈ qs, At q.ba j, _, h.step hi (by omega) hk (fun k e => e) hP hI (fun j e => ?_), fun _ => ⟨x, hq, qs, B, hM, by omega, hql, htl, fun q hqm j e => ⟨⟨q, hqm, e⟩, fun f => ?_⟩, fun j e f => ?_⟩, fun e => absurd e3 e, hk.size, hKS⟩
    · obtain ⟨q, hqm, ha⟩ := e
      have := Own.base (hM.own q hqm) ha
      exact ⟨by omega, (hM.own q hqm).lt ha, fun e => hne (by rcases e with e | e; exact e; omega) q hqm j ha⟩
    · have := Own.base (hM.own q hqm) e; have := (h.xo j f).2.1; omega
    · have := Own.base hM.row e; have := (h.xo j f).2.1; omega
  · exact ⟨la, ln, lc, rfl, No, _, h.step hi (by omega) hk (fun k e => e) hP hI (fun j e => e.elim), fun e => absurd e e3, fun _ => rfl, hk.size, hKS⟩
theorem ai_tick (hj : j < 3) (hph : phs i ph j = 4) (h0 : p.zs.length ≤ 140737488351232) (h1 : p.bz.length ≤ 140737488351232) (h : Ai X P p w0 rg ms i ph ra rc K I Z W) :
    Calls Try.prog 86 #[.pointer (some ⟨ms j, 0, none⟩)] W (fun e W' => ∃ la ln lc, e = .returned (.slice la ln lc) ∧ ∃ P' x hq qs, Ai No P' p w0 rg ms i ph ra rc K I Z W' ∧ Tq w0 P' No p j la ln lc x hq qs W.heap.size W' ∧ Kept No W W') := by
  have hs := h.st j hj
  rw [hph] at hs
  refine (tick_m hj (by omega) (by omega) hs).mono ?_
  rintro e W' ⟨la, ln, lc, x, hq, qs, rfl, hM, hql, htl, hk⟩
  refine ⟨la, ln, lc, rfl, fun j => ∃ q ∈ qs, At q.ba j, x, hq, qs, h.fresh hk (fun k e => e.elim) (fun k e => ?_), ⟨hM, h.kp.size, hql, htl, fun q hqm j e => ⟨⟨q, hqm, e⟩, fun f => f⟩, fun j e f => f⟩, hk⟩
  obtain ⟨q, hqm, ha⟩ := e
  exact ⟨Own.base (hM.own q hqm) ha, (hM.own q hqm).lt ha⟩
theorem tz_len (h0 : p.zs.length ≤ 140737488351232) (h1 : p.bz.length ≤ 140737488351232) (j : Nat) : (tz p j).length ≤ 140737488351232 := by
  unfold tz
  split
  · exact h0
  · split
    · exact h1
    · simp
theorem ai_tell {ra' : Option Addr} {rc' : Nat} (h0 : p.zs.length ≤ 140737488351232) (h1 : p.bz.length ≤ 140737488351232) (h : Ai X P p w0 rg ms i ph ra rc K I Z W) (hT : Tq w0 P X p j la ln lc x hq qs B W) (hR : Gx.Rw W' w0.heap.size ra' rc' (K ++ qs.map (entQ hq))) (hA : (ra' = ra ∧ rc' = rc ∧ Kept (At ra) W W') ∨ ((∀ k, At ra' k → W.heap.size ≤ k) ∧ Kept No W W')) :
    ∃ Z', Ai No No p w0 rg ms i ph ra' rc' (K ++ qs.map (entQ hq)) I Z' W' := by
  have hl := tz_len h0 h1 j
  obtain ⟨Z', hE⟩ := adds (W := W) (lo := w0.heap.size) (zs := tz p j) (hq := hq) hT.ms.len (by rw [← hT.ms.len]; exact hl) qs K Z h.er (fun q hqm => Own.lower (hT.ms.own q hqm) hT.bs) hT.ms.ord (fun q hqm k e => (h.po k (hT.pq q hqm k e).1).2.2.2.2)
  refine ⟨Z', h.tell hE (fun k e => ?_) hR hA⟩
  obtain ⟨y, hy, ha⟩ := e
  obtain ⟨q, hqm, rfl⟩ := List.mem_map.1 hy
  exact (hT.pq q hqm k ha).1
theorem ai_done (h : Ai X P p w0 rg ms 3 0 ra rc K I Z W) : Calls Try.prog 83 #[.pointer (some ⟨ms 2, 0, none⟩)] W (fun e W' => ∃ sn sc da dc, e = .returned (.tuple #[.agg (resC 0 sn sc da 4 dc), .bool true]) ∧ OwnB W' W.heap.size da dc z4 ∧ Kept No W W') := done_m (h.st 2 (by decide))
theorem ai_grown (h : Ai X P p w0 rg ms 3 0 ra rc K I Z W) (hk : Kept (Gx.EB K) W W') : Pm p 0 4 (I 0) (ms 0) W' ∧ Pm p 2 4 (I 2) (ms 2) W' ∧ Kept No w0 W' :=
  ⟨(h.st 0 (by decide)).kept hk (fun k e l => ⟨(h.tk 0 (by decide) (.inl (by decide)) k e).1, e⟩), (h.st 2 (by decide)).kept hk (fun k e l => ⟨(h.tk 2 (by decide) (.inl (by decide)) k e).1, e⟩), h.kp.trans hk (fun _ e => e) (fun k l e => by have := (h.el e).1; omega)⟩
end

end Go.Proofs.Ytgiokkcdgoloaaa
