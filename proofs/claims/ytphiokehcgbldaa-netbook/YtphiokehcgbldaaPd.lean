import Derived.Test.YtphiokehcgbldaaPc
import Derived.Test.YtphiokehcgbldaaQj
namespace Go.Proofs.Ytphiokehcgbldaa
open Go.RowKit Go.Shelf
set_option linter.unusedVariables false
set_option linter.unusedSimpArgs false

section
variable {w0 w w' : World} {n : Nat} {s s' : Ns} {ab bb : Nat} {ra : Option Addr} {rc : Nat} {K : List Gx.Ent} {wa : Option Addr} {wc : Nat} {KW : List Gx.Ent} {T T' : Nat → Prop}
/-- What was told, and lies by, goes into the row of all. -/
theorem Bx.all' {T' : Nat → Prop} {ra' : Option Addr} {rc' : Nat} {pa : Option Addr} {pc : Nat} {zs : List Int} (h : Bx w0 w n s ab bb ra rc K wa wc KW T) (hO : OwnB w w0.heap.size pa pc zs) (hz : zs.length ≤ 140737488351232) (hpT : ∀ k, At pa k → T k) (hk : Kept (At ra) w w') (hR : Gx.Rw w' w0.heap.size ra' rc' (K ++ [⟨pa, zs.length, pc⟩])) (hg : ∀ k, At ra' k → At ra k ∨ w.heap.size ≤ k) (hT' : ∀ k, T' k → T k ∧ ¬ At pa k) :
    Bx w0 w' n s ab bb ra' rc' (K ++ [⟨pa, zs.length, pc⟩]) wa wc KW T' := by
  have hx : ∀ j, XB ab bb ra wa K T j → j < w.heap.size := h.nb.lt
  have hra' : ∀ k, At ra' k → k < w'.heap.size := fun k e => by
    obtain ⟨c, h1⟩ := hR.typ e
    exact (Array.getElem?_eq_some_iff.1 h1).1
  obtain ⟨Z, hZ⟩ := h.ent
  have hEB : ∀ k, Gx.EB (K ++ [⟨pa, zs.length, pc⟩]) k → Gx.EB K k ∨ At pa k := fun k ⟨e, he, ha⟩ => by
    rcases List.mem_append.1 he with he | he
    · exact .inl ⟨e, he, ha⟩
    · rw [List.mem_singleton.1 he] at ha; exact .inr ha
  have nra : ∀ k, (k = ab ∨ k = bb ∨ At wa k ∨ Gx.EB K k ∨ At pa k) → ¬ At ra k := fun k e f => by
    obtain ⟨c, hc⟩ := h.row.typ f
    rcases e with rfl | rfl | e | e | e
    · have hb : w.heap[k]? = some (.cells _ 34 (0, 0)) := h.bA
      rw [hc] at hb; cases hb
    · have hb : w.heap[k]? = some (.cells _ 34 (0, 0)) := h.bB
      rw [hc] at hb; cases hb
    · exact h.ap k f e
    · exact h.row.apart hZ f e
    · exact (h.tf k (hpT k e)).2.2.2.1 f
  refine ⟨h.nb.own hk (fun k e => .inr (.inr (.inl e))) (fun k e => h.row.base e) (fun k e => ?_) (fun k e => ?_), h.bA.kept hk (nra _ (.inl rfl)), h.bB.kept hk (nra _ (.inr (.inl rfl))), hR, ⟨_, Gx.Erow.add (hZ.kept hk (fun k e => nra k (.inr (.inr (.inr (.inl e)))))) rfl (Own.kept hO hk (fun k e => nra k (.inr (.inr (.inr (.inr e)))))) hz (fun k e f => (h.tf k (hpT k e)).2.2.2.2.2 f)⟩, h.wnt.kept hk (fun k e => nra k (.inr (.inr (.inl e)))), fun k e f => ?_, h.lo, fun k e => ?_⟩
  · rcases e with e | e | e | e | e | e
    · exact .inl (.inl e)
    · exact .inl (.inr (.inl e))
    · rcases hg k e with e | e
      · exact .inl (.inr (.inr (.inl e)))
      · exact .inr e
    · exact .inl (.inr (.inr (.inr (.inl e))))
    · rcases hEB k e with e | e
      · exact .inl (.inr (.inr (.inr (.inr (.inl e)))))
      · exact .inl (.inr (.inr (.inr (.inr (.inr (hpT k e))))))
    · exact .inl (.inr (.inr (.inr (.inr (.inr (hT' k e).1)))))
  · rcases e with e | e | e | e | e | e
    · exact Nat.lt_of_lt_of_le (hx k (.inl e)) hk.size
    · exact Nat.lt_of_lt_of_le (hx k (.inr (.inl e))) hk.size
    · exact hra' k e
    · exact Nat.lt_of_lt_of_le (hx k (.inr (.inr (.inr (.inl e))))) hk.size
    · rcases hEB k e with e | e
      · exact Nat.lt_of_lt_of_le (hx k (.inr (.inr (.inr (.inr (.inl e)))))) hk.size
      · exact Nat.lt_of_lt_of_le (hx k (.inr (.inr (.inr (.inr (.inr (hpT k e))))))) hk.size
    · exact Nat.lt_of_lt_of_le (hx k (.inr (.inr (.inr (.inr (.inr (hT' k e).1)))))) hk.size
  · rcases hg k e with e | e
    · exact h.ap k e f
    · have := hx k (.inr (.inr (.inr (.inl f)))); omega
  · have h1 := h.tf k (hT' k e).1
    have hl := hx k (.inr (.inr (.inr (.inr (.inr (hT' k e).1)))))
    refine ⟨h1.1, h1.2.1, h1.2.2.1, fun f => ?_, h1.2.2.2.2.1, fun f => ?_⟩
    · rcases hg k f with f | f
      · exact h1.2.2.2.1 f
      · omega
    · rcases hEB k f with f | f
      · exact h1.2.2.2.2.2 f
      · exact (hT' k e).2 f

/-- What is under way: doubles of ds, and k packets more of the bytes zs. -/
def Sb (s : Ns) (ds : List (List Int)) (zs : List Int) (k j c : Nat) : Prop :=
  ∃ L0 ps, s.L = L0 ++ ps ∧ L0.map nz = dbl ds 0 ∧ (∀ q ∈ L0, q.to' = (true, 2)) ∧ ps.length = k ∧ (∀ q ∈ ps, q.nm = ((false, 1), ((ds.length + 1 : Nat) : Int)) ∧ q.to' = (true, 2) ∧ q.zs = zs) ∧ s.sent (false, 1) = j ∧ s.came ≤ c
theorem Sb.old {L0 : List Pq} {ds : List (List Int)} (h : L0.map nz = dbl ds 0) : ∀ q ∈ L0, q.nm ≠ ((false, 1), ((ds.length + 1 : Nat) : Int)) := fun q hq e => by
  have hm : nz q ∈ dbl ds 0 := by rw [← h]; exact List.mem_map.2 ⟨q, hq, rfl⟩
  have := dbl_le ds 0 _ hm
  have e2 : (nz q).1.2 = ((ds.length + 1 : Nat) : Int) := by show q.nm.2 = _; rw [e]
  rw [e2] at this
  omega
theorem Sb.len {ds : List (List Int)} {zs : List Int} {k j c : Nat} (h : Sb s ds zs k j c) : s.L.length = 2 * ds.length + k := by
  obtain ⟨L0, ps, h1, h2, _, h4, _⟩ := h
  have := congrArg List.length h2
  rw [List.length_map, dbl_len] at this
  rw [h1, List.length_append]; omega
theorem Sb.cn {ds : List (List Int)} {zs : List Int} {k j c : Nat} (h : Sb s ds zs k j c) (hd : ds.length ≤ 12) (hk : k ≤ 3) (p : Pr) : cnP s.L p < 64 := by
  have := h.len
  have := cnP_le s.L p
  omega
theorem Sb.fnd {ds : List (List Int)} {zs : List Int} {k j c : Nat} (h : Sb s ds zs (k + 1) j c) : ∃ q, s.L.find? (isN ((false, 1), ((ds.length + 1 : Nat) : Int))) = some q ∧ q.nm = ((false, 1), ((ds.length + 1 : Nat) : Int)) ∧ q.to' = (true, 2) ∧ q.zs = zs ∧ Sb ⟨s.sent, rmN ((false, 1), ((ds.length + 1 : Nat) : Int)) s.L, s.came⟩ ds zs k j c ∧ ∀ p, Sb ⟨s.sent, s.L ++ [{ q with pl := p }], s.came + 1⟩ ds zs (k + 2) j (c + 1) := by
  obtain ⟨L0, ps, h1, h2, h3, h4, h5, h6, h7⟩ := h
  cases ps with
  | nil => simp at h4
  | cons q ps =>
    have hq := h5 q (by simp)
    obtain ⟨f1, f2⟩ := Go.Proofs.Ytphiokehcgbldaa.fnd (Sb.old h2) q hq.1 ps
    refine ⟨q, by rw [h1]; exact f1, hq.1, hq.2.1, hq.2.2, ⟨L0, ps, by show rmN _ s.L = _; rw [h1]; exact f2, h2, h3, by simpa using h4, fun p hp => h5 p (by simp [hp]), h6, h7⟩, fun p => ⟨L0, q :: ps ++ [{ q with pl := p }], by show s.L ++ _ = _; rw [h1]; simp, h2, h3, by simp at h4 ⊢; omega, fun r hr => ?_, h6, by show s.came + 1 ≤ c + 1; omega⟩⟩
    rcases List.mem_append.1 hr with hr | hr
    · exact h5 r hr
    · rw [List.mem_singleton.1 hr]; exact hq
theorem Sb.more {ds : List (List Int)} {zs : List Int} {j c : Nat} (h : Sb s ds zs 2 j c) (y : List Int) : Sb s (ds ++ [zs]) y 0 j c := by
  obtain ⟨L0, ps, h1, h2, h3, h4, h5, h6, h7⟩ := h
  match ps, h4 with
  | [p, q], _ =>
    have hp := h5 p (by simp)
    have hq := h5 q (by simp)
    refine ⟨L0 ++ [p, q], [], by simp [h1], ?_, fun r hr => ?_, rfl, fun r hr => by simp at hr, h6, h7⟩
    · rw [List.map_append, h2, dbl_app]
      simp [nz, hp.1, hp.2.2, hq.1, hq.2.2]
    · rcases List.mem_append.1 hr with hr | hr
      · exact h3 r hr
      · simp at hr
        rcases hr with rfl | rfl
        · exact hp.2.1
        · exact hq.2.1
theorem Sb.zero (y : List Int) : Sb ns0 [] y 0 0 0 := ⟨[], [], rfl, rfl, fun q h => by simp at h, rfl, fun q h => by simp at h, rfl, Nat.le_refl _⟩
theorem bk_send (h : Bx w0 w n s ab bb ra rc K wa wc KW T) {ds : List (List Int)} {zs y : List Int} {c : Nat} (hs : Sb s ds y 0 ds.length c) (hd : ds.length < 12) (hc : c ≤ 1000) {g i : Nat} (hi : ds.length = i) (hT : T g) (hb : Blk w g (lent zs 5)) (hz : zs.length ≤ 140737488351232) :
    Calls Try.prog 13 #[.pointer (some ⟨n, 0, none⟩), .agg #[.bool false, .int .i64 1, .int .i64 0, .bool true, .int .i64 2, .slice (some ⟨g, 0, none⟩) zs.length (zs.length + 5)]] w (fun e w' => e = .returned (.tuple #[.int .i64 ((i + 1 : Nat) : Int), .bool true]) ∧ (∃ s1, Sb s1 ds zs 1 (i + 1) (c + 1) ∧ Bx w0 w' n s1 ab bb ra rc K wa wc KW T) ∧ Blk w' g (lent zs 5)) := by
  subst hi
  have hX : XB ab bb ra wa K T g := .inr (.inr (.inr (.inr (.inr hT))))
  have hs0 := hs
  obtain ⟨L0, ps, h1, h2, h3, h4, h5, h6, h7⟩ := hs
  obtain rfl : ps = [] := List.length_eq_zero_iff.1 h4
  rw [List.append_nil] at h1
  refine (nb_send h.nb false true 1 2 0 (some ⟨g, 0, none⟩) zs.length (zs.length + 5) zs rfl (by omega) (by have hB := hb.bytes0 zs.length; rw [lent_take] at hB; exact hB) (fun _ k hk => by obtain ⟨ad, e, e'⟩ := hk; cases e; have e' : g = k := e'; rw [← e']; exact ⟨.inr hX, hb.lt⟩) (by omega) ds.length h6 (by omega) (hs0.cn (by omega) (by omega) _)).mono ?_
  rintro e w' ⟨rfl, hk, ra', rc', hN⟩
  refine ⟨rfl, ⟨_, ⟨L0, [_], by show s.L ++ _ = _; rw [h1], h2, h3, rfl, fun q hq => ?_, ?_, ?_⟩, h.net hk hN⟩, hb.kept hk (fun e => e.2 hX)⟩
  · rw [List.mem_singleton.1 hq]; exact ⟨rfl, rfl, rfl⟩
  · simp [sentS, h6]
  · show s.came + 1 ≤ c + 1; omega
theorem bk_double (h : Bx w0 w n s ab bb ra rc K wa wc KW T) {ds : List (List Int)} {zs : List Int} {c k j : Nat} (hs : Sb s ds zs (k + 1) j c) (hd : ds.length < 12) (hc : c ≤ 1000) (hk2 : k ≤ 1) {i : Nat} (hi : ds.length = i) :
    Calls Try.prog 18 #[.pointer (some ⟨n, 0, none⟩), .agg #[.bool false, .int .i64 1], .int .i64 ((i + 1 : Nat) : Int)] w (fun e w' => e = .returned (.int .i64 0) ∧ (∃ s1, Sb s1 ds zs (k + 2) j (c + 1) ∧ Bx w0 w' n s1 ab bb ra rc K wa wc KW T)) := by
  subst hi
  obtain ⟨q, f1, f2, f3, f4, f5, f6⟩ := hs.fnd
  have hcm : s.came ≤ c := by obtain ⟨_, _, _, _, _, _, _, _, h⟩ := hs; exact h
  refine (nb_double h.nb false 1 _ (by omega) f1 (hs.cn (by omega) (by omega) _)).mono ?_
  rintro e w' ⟨rfl, hk, hN⟩
  exact ⟨rfl, _, f6 _, h.net hk hN⟩
theorem bk_deliver (h : Bx w0 w n s ab bb ra rc K wa wc KW T) {ds : List (List Int)} {zs : List Int} {c k j : Nat} (hs : Sb s ds zs (k + 1) j c) {i : Nat} (hi : ds.length = i) :
    Calls Try.prog 15 #[.pointer (some ⟨n, 0, none⟩), .agg #[.bool false, .int .i64 1], .int .i64 ((i + 1 : Nat) : Int)] w (fun e w' => ∃ pa pc, e = .returned (.tuple #[.agg #[.bool false, .int .i64 1, .int .i64 ((i + 1 : Nat) : Int), .bool true, .int .i64 2, .slice pa zs.length pc], .int .i64 0]) ∧ (∃ s1, Sb s1 ds zs k j c ∧ Bx w0 w' n s1 ab bb ra rc K wa wc KW (fun k => T k ∨ At pa k)) ∧ OwnB w' w0.heap.size pa pc zs) := by
  subst hi
  obtain ⟨q, f1, f2, f3, f4, f5, f6⟩ := hs.fnd
  refine (nb_deliver h.nb false 1 _ f1).mono ?_
  rintro e w' ⟨pa, pc, rfl, hO, hk, hN⟩
  refine ⟨pa, pc, ?_, ⟨_, f5, ?_⟩, ?_⟩
  · rw [f3, f4]
  · refine h.op hk (fun k e f => e.2 ?_) (hN.own (Kept.refl No _) (fun k e => e.elim) (fun k e => e.elim) (fun k e => ?_) (fun k e => ?_)) (fun k e => ?_)
    · rcases f with f | f | f | f | f
      exact .inl f
      exact .inr (.inl f)
      exact .inr (.inr (.inl f))
      exact .inr (.inr (.inr (.inl f)))
      exact .inr (.inr (.inr (.inr (.inl f))))
    · rcases e with e | e | e | e | e | e | e
      · exact .inl (.inl (.inl e))
      · exact .inl (.inl (.inr (.inl e)))
      · exact .inl (.inl (.inr (.inr (.inl e))))
      · exact .inl (.inl (.inr (.inr (.inr (.inl e)))))
      · exact .inl (.inl (.inr (.inr (.inr (.inr (.inl e))))))
      · exact .inl (.inl (.inr (.inr (.inr (.inr (.inr e))))))
      · exact .inl (.inr e)
    · rcases e with e | e | e | e | e | e | e
      · exact hN.lt k (.inl (.inl e))
      · exact hN.lt k (.inl (.inr (.inl e)))
      · exact hN.lt k (.inl (.inr (.inr (.inl e))))
      · exact hN.lt k (.inl (.inr (.inr (.inr (.inl e)))))
      · exact hN.lt k (.inl (.inr (.inr (.inr (.inr (.inl e))))))
      · exact hN.lt k (.inl (.inr (.inr (.inr (.inr (.inr e))))))
      · exact hN.lt k (.inr e)
    · rcases e with e | e
      · exact .inl e
      · exact .inr (Own.base hO e)
  · rw [f4] at hO
    exact Own.lower hO h.nb.kept.size
end
end Go.Proofs.Ytphiokehcgbldaa
