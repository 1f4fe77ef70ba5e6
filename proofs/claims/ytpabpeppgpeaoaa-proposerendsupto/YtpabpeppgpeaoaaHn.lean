import Derived.Test.YtpabpeppgpeaoaaHm
namespace Go.Proofs.Ytpabpeppgpeaoaa.Md
open Go.RowKit Gx
set_option linter.unusedVariables false
set_option linter.unusedSimpArgs false

theorem make_N (w : World) (n : Nat) (hb : n ≤ 100000000) : (Instr.makeSlice 64 (.int .i64 (n : Int)) (.int .i64 (n : Int))).run Try.prog w = .ok (.slice (some ⟨w.heap.size, 0, none⟩) n n) (w.alloc (.cells (insL (List.replicate n inZ)).toArray 142)) := by
  cases hq : Try.prog.info? 142 with
  | none => have := I142; simp [hq] at this
  | some i =>
    have h1 := I142
    simp only [hq, Option.map_some, Option.some.injEq, Prod.mk.injEq] at h1
    obtain ⟨hz, hs, hby⟩ := h1
    have h := run_make (P := Try.prog) w 64 142 i (.agg inZ.cells) U64 hq hz .i64 .i64 (n : Int) (n : Int) (by omega) (by omega) (by rw [hby]; omega) (by omega)
    rw [h, hs, show insL (List.replicate n inZ) = ((List.replicate n inZ.cs).flatten) by simp [insL]]
    simp only [Int.toNat_natCast]
    have hm := made_row 14 inZ.cs rfl (by omega) n
    rw [← hm]
    rfl
theorem box_own {W : World} {g n c : Nat} {t : TypeId} {vs : List Value} (hb : Box W g t vs.toArray) (hl : vs.length = n * c) (hn : n ≤ 1000000) : Own t c W 0 (some ⟨g, 0, none⟩) n n vs :=
  ⟨by exact hl, .inr ⟨g, n, _, rfl, Nat.zero_le _, hb, Nat.le_refl _, by unfold maxLen; omega, by simpa using hl, by rw [List.take_of_length_le (by simp [hl])]⟩⟩
/-- The hall begins. -/
theorem Hal.first {W : World} {hb gi n : Nat} {ky : Ky} {g : Sl} {zs : List Int} (hx : Box W hb 68 (Hv.cells ⟨ky, g, ⟨some ⟨gi, 0, none⟩, n, n⟩, slZ, slZ, slZ, slZ, slZ⟩)) (hg : OwI W 0 g zs) (hi : Box W gi 142 (insL (List.replicate n inZ)).toArray) (hn : n ≤ 1000) :
    Hal W (fun k => k = hb ∨ At g.a k ∨ k = gi) hb ⟨ky, g, ⟨some ⟨gi, 0, none⟩, n, n⟩, slZ, slZ, slZ, slZ, slZ⟩ [] ⟨zs, List.replicate n Ytpabpeppgpeaoaa.iZ, [], [], [], [], []⟩ := by
  refine ⟨fun _ _ => False, hx, hg, ⟨?_, by simp⟩, ⟨Own.nil _ _ _ _, rfl⟩, OwM.nil _ _, OwD.nil _, ⟨Own.nil _ _ _ _, rfl⟩, ⟨Own.nil _ _ _ _, rfl⟩, rfl, fun j s k hs => absurd hs (by simp), fun _ _ _ e => e.elim, fun _ _ e => e.elim, fun _ _ e => e.elim, fun _ _ e => At.none e, fun _ _ e => At.none e, fun _ e => absurd e At.none, fun _ _ e => e.elim, fun k e => ?_, fun k e => ?_⟩
  · have : (List.replicate n Ytpabpeppgpeaoaa.iZ).map dI = List.replicate n inZ := by rw [List.map_replicate]; rfl
    rw [this]
    refine box_own hi ?_ (show n ≤ 1000000 by omega)
    rw [show insL (List.replicate n inZ) = ((List.replicate n inZ).map In.cs).flatten from rfl, flat_len 14 _ (insL_c _), List.length_map, List.length_replicate]
  · rcases e with e | e | e | e | e | e | e | e
    · exact .inl e
    · exact .inr (.inl e)
    · obtain ⟨ad, e, rfl⟩ := e; cases e; exact .inr (.inr rfl)
    · exact absurd e At.none
    · exact absurd e At.none
    · exact absurd e At.none
    · exact absurd e At.none
    · exact absurd e At.none
  · rcases e with e | e | e
    · rw [e]; exact hx.lt
    · exact Own.lt hg.own e
    · rw [e]; exact hi.lt
/-- A proposer that was just made. -/
structure NewP (W0 W : World) (I : Nat → Prop) (p : Nat) (s : PS) : Prop where
  prp : Prp W I p s
  fr : ∀ k, I k → W0.heap.size ≤ k ∧ k < W.heap.size ∧ NotM W k
  kept : Kept No W0 W
theorem NewP.no {W0 W W2 : World} {I : Nat → Prop} {p : Nat} {s : PS} (h : NewP W0 W I p s) (hk : Kept No W W2) : NewP W0 W2 I p s :=
  ⟨h.prp.no hk, fun k e => ⟨(h.fr k e).1, Nat.lt_of_lt_of_le (h.fr k e).2.1 hk.size, notM_kept (h.fr k e).2.2 hk (h.fr k e).2.1 (fun f => f)⟩, h.kept.then hk⟩
section
variable {w W W2 : World} {J0 J : Nat → Prop} {hb : Nat} {v : Hv} {pp : List Nat} {h : Pax.Hl} {l : List (Nat × TypeId × Array Value)} {T : List (Sl × List Mg)}
/-- One more proposer. -/
theorem Hg.addP (H : Hg w W J0 J hb v pp h l T) {I' : Nat → Prop} {p : Nat} {s : PS} (hP : NewP W W2 I' p s) (hn : v.p.l ≤ 1000) {ad : Addr} {cc : Nat} (hc : W2.cell? (ad.add 0) = some (ptV p)) :
    ∃ a' k' W3 J2, (Builtin.append_ #[65, 65] 65 #[v.p.v, .slice (some ad) 1 cc]).run Try.prog W2 = .ok (.slice a' (v.p.l + 1) k') W3 ∧ Box W3 hb 68 v.cells ∧
      Hg w (W3.setRow hb (Hv.cells ⟨v.ky, v.g, v.i, ⟨a', v.p.l + 1, k'⟩, v.y, v.d, v.a, v.b⟩)) J0 J2 hb ⟨v.ky, v.g, v.i, ⟨a', v.p.l + 1, k'⟩, v.y, v.d, v.a, v.b⟩ (pp ++ [p]) { h with ps := h.ps ++ [s] } l T := by
  obtain ⟨I, A⟩ := (H.hal.no hP.kept)
  have hjl := H.hal.jl
  obtain ⟨a', k', W3, hrun, hO, hk, hat⟩ := run_appN (w := W2) 65 65 31 1 8 (.pointer none) U65 I31 rfl (by omega) 0 v.p.l v.p.k v.p.a (pp.map ptV) A.prs.own (some ad) 1 cc [ptV p] rfl (fun e => by cases e) (fun j u hj => ⟨ad, rfl, by
    have hj' := (List.getElem?_eq_some_iff.1 hj).1
    have e0 : j = 0 := by simp at hj'; omega
    subst e0
    have hj : some (ptV p) = some u := hj
    rw [← hj]; exact hc⟩) (by simp [ptV, Value.oneCell']) (by omega) (by omega) (Nat.zero_le _)
  have nb : ¬ At v.p.a hb := fun e => no_ty (A.tyP e) ⟨_, A.box⟩ (by decide)
  have b2 := A.box.kept hk nb
  have hJI : ∀ k, I' k → ¬ J k := fun k e f => by have := (hP.fr k e).1; have := hjl k f; omega
  have hk2 : Kept (Only hb) W3 (W3.setRow hb (Hv.cells ⟨v.ky, v.g, v.i, ⟨a', v.p.l + 1, k'⟩, v.y, v.d, v.a, v.b⟩)) := Kept.setRow W3 hb _
  have hk3 : Kept (fun k => At v.p.a k ∨ k = hb) W2 (W3.setRow hb (Hv.cells ⟨v.ky, v.g, v.i, ⟨a', v.p.l + 1, k'⟩, v.y, v.d, v.a, v.b⟩)) := hk.trans hk2 (fun _ e => .inl e) (fun _ _ e => .inr e)
  have off : ∀ {k : Nat} {t : TypeId}, (∃ cs, Box W2 k t cs) → t ≠ 31 → t ≠ 68 → ¬ (At v.p.a k ∨ k = hb) := fun ht h1 h2 e => by
    rcases e with e | rfl
    · exact no_ty ht (A.tyP e) h1
    · exact no_ty ht ⟨_, A.box⟩ h2
  have hRJ : ∀ k, (At v.p.a k ∨ k = hb) → J k := fun k e => e.elim (fun e => A.rj k (.inr (.inr (.inr (.inl e))))) (fun e => A.rj k (.inl e))
  have hyb : ¬ At a' hb := fun e => own_ty hO b2 (by decide) e
  have yi : ∀ j k, I j k → ¬ At a' k := fun j k e f => by
    rcases hat k f with f | f
    · exact A.ri j k e (.inr (.inr (.inr (.inl f))))
    · have := A.jl k (A.ij j k e); omega
  have yI : ∀ k, I' k → ¬ At a' k := fun k e f => by
    rcases hat k f with f | f
    · exact hJI k e (A.rj k (.inr (.inr (.inr (.inl f)))))
    · have := (hP.fr k e).2.1; omega
  have hn' := A.pl
  have hal : Hal (W3.setRow hb (Hv.cells ⟨v.ky, v.g, v.i, ⟨a', v.p.l + 1, k'⟩, v.y, v.d, v.a, v.b⟩)) (fun k => J k ∨ At a' k ∨ I' k) hb ⟨v.ky, v.g, v.i, ⟨a', v.p.l + 1, k'⟩, v.y, v.d, v.a, v.b⟩ (pp ++ [p]) { h with ps := h.ps ++ [s] } := by
    refine ⟨fun j k => (j < pp.length ∧ I j k) ∨ (j = pp.length ∧ I' k), Box.setRow b2 _, A.gr.kept hk3 (fun k e => off (A.tyG e) (by decide) (by decide)), A.ins.kept hk3 (fun k e => off (A.tyI e) (by decide) (by decide)), ⟨by rw [List.map_append]; exact Own.kept hO hk2 (fun k e f => hyb ((show k = hb from f) ▸ e)), by rw [List.length_append, A.prs.len]; rfl⟩, A.way.kept hk3 (fun k e => off (A.tyY e) (by decide) (by decide)), A.dec.kept hk3 (fun k e => off (A.tyD e) (by decide) (by decide)), A.nkd.kept hk3 (fun k e => off (A.tyA e) (by decide) (by decide)), A.nks.kept hk3 (fun k e => off (A.tyB e) (by decide) (by decide)), by show (pp ++ [p]).length = (h.ps ++ [s]).length; rw [List.length_append, List.length_append, A.pl]; rfl, ?_, ?_, ?_, ?_, A.ga, A.gb, A.ab, ?_, ?_, ?_⟩
    · intro j x k hx hq
      replace hx : (h.ps ++ [s])[j]? = some x := hx
      by_cases hj : j < h.ps.length
      · rw [List.getElem?_append_left hj] at hx
        rw [List.getElem?_append_left (by omega)] at hq
        exact (A.pr j x k hx hq).kept hk3 (fun q e _ _ => ⟨fun f => A.ri j q e (f.elim (fun f => .inr (.inr (.inr (.inl f)))) .inl), .inl ⟨by omega, e⟩⟩)
      · rw [List.getElem?_append_right (by omega)] at hx hq
        have h0 : j - h.ps.length = 0 := by have := (List.getElem?_eq_some_iff.1 hx).1; simp at this; omega
        rw [h0] at hx
        rw [show j - pp.length = 0 by omega] at hq
        cases Option.some.inj hx
        cases Option.some.inj hq
        exact hP.prp.kept hk3 (fun q e _ _ => ⟨fun f => hJI q e (hRJ q f), .inr ⟨by omega, e⟩⟩)
    · rintro i j k (⟨e1, e⟩ | ⟨e1, e⟩) (⟨f1, f⟩ | ⟨f1, f⟩)
      · exact A.ii i j k e f
      · exact absurd (A.ij i k e) (hJI k f)
      · exact absurd (A.ij j k f) (hJI k e)
      · omega
    · rintro j k (⟨e1, e⟩ | ⟨e1, e⟩)
      · exact notM_kept (A.im j k e) hk3 (A.jl k (A.ij j k e)) (fun f => A.ri j k e (f.elim (fun f => .inr (.inr (.inr (.inl f)))) .inl))
      · exact notM_kept (hP.fr k e).2.2 hk3 (hP.fr k e).2.1 (fun f => hJI k e (hRJ k f))
    · rintro j k (⟨e1, e⟩ | ⟨e1, e⟩) f
      · rcases f with f | f | f | f | f | f | f | f
        · exact A.ri j k e (.inl f)
        · exact A.ri j k e (.inr (.inl f))
        · exact A.ri j k e (.inr (.inr (.inl f)))
        · exact yi j k e f
        · exact A.ri j k e (.inr (.inr (.inr (.inr (.inl f)))))
        · exact A.ri j k e (.inr (.inr (.inr (.inr (.inr (.inl f))))))
        · exact A.ri j k e (.inr (.inr (.inr (.inr (.inr (.inr (.inl f)))))))
        · exact A.ri j k e (.inr (.inr (.inr (.inr (.inr (.inr (.inr f)))))))
      · rcases f with f | f | f | f | f | f | f | f
        · exact hJI k e (A.rj k (.inl f))
        · exact hJI k e (A.rj k (.inr (.inl f)))
        · exact hJI k e (A.rj k (.inr (.inr (.inl f))))
        · exact yI k e f
        · exact hJI k e (A.rj k (.inr (.inr (.inr (.inr (.inl f))))))
        · exact hJI k e (A.rj k (.inr (.inr (.inr (.inr (.inr (.inl f)))))))
        · exact hJI k e (A.rj k (.inr (.inr (.inr (.inr (.inr (.inr (.inl f))))))))
        · exact hJI k e (A.rj k (.inr (.inr (.inr (.inr (.inr (.inr (.inr f))))))))
    · rintro j k (⟨e1, e⟩ | ⟨e1, e⟩)
      · exact .inl (A.ij j k e)
      · exact .inr (.inr e)
    · intro k e
      rcases e with e | e | e | e | e | e | e | e
      · exact .inl (A.rj k (.inl e))
      · exact .inl (A.rj k (.inr (.inl e)))
      · exact .inl (A.rj k (.inr (.inr (.inl e))))
      · exact .inr (.inl e)
      · exact .inl (A.rj k (.inr (.inr (.inr (.inr (.inl e))))))
      · exact .inl (A.rj k (.inr (.inr (.inr (.inr (.inr (.inl e)))))))
      · exact .inl (A.rj k (.inr (.inr (.inr (.inr (.inr (.inr (.inl e))))))))
      · exact .inl (A.rj k (.inr (.inr (.inr (.inr (.inr (.inr (.inr e))))))))
    · rintro k (e | e | e)
      · exact Nat.lt_of_lt_of_le (A.jl k e) hk3.size
      · exact Nat.lt_of_lt_of_le (Own.lt hO e) hk2.size
      · exact Nat.lt_of_lt_of_le (hP.fr k e).2.1 hk3.size
  have hsz := hP.kept.size
  refine ⟨a', k', W3, _, hrun, b2, H.upd hal ⟨fun k e => ?_, hP.kept.trans hk3 (fun _ e => e.elim) (fun k _ e => hRJ k e)⟩⟩
  rcases e with e | e | e
  · exact .inl e
  · rcases hat k e with e | e
    · exact .inl (A.rj k (.inr (.inr (.inr (.inl e)))))
    · exact .inr (by omega)
  · exact .inr (hP.fr k e).1
/-- The rows of refusals are made. -/
theorem Hg.mkA (H : Hg w W J0 J hb v pp h l T) (ha : v.a = slZ) (hb0 : v.b = slZ) {g n : Nat} (hk : Kept No W W2) (hg : W.heap.size ≤ g) (hx : Box W2 g 3 (inL (List.replicate n 0)).toArray) (hn : n ≤ 1000) : ∃ J2, Hg w (W2.setRow hb (Hv.cells ⟨v.ky, v.g, v.i, v.p, v.y, v.d, ⟨some ⟨g, 0, none⟩, n, n⟩, v.b⟩)) J0 J2 hb ⟨v.ky, v.g, v.i, v.p, v.y, v.d, ⟨some ⟨g, 0, none⟩, n, n⟩, v.b⟩ pp { h with nkd := List.replicate n 0 } l T := by
  obtain ⟨I, A⟩ := H.hal.no hk
  have hjl := H.hal.jl
  have hgJ : ¬ J g := fun e => by have := hjl g e; omega
  have hk2 : Kept (Only hb) W2 (W2.setRow hb (Hv.cells ⟨v.ky, v.g, v.i, v.p, v.y, v.d, ⟨some ⟨g, 0, none⟩, n, n⟩, v.b⟩)) := Kept.setRow W2 hb _
  have off : ∀ {k : Nat} {t : TypeId}, (∃ cs, Box W2 k t cs) → t ≠ 68 → ¬ Only hb k := fun ht h2 e => by
    have e : _ = hb := e
    subst e
    exact no_ty ht ⟨_, A.box⟩ h2
  have hI : ∀ j k, I j k → ¬ Only hb k := fun j k e f => A.ri j k e (.inl f)
  have atg : ∀ {k : Nat}, At (some (⟨g, 0, none⟩ : Addr)) k → k = g := fun e => by obtain ⟨ad, e, rfl⟩ := e; cases e; rfl
  have hO : OwI W2 0 ⟨some ⟨g, 0, none⟩, n, n⟩ (List.replicate n 0) := ⟨by
    have e : (List.replicate n (0 : Int)).map (Value.int .i64) = inL (List.replicate n 0) := by unfold inL; rw [← List.flatMap_def, ← List.map_eq_flatMap]
    rw [e]
    exact box_own hx (by rw [← e]; simp) (show n ≤ 1000000 by omega), by simp⟩
  have hal : Hal (W2.setRow hb (Hv.cells ⟨v.ky, v.g, v.i, v.p, v.y, v.d, ⟨some ⟨g, 0, none⟩, n, n⟩, v.b⟩)) (fun k => J k ∨ k = g) hb ⟨v.ky, v.g, v.i, v.p, v.y, v.d, ⟨some ⟨g, 0, none⟩, n, n⟩, v.b⟩ pp { h with nkd := List.replicate n 0 } := by
    refine ⟨I, Box.setRow A.box _, A.gr.kept hk2 (fun k e => off (A.tyG e) (by decide)), A.ins.kept hk2 (fun k e => off (A.tyI e) (by decide)), A.prs.kept hk2 (fun k e => off (A.tyP e) (by decide)), A.way.kept hk2 (fun k e => off (A.tyY e) (by decide)), A.dec.kept hk2 (fun k e => off (A.tyD e) (by decide)), hO.kept hk2 (fun k e => off ⟨_, (atg e) ▸ hx⟩ (by decide)), A.nks.kept hk2 (fun k e => off (A.tyB e) (by decide)), A.pl, fun j s k hs hp => (A.pr j s k hs hp).kept hk2 (fun q e _ _ => ⟨hI j q e, e⟩), A.ii, fun j k e => notM_kept (A.im j k e) hk2 (A.jl k (A.ij j k e)) (hI j k e), fun j k e => ?_, fun k e f => hgJ ((atg f) ▸ A.rj k (.inr (.inl e))), A.gb, fun k _ f => by rw [hb0] at f; exact At.none f, fun j k e => .inl (A.ij j k e), fun k e => ?_, fun k e => ?_⟩
    · rintro (f | f | f | f | f | f | f | f)
      · exact A.ri j k e (.inl f)
      · exact A.ri j k e (.inr (.inl f))
      · exact A.ri j k e (.inr (.inr (.inl f)))
      · exact A.ri j k e (.inr (.inr (.inr (.inl f))))
      · exact A.ri j k e (.inr (.inr (.inr (.inr (.inl f)))))
      · exact A.ri j k e (.inr (.inr (.inr (.inr (.inr (.inl f))))))
      · exact hgJ ((atg f) ▸ A.ij j k e)
      · exact A.ri j k e (.inr (.inr (.inr (.inr (.inr (.inr (.inr f)))))))
    · rcases e with e | e | e | e | e | e | e | e
      · exact .inl (A.rj k (.inl e))
      · exact .inl (A.rj k (.inr (.inl e)))
      · exact .inl (A.rj k (.inr (.inr (.inl e))))
      · exact .inl (A.rj k (.inr (.inr (.inr (.inl e)))))
      · exact .inl (A.rj k (.inr (.inr (.inr (.inr (.inl e))))))
      · exact .inl (A.rj k (.inr (.inr (.inr (.inr (.inr (.inl e)))))))
      · exact .inr (atg e)
      · exact .inl (A.rj k (.inr (.inr (.inr (.inr (.inr (.inr (.inr e))))))))
    · rcases e with e | e
      · exact Nat.lt_of_lt_of_le (A.jl k e) hk2.size
      · rw [e]; exact Nat.lt_of_lt_of_le hx.lt hk2.size
  exact ⟨_, H.upd hal ⟨fun k e => e.imp id (fun e => by omega), hk.trans hk2 (fun _ e => e.elim) (fun k _ e => (show k = hb from e) ▸ A.rj hb (.inl rfl))⟩⟩
theorem Hg.mkB (H : Hg w W J0 J hb v pp h l T) (hb0 : v.b = slZ) {g n : Nat} (hk : Kept No W W2) (hg : W.heap.size ≤ g) (hx : Box W2 g 3 (inL (List.replicate n 0)).toArray) (hn : n ≤ 1000) : ∃ J2, Hg w (W2.setRow hb (Hv.cells ⟨v.ky, v.g, v.i, v.p, v.y, v.d, v.a, ⟨some ⟨g, 0, none⟩, n, n⟩⟩)) J0 J2 hb ⟨v.ky, v.g, v.i, v.p, v.y, v.d, v.a, ⟨some ⟨g, 0, none⟩, n, n⟩⟩ pp { h with nks := List.replicate n 0 } l T := by
  obtain ⟨I, A⟩ := H.hal.no hk
  have hjl := H.hal.jl
  have hgJ : ¬ J g := fun e => by have := hjl g e; omega
  have hk2 : Kept (Only hb) W2 (W2.setRow hb (Hv.cells ⟨v.ky, v.g, v.i, v.p, v.y, v.d, v.a, ⟨some ⟨g, 0, none⟩, n, n⟩⟩)) := Kept.setRow W2 hb _
  have off : ∀ {k : Nat} {t : TypeId}, (∃ cs, Box W2 k t cs) → t ≠ 68 → ¬ Only hb k := fun ht h2 e => by
    have e : _ = hb := e
    subst e
    exact no_ty ht ⟨_, A.box⟩ h2
  have hI : ∀ j k, I j k → ¬ Only hb k := fun j k e f => A.ri j k e (.inl f)
  have atg : ∀ {k : Nat}, At (some (⟨g, 0, none⟩ : Addr)) k → k = g := fun e => by obtain ⟨ad, e, rfl⟩ := e; cases e; rfl
  have hO : OwI W2 0 ⟨some ⟨g, 0, none⟩, n, n⟩ (List.replicate n 0) := ⟨by
    have e : (List.replicate n (0 : Int)).map (Value.int .i64) = inL (List.replicate n 0) := by unfold inL; rw [← List.flatMap_def, ← List.map_eq_flatMap]
    rw [e]
    exact box_own hx (by rw [← e]; simp) (show n ≤ 1000000 by omega), by simp⟩
  have hal : Hal (W2.setRow hb (Hv.cells ⟨v.ky, v.g, v.i, v.p, v.y, v.d, v.a, ⟨some ⟨g, 0, none⟩, n, n⟩⟩)) (fun k => J k ∨ k = g) hb ⟨v.ky, v.g, v.i, v.p, v.y, v.d, v.a, ⟨some ⟨g, 0, none⟩, n, n⟩⟩ pp { h with nks := List.replicate n 0 } := by
    refine ⟨I, Box.setRow A.box _, A.gr.kept hk2 (fun k e => off (A.tyG e) (by decide)), A.ins.kept hk2 (fun k e => off (A.tyI e) (by decide)), A.prs.kept hk2 (fun k e => off (A.tyP e) (by decide)), A.way.kept hk2 (fun k e => off (A.tyY e) (by decide)), A.dec.kept hk2 (fun k e => off (A.tyD e) (by decide)), A.nkd.kept hk2 (fun k e => off (A.tyA e) (by decide)), hO.kept hk2 (fun k e => off ⟨_, (atg e) ▸ hx⟩ (by decide)), A.pl, fun j s k hs hp => (A.pr j s k hs hp).kept hk2 (fun q e _ _ => ⟨hI j q e, e⟩), A.ii, fun j k e => notM_kept (A.im j k e) hk2 (A.jl k (A.ij j k e)) (hI j k e), fun j k e => ?_, A.ga, fun k e f => hgJ ((atg f) ▸ A.rj k (.inr (.inl e))), fun k e f => hgJ ((atg f) ▸ A.rj k (.inr (.inr (.inr (.inr (.inr (.inr (.inl e)))))))), fun j k e => .inl (A.ij j k e), fun k e => ?_, fun k e => ?_⟩
    · rintro (f | f | f | f | f | f | f | f)
      · exact A.ri j k e (.inl f)
      · exact A.ri j k e (.inr (.inl f))
      · exact A.ri j k e (.inr (.inr (.inl f)))
      · exact A.ri j k e (.inr (.inr (.inr (.inl f))))
      · exact A.ri j k e (.inr (.inr (.inr (.inr (.inl f)))))
      · exact A.ri j k e (.inr (.inr (.inr (.inr (.inr (.inl f))))))
      · exact A.ri j k e (.inr (.inr (.inr (.inr (.inr (.inr (.inl f)))))))
      · exact hgJ ((atg f) ▸ A.ij j k e)
    · rcases e with e | e | e | e | e | e | e | e
      · exact .inl (A.rj k (.inl e))
      · exact .inl (A.rj k (.inr (.inl e)))
      · exact .inl (A.rj k (.inr (.inr (.inl e))))
      · exact .inl (A.rj k (.inr (.inr (.inr (.inl e)))))
      · exact .inl (A.rj k (.inr (.inr (.inr (.inr (.inl e))))))
      · exact .inl (A.rj k (.inr (.inr (.inr (.inr (.inr (.inl e)))))))
      · exact .inl (A.rj k (.inr (.inr (.inr (.inr (.inr (.inr (.inl e))))))))
      · exact .inr (atg e)
    · rcases e with e | e
      · exact Nat.lt_of_lt_of_le (A.jl k e) hk2.size
      · rw [e]; exact Nat.lt_of_lt_of_le hx.lt hk2.size
  exact ⟨_, H.upd hal ⟨fun k e => e.imp id (fun e => by omega), hk.trans hk2 (fun _ e => e.elim) (fun k _ e => (show k = hb from e) ▸ A.rj hb (.inl rfl))⟩⟩
end
theorem grp_step (i : Nat) : Pax.grp (i + 1) = Pax.grp i ++ [((10 + (3 * i) % 7 + 10 * i : Nat) : Int)] := by
  unfold Pax.grp
  rw [List.range_succ, List.map_append]
  congr 1
end Go.Proofs.Ytpabpeppgpeaoaa.Md
