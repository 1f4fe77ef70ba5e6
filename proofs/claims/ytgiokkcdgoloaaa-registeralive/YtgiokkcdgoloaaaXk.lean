import Derived.Test.YtgiokkcdgoloaaaXi
namespace Go.Proofs.Ytgiokkcdgoloaaa.Md
open Go.RowKit
set_option linter.unusedVariables false
set_option linter.unusedSimpArgs false
section
variable {W W2 : World} {n0 : Nat} {J S : Nat → Prop} {b : Nat} {cs : Array Value} {rs : List Rowx} {I : Nat → Nat → Prop} {ms : Nat → Option RM} {mp : Nat → Option Nat}
theorem Wl.mach5 (H : Wl W n0 J b cs rs I ms mp) {c m : Nat} (hm : mp c = some m) {s : RM} {I' : Nat → Prop} (hM2 : Mch W2 I' m s) (hI : ∀ k, I' k → (I c k ∨ W.heap.size ≤ k) ∧ k < W2.heap.size) (hK : Kept (N5 W (I c)) W W2) : Wl W2 n0 (fun k => J k ∨ I' k) b cs rs (fun i k => (i = c ∧ I' k) ∨ (i ≠ c ∧ I i k)) (upN ms c (some s)) mp ∧ Up5 W J W2 (fun k => J k ∨ I' k) := by
  have hK' := Kept.five hK
  have n0J : n0 ≤ W.heap.size := by have := H.jl b H.bj; omega
  refine ⟨⟨H.box.kept hK' (fun f => H.ib c b f rfl), fun i x hx => Own.kept (H.ow i x hx) hK' (fun k e f => H.ri c k i x f hx e), H.ty, H.ap, ?_, ?_, ?_, ?_, ?_, ?_, .inl H.bj, fun i x k hx e => .inl (H.rj i x k hx e), ?_⟩, ?_, hK.mono (fun k _ e => ⟨H.ij c k e.1, e.2⟩)⟩
  · intro i t ht
    unfold upN at ht
    by_cases e : i = c
    · subst e
      rw [if_pos rfl] at ht
      cases ht
      exact ⟨m, hm, hM2.wide (fun k e => .inl ⟨rfl, e⟩)⟩
    · rw [if_neg e] at ht
      obtain ⟨m', h1, h2⟩ := H.mc i t ht
      exact ⟨m', h1, h2.kept hK' (fun k f _ => ⟨fun g => e (H.ii i c k f g), .inr ⟨e, f⟩⟩)⟩
  · intro i hi
    unfold upN at hi
    by_cases e : i = c
    · subst e; rw [if_pos rfl] at hi; cases hi
    · rw [if_neg e] at hi; exact H.mn i hi
  · rintro i q k (⟨rfl, e⟩ | ⟨e1, e⟩) (⟨rfl, f⟩ | ⟨f1, f⟩)
    · rfl
    · rcases (hI k e).1 with g | g
      · exact H.ii _ _ k g f
      · have := (H.jl k (H.ij q k f)).2; omega
    · rcases (hI k f).1 with g | g
      · exact H.ii _ _ k e g
      · have := (H.jl k (H.ij i k e)).2; omega
    · exact H.ii i q k e f
  · rintro i k (⟨rfl, e⟩ | ⟨e1, e⟩)
    · rcases (hI k e).1 with g | g
      · exact H.ib _ k g
      · have := (H.jl b H.bj).2; omega
    · exact H.ib i k e
  · rintro q k i x (⟨rfl, e⟩ | ⟨e1, e⟩) hx f
    · rcases (hI k e).1 with g | g
      · exact H.ri _ k i x g hx f
      · have := (H.jl k (H.rj i x k hx f)).2; omega
    · exact H.ri q k i x e hx f
  · rintro q k (⟨rfl, e⟩ | ⟨e1, e⟩)
    · exact .inr e
    · exact .inl (H.ij q k e)
  · rintro k (e | e)
    · exact ⟨(H.jl k e).1, Nat.lt_of_lt_of_le (H.jl k e).2 hK.size⟩
    · refine ⟨?_, (hI k e).2⟩
      rcases (hI k e).1 with g | g
      · exact (H.jl k (H.ij c k g)).1
      · omega
  · rintro k (e | e)
    · exact .inl e
    · exact (hI k e).1.imp (H.ij c k) id
end
def No52 (w : World) (k : Nat) : Prop := ¬ ∃ cs, Box w k 52 cs
theorem no52_ty {w : World} {k : Nat} {t : TypeId} (h : ∃ cs, Box w k t cs) (hne : t ≠ 52) : No52 w k := fun e => ty_ne h e hne
theorem Tal.no52 {α : Type} {T : TypeId} {f : Option α → Value} {w : World} {tb bb ct : Nat} {at' : Option Addr} {X : TS α} (h : Tal T f w tb bb at' ct X) (hT : T ≠ 52) {k : Nat} (e : TB tb bb at' k) : No52 w k := by
  rcases e with rfl | rfl | e
  · exact no52_ty ⟨_, h.box⟩ hT
  · rintro ⟨cs, hb⟩
    exact box_map hb h.map rfl
  · exact no52_ty (Own.ty h.row e) (by decide)
theorem Mch.no52 {w : World} {I : Nat → Prop} {m : Nat} {s : RM} (h : Mch w I m s) : Mch w (fun k => I k ∧ No52 w k) m s := by
  obtain ⟨⟨a, cap, t, v, h1, h2, h3, h4⟩, len⟩ := h
  have hk := Kept.refl No w
  have h5 : ∀ k, I k → (∃ cs, Box w k 5 cs) → ¬ No k ∧ (I k ∧ No52 w k) := fun k e b => ⟨fun f => f, e, no52_ty b (by decide)⟩
  refine ⟨⟨a, cap, t, v, h1, ⟨h2, no52_ty ⟨_, h1.box⟩ (by decide)⟩, fun k e => ⟨h3 k e, no52_ty (Own.ty h1.row e) (by decide)⟩, ?_⟩, len⟩
  cases hp : s.ph with
  | fresh =>
    rw [hp] at h4
    obtain ⟨q1, ai, av, q2, q3⟩ := h4
    exact ⟨q1, ai, av, q2, q3.kept5 hk h5⟩
  | ask X =>
    rw [hp] at h4
    obtain ⟨q1, r0, r1, ai, av, tb, bb, at', ct, Y, q2, q3, q4, q5, q6, q7⟩ := h4
    exact ⟨q1, r0, r1, ai, av, tb, bb, at', ct, Y, q2, q3.kept5 hk h5, q4, q5.kept5 hk h5, fun k e => ⟨q6 k e, Tal.no52 q4 (by decide) e⟩, q7⟩
  | lay b U =>
    rw [hp] at h4
    obtain ⟨q1, pa, pk, da, dc, ub, ubb, ua, ut, q2, q3, q4, q5, q6, q7, q8, q9, q10⟩ := h4
    exact ⟨q1, pa, pk, da, dc, ub, ubb, ua, ut, q2, q3, q4, fun k e => ⟨q5 k e, no52_ty (OwnB.five q4 e) (by decide)⟩, q6, fun k e => ⟨⟨(q7 k e).1, no52_ty (q7 k e).2 (by decide)⟩, (q7 k e).2⟩, q8, fun k e => ⟨q9 k e, Tal.no52 q8 (by decide) e⟩, q10⟩
  | fin er st z =>
    rw [hp] at h4
    obtain ⟨q1, da, dc, q2, q3, q4, q5⟩ := h4
    exact ⟨q1, da, dc, q2, q3, q4, fun k e => ⟨⟨(q5 k e).1, no52_ty (q5 k e).2 (by decide)⟩, (q5 k e).2⟩⟩
def qmM (o : RM × To) (q : Qm) : Mg := ⟨o.2.k, ⟨true, o.1.cl⟩, ⟨false, q.sv⟩, o.1.op, o.1.rd, o.1.ky, o.2.st, spZ, ⟨q.ba, o.2.z.length, q.bc⟩, cZ, bvZ, slZ, false⟩
theorem qmM_l (o : RM × To) (qs : List Qm) : msgsC o.1.x ⟨o.2.k, o.2.st.n, o.2.st.c, o.2.z.length⟩ qs = mgL (qs.map (qmM o)) := by
  unfold msgsC mgL
  rw [List.flatMap_def, List.map_map]
  rfl
def ToOk (o : RM × To) : Prop := (o.2.z = [] ∨ ∃ b U, o.1.ph = .lay b U ∧ o.2.z = b.z)
theorem Mch.toLen {w : World} {I : Nat → Prop} {m : Nat} {o : RM × To} (h : Mch w I m o.1) (ho : ToOk o) : o.2.z.length ≤ 140737488351232 := by
  rcases ho with e | ⟨b, U, hp, e⟩
  · rw [e]; simp
  · obtain ⟨⟨a, cap, t, v, h1, h2, h3, h4⟩, len⟩ := h
    rw [hp] at h4
    obtain ⟨q1, pa, pk, da, dc, ub, ubb, ua, ut, q2, q3, _⟩ := h4
    rw [e]; exact q3
theorem toOk_beg (s : RM) : ToOk (begP s) := by
  unfold begP ToOk
  split
  · split <;> exact .inl rfl
  · exact .inl rfl
theorem toOk_tik (s : RM) : ToOk (s, tikP s) := by
  unfold tikP ToOk
  split
  · exact .inl rfl
  · rename_i b U e; exact .inr ⟨b, U, e, rfl⟩
  · exact .inl rfl
theorem toOk_lay (s : RM) (b : Bp) : ToOk (layP s b) := by
  unfold layP ToOk
  split
  · exact .inl rfl
  · exact .inr ⟨b, _, rfl, rfl⟩
theorem toOk_set (s : RM) (l : List Bp) : ToOk (setP s l) := by
  unfold setP
  split
  · split
    · exact .inl rfl
    · exact toOk_lay _ _
  · split
    · exact toOk_lay _ _
    · exact .inl rfl
theorem toOk_tak (s : RM) (d : Mg) (z : List Int) : ToOk (takP s d z) := by
  unfold takP
  split
  · split
    · split
      · exact toOk_set _ _
      · exact .inl rfl
    · exact .inl rfl
  · split
    · split <;> exact .inl rfl
    · exact .inl rfl
  · exact .inl rfl
theorem ss_lay (s : RM) (b : Bp) : (layP s b).2.ss.length ≤ s.zs.length := by
  unfold layP
  split
  · simp [toZ]
  · exact Nat.le_refl _
theorem ss_set (s : RM) (l : List Bp) : (setP s l).2.ss.length ≤ s.zs.length := by
  unfold setP
  split
  · split
    · simp [toZ]
    · exact ss_lay _ _
  · split
    · exact ss_lay _ _
    · simp [toZ]
theorem ss_tak (s : RM) (d : Mg) (z : List Int) : (takP s d z).2.ss.length ≤ s.zs.length := by
  unfold takP
  split
  · split
    · split
      · exact ss_set _ _
      · simp [toZ]
    · simp [toZ]
  · split
    · split <;> simp [toZ]
    · simp [toZ]
  · simp [toZ]
theorem ss_beg (s : RM) : (begP s).2.ss.length ≤ s.zs.length := by
  unfold begP
  split
  · split
    · exact Nat.le_refl _
    · simp [toZ]
  · simp [toZ]
theorem ss_tik {w : World} {I : Nat → Prop} {m : Nat} {s : RM} (h : Mch w I m s) : (tikP s).ss.length ≤ s.zs.length := by
  obtain ⟨⟨a, cap, t, v, h1, h2, h3, h4⟩, len⟩ := h
  unfold tikP
  split
  · rename_i X e
    rw [e] at h4
    obtain ⟨q1, r0, r1, ai, av, tb, bb, at', ct, Y, q2, q3, q4, q5, q6, q7⟩ := h4
    have := missL_len X
    rw [q7] at this
    exact this
  · rename_i b U e
    rw [e] at h4
    obtain ⟨q1, pa, pk, da, dc, ub, ubb, ua, ut, q2, q3, q4, q5, q6, q7, q8, q9, q10⟩ := h4
    have := missL_len U
    rw [q10] at this
    exact this
  · simp [toZ]
theorem Wg.tell {w W W2 : World} {n0 : Nat} {J0 J : Nat → Prop} {b : Nat} {v : Wv} {x : Wd} {mp : Nat → Option Nat} {I : Nat → Nat → Prop} {H : List Bl} {U : List Mg} {D : List Dv} {L : List Lv} {l : List (Nat × TypeId × Array Value)} {T : List Rowx} {Q : List (Sl × List Int)} (G : Wg w W n0 J0 J b v x mp I H U D L l T Q) {c m : Nat} (hp : mp c = some m) {o : RM × To} {e : Ending} (h : MOut5 W (I c) m o e W2) (ho : ToOk o) :
    ∃ la lc ms I2 J2, e = .returned (.slice la ms.length lc) ∧ Own 52 30 W2 0 la lc ms.length (mgL ms) ∧ Two2 (UnM W2 n0) (outs o) ms ∧ (∀ k, At la k → ¬ J2 k) ∧ Wg w W2 n0 J0 J2 b v { x with m := upN x.m c (some o.1) } mp I2 H U D L l T Q := by
  obtain ⟨la, lc, qs, I', he, hq, hMs, hM, hI, hK⟩ := h
  obtain ⟨h1, h2⟩ := G.wa.wl.mach5 hp hM.no52 (fun k e => hI k e.1) hK
  have hrow := hMs.row
  rw [qmM_l] at hrow
  have hzl := hM.toLen ho
  refine ⟨la, lc, qs.map (qmM o), _, _, by rw [List.length_map]; exact he, by rw [List.length_map]; exact Own.lower hrow (Nat.zero_le _), ⟨?_, ?_⟩, ?_, G.upd ⟨h1, ?_, G.wa.now, G.wa.br⟩ h2⟩
  · unfold outs
    rw [List.length_map, List.length_map, ← hq, List.length_map]
  · intro i p y hpi hyi
    unfold outs at hpi
    rw [← hq, List.getElem?_map, List.getElem?_map] at hpi
    rw [List.getElem?_map] at hyi
    cases hqi : qs[i]? with
    | none => rw [hqi] at hyi; cases hyi
    | some q =>
      rw [hqi] at hpi hyi
      cases hpi
      cases hyi
      exact ⟨rfl, By.own (Own.lower (hMs.own q (List.mem_of_getElem? hqi)) (Nat.zero_le _)) hzl⟩
  · intro k ek f
    have hb := Own.base hrow ek
    rcases f with f | f
    · have := (G.wa.wl.jl k f).2; omega
    · exact f.2 (Own.ty hrow ek)
  · have p := G.wa.pt.up h2 G.wa.n0J
    exact ⟨p.hd, p.un, p.ds, p.ls⟩
end Go.Proofs.Ytgiokkcdgoloaaa.Md
namespace Go.Proofs.Ytgiokkcdgoloaaa.Md
open Go.RowKit
set_option linter.unusedVariables false
set_option linter.unusedSimpArgs false
theorem laidW_same (x : Wd) (t : Sp) (z : List Int) : (laidW x t z).m = x.m ∧ (laidW x t z).at' = x.at' ∧ (laidW x t z).ds = x.ds ∧ (laidW x t z).now = x.now ∧ (laidW x t z).gone = x.gone ∧ (laidW x t z).rd = x.rd ∧ (laidW x t z).n = x.n := by
 unfold laidW
 split <;> exact ⟨rfl, rfl, rfl, rfl, rfl, rfl, rfl⟩
theorem send1_same (x : Wd) (p : Pm) : (send1 x p).m = x.m ∧ (send1 x p).at' = x.at' ∧ (send1 x p).ds = x.ds ∧ (send1 x p).now = x.now ∧ (send1 x p).gone = x.gone ∧ (send1 x p).rd = x.rd ∧ (send1 x p).n = x.n := by
 have h := laidW_same x p.st p.z
 unfold send1
 dsimp only
 split <;> split <;> first | exact h | exact ⟨rfl, rfl, rfl, rfl, rfl, rfl, rfl⟩
theorem sendW_same (ps : List Pm) : ∀ x : Wd, (sendW x ps).m = x.m ∧ (sendW x ps).at' = x.at' ∧ (sendW x ps).ds = x.ds ∧ (sendW x ps).now = x.now ∧ (sendW x ps).gone = x.gone ∧ (sendW x ps).rd = x.rd ∧ (sendW x ps).n = x.n := by
 induction ps with
 | nil => exact fun x => ⟨rfl, rfl, rfl, rfl, rfl, rfl, rfl⟩
 | cons p ps ih =>
  intro x
  have h1 := send1_same x p
  have h2 := ih (send1 x p)
  show (sendW (send1 x p) ps).m = x.m ∧ _
  exact ⟨h2.1.trans h1.1, h2.2.1.trans h1.2.1, h2.2.2.1.trans h1.2.2.1, h2.2.2.2.1.trans h1.2.2.2.1, h2.2.2.2.2.1.trans h1.2.2.2.2.1, h2.2.2.2.2.2.1.trans h1.2.2.2.2.2.1, h2.2.2.2.2.2.2.trans h1.2.2.2.2.2.2⟩
theorem clieW_none {x : Wd} {p : Pm} {c : Nat} (h : x.m c = none) : clieW x p c = x := by unfold clieW; rw [h]
theorem clieW_gone {x : Wd} {p : Pm} {c : Nat} (h : x.gone c = true) : clieW x p c = x := by
 unfold clieW
 split
 · rfl
 · rw [if_pos h]
theorem clieW_some {x : Wd} {p : Pm} {c : Nat} {s : RM} (h : x.m c = some s) (hg : x.gone c = false) : clieW x p c = lookW (sendW { x with m := upN x.m c (some (takP s (mgP p) p.z).1) } (outs (takP s (mgP p) p.z))) c := by
 unfold clieW
 rw [h]
 dsimp only
 rw [if_neg (by rw [hg]; simp)]
set_option maxRecDepth 100000 in
set_option maxHeartbeats 4000000 in
theorem deliver_c (n0 : Nat) (J : Nat → Prop) (b : Nat) (x : Wd) (k : Int) (fr : Ad) (c : Nat) (op rd : Int) (ky : Ky) (st : Sp) (z : List Int) (s : Sl) (w : World) (hW : WAt w n0 J b x) (hz : By w n0 s z) (hc : c < 4) (hat : ∀ t, x.m c = some t → x.at' c < x.ds.length) (hnow : 0 ≤ x.now ∧ x.now ≤ 1000000000) (hl : x.ls.length ≤ 900000) (h63 : -9223372036854775808 ≤ st.n) : Calls Try.prog 47 #[.pointer (some ⟨b, 0, none⟩), .agg (Mg.cells ⟨k, fr, ⟨true, (c : Int) + 1⟩, op, rd, ky, st, spZ, s, cZ, bvZ, slZ, false⟩)] w (WOut w n0 J b (clieW x ⟨k, fr, ⟨true, (c : Int) + 1⟩, op, rd, ky, st, z⟩ c)) := by
 refine hideC fun C HC => ?_
 obtain ⟨v, mp, I, H, U, D, L, hA⟩ := hW
 have hml := hA.ml
 have hgl := hA.gl
 obtain ⟨gm, hgm⟩ := own_at hA.mm (by omega)
 obtain ⟨gg, hgg⟩ := own_at hA.gn (by omega)
 have HF : Hid (Wg w w n0 J J b v x mp I H U D L [] [] [(s, z)]) := (Wg.start hA).byt (Q := []) (Q' := [(s, z)]) (by simpa using hz)
 clear hA hz
 go_enter Try.func47, Try.ntmps47
 cases hm : x.m c with
 | none =>
  have hmp : mp c = none := HF.out.wa.wl.mn c hm
  go_upto_region 0 with fail
  refine WL.start ?_
  refine uR (pV w.heap.size 0) (w.alloc (.cells (Mg.cells ⟨k, fr, ⟨true, (c : Int) + 1⟩, op, rd, ky, st, spZ, s, cZ, bvZ, slZ, false⟩) 52)) (exec_box 52 _ rfl (Mg.cells ⟨k, fr, ⟨true, (c : Int) + 1⟩, op, rd, ky, st, spZ, s, cZ, bvZ, slZ, false⟩) (by kernel_rfl)) ?_
  try simp only [pS]
  have HF : Hid _ := HF.out.alloc 52 (Mg.cells ⟨k, fr, ⟨true, (c : Int) + 1⟩, op, rd, ky, st, spZ, s, cZ, bvZ, slZ, false⟩)
  generalize w.alloc (.cells (Mg.cells ⟨k, fr, ⟨true, (c : Int) + 1⟩, op, rd, ky, st, spZ, s, cZ, bvZ, slZ, false⟩) 52) = wk2 at HF ⊢
  generalize w.heap.size = gk1 at HF ⊢
  refine WL.nil ?_
  try simp only [pS]
  go_upto_region 1 with fail
  refine WL.start <| uK (pV gk1 3) <| uK (pV gk1 3) <| uL 4 ⟨gk1, 3, none⟩ (.bool true) (ld1 (HF.out.box 0 _ _ _ rfl) 3 U4 rfl) <| WL.nil <| ?_
  try simp only [pS]
  go_upto_region 2 with fail
  refine WL.start <| uK (pV gk1 3) <| uK (pV gk1 4) <| uL 3 ⟨gk1, 4, none⟩ (.int .i64 ((c : Int) + 1)) (ld1 (HF.out.box 0 _ _ _ rfl) 4 U3 rfl) <| uB .sub 3 (.int .i64 ((c : Int) + 1)) (.int .i64 1) (.int .i64 ((c : Nat) : Int)) (b_subw _ _ _ (by rw [IntKind.wrap_i64]; omega) _) <| uK (.int .i64 ((c : Nat) : Int)) <| WL.nil <| ?_
  try simp only [pS]
  go_upto_region 3 with fail
  refine WL.start <| uK (.int .i64 ((c : Nat) : Int)) <| uB .lss 3 (.int .i64 ((c : Nat) : Int)) (.int .i64 0) (.bool false) (by rw [b_lss, decide_eq_false (by omega)]) <| uK (.bool false) <| uK (.int .i64 ((c : Nat) : Int)) <| uB .geq 3 (.int .i64 ((c : Nat) : Int)) (.int .i64 4) (.bool false) (by rw [b_geq, decide_eq_false (by omega)]) <| uK (.bool false) <| WL.nil <| ?_
  try simp only [pS]
  go_upto_region 5 with fail
  refine WL.start <| uK (pV b 0) <| uK (pV b 0) <| uK (pV b 2) <| uL 69 ⟨b, 2, none⟩ (v.mm.v) (ld1 HF.out.wbox 2 U69 rfl) <| uK (.int .i64 ((c : Nat) : Int)) <| uW (pV gm (0 + c * 1)) (exec_ixS 69 1 E69 F69 _ _ rfl hgm (by omega)) <| uL 31 ⟨gm, 0 + c * 1, none⟩ (.nilIface) (load_one ((HF.out.wa.mmc hgm hc).trans (by rw [hmp]; rfl)) U31 V31) <| uB .eql 31 (.nilIface) (.nilIface) (.bool true) (eql31_t _) <| uK (.bool true) <| uZ <| uZ <| uZ <| uZ <| uZ <| uZ <| uZ <| uK (.bool true) <| WL.nil <| ?_
  try simp only [pS]
  go_wp2
  rw [HC.out, clieW_none hm]
  refine bodyPost_ret (v := .tuple #[]) (by kernel_rfl) rfl ⟨rfl, HF.out.out⟩
 | some u =>
  obtain ⟨m, hmp, hM⟩ := HF.out.wa.wl.mc c u hm
  have hsl : (outs (takP u ⟨k, fr, ⟨true, (c : Int) + 1⟩, op, rd, ky, st, spZ, s, cZ, bvZ, slZ, false⟩ z)).length ≤ 1000 := by
   have h1 := ss_tak u ⟨k, fr, ⟨true, (c : Int) + 1⟩, op, rd, ky, st, spZ, s, cZ, bvZ, slZ, false⟩ z
   have h2 := hM.len
   unfold outs
   rw [List.length_map]
   omega
  clear hM
  cases hgo : x.gone c with
  | true =>
   go_upto_region 0 with fail
   refine WL.start ?_
   refine uR (pV w.heap.size 0) (w.alloc (.cells (Mg.cells ⟨k, fr, ⟨true, (c : Int) + 1⟩, op, rd, ky, st, spZ, s, cZ, bvZ, slZ, false⟩) 52)) (exec_box 52 _ rfl (Mg.cells ⟨k, fr, ⟨true, (c : Int) + 1⟩, op, rd, ky, st, spZ, s, cZ, bvZ, slZ, false⟩) (by kernel_rfl)) ?_
   try simp only [pS]
   have HF : Hid _ := HF.out.alloc 52 (Mg.cells ⟨k, fr, ⟨true, (c : Int) + 1⟩, op, rd, ky, st, spZ, s, cZ, bvZ, slZ, false⟩)
   generalize w.alloc (.cells (Mg.cells ⟨k, fr, ⟨true, (c : Int) + 1⟩, op, rd, ky, st, spZ, s, cZ, bvZ, slZ, false⟩) 52) = wk4 at HF ⊢
   generalize w.heap.size = gk3 at HF ⊢
   refine WL.nil ?_
   try simp only [pS]
   go_upto_region 1 with fail
   refine WL.start <| uK (pV gk3 3) <| uK (pV gk3 3) <| uL 4 ⟨gk3, 3, none⟩ (.bool true) (ld1 (HF.out.box 0 _ _ _ rfl) 3 U4 rfl) <| WL.nil <| ?_
   try simp only [pS]
   go_upto_region 2 with fail
   refine WL.start <| uK (pV gk3 3) <| uK (pV gk3 4) <| uL 3 ⟨gk3, 4, none⟩ (.int .i64 ((c : Int) + 1)) (ld1 (HF.out.box 0 _ _ _ rfl) 4 U3 rfl) <| uB .sub 3 (.int .i64 ((c : Int) + 1)) (.int .i64 1) (.int .i64 ((c : Nat) : Int)) (b_subw _ _ _ (by rw [IntKind.wrap_i64]; omega) _) <| uK (.int .i64 ((c : Nat) : Int)) <| WL.nil <| ?_
   try simp only [pS]
   go_upto_region 3 with fail
   refine WL.start <| uK (.int .i64 ((c : Nat) : Int)) <| uB .lss 3 (.int .i64 ((c : Nat) : Int)) (.int .i64 0) (.bool false) (by rw [b_lss, decide_eq_false (by omega)]) <| uK (.bool false) <| uK (.int .i64 ((c : Nat) : Int)) <| uB .geq 3 (.int .i64 ((c : Nat) : Int)) (.int .i64 4) (.bool false) (by rw [b_geq, decide_eq_false (by omega)]) <| uK (.bool false) <| WL.nil <| ?_
   try simp only [pS]
   go_upto_region 5 with fail
   refine WL.start <| uK (pV b 0) <| uK (pV b 0) <| uK (pV b 2) <| uL 69 ⟨b, 2, none⟩ (v.mm.v) (ld1 HF.out.wbox 2 U69 rfl) <| uK (.int .i64 ((c : Nat) : Int)) <| uW (pV gm (0 + c * 1)) (exec_ixS 69 1 E69 F69 _ _ rfl hgm (by omega)) <| uL 31 ⟨gm, 0 + c * 1, none⟩ (.iface 115 (pV m 0)) (load_one ((HF.out.wa.mmc hgm hc).trans (by rw [hmp]; rfl)) U31 V31) <| uB .eql 31 (.iface 115 (pV m 0)) (.nilIface) (.bool false) (eql31_f _ _) <| uK (.bool false) <| uK (pV b 0) <| uK (pV b 0) <| uK (pV b 5) <| uL 70 ⟨b, 5, none⟩ (v.gn.v) (ld1 HF.out.wbox 5 U70 rfl) <| uK (.int .i64 ((c : Nat) : Int)) <| uW (pV gg (0 + c * 1)) (exec_ixS 70 1 E70 F70 _ _ rfl hgg (by omega)) <| uL 4 ⟨gg, 0 + c * 1, none⟩ (.bool true) (load_one ((HF.out.wa.gnc hgg hc).trans (by rw [hgo])) U4 rfl) <| uK (.bool true) <| WL.nil <| ?_
   try simp only [pS]
   go_wp2
   rw [HC.out, clieW_gone hgo]
   refine bodyPost_ret (v := .tuple #[]) (by kernel_rfl) rfl ⟨rfl, HF.out.out⟩
  | false =>
   go_upto_region 0 with fail
   refine WL.start ?_
   refine uR (pV w.heap.size 0) (w.alloc (.cells (Mg.cells ⟨k, fr, ⟨true, (c : Int) + 1⟩, op, rd, ky, st, spZ, s, cZ, bvZ, slZ, false⟩) 52)) (exec_box 52 _ rfl (Mg.cells ⟨k, fr, ⟨true, (c : Int) + 1⟩, op, rd, ky, st, spZ, s, cZ, bvZ, slZ, false⟩) (by kernel_rfl)) ?_
   try simp only [pS]
   have HF : Hid _ := HF.out.alloc 52 (Mg.cells ⟨k, fr, ⟨true, (c : Int) + 1⟩, op, rd, ky, st, spZ, s, cZ, bvZ, slZ, false⟩)
   generalize w.alloc (.cells (Mg.cells ⟨k, fr, ⟨true, (c : Int) + 1⟩, op, rd, ky, st, spZ, s, cZ, bvZ, slZ, false⟩) 52) = wk6 at HF ⊢
   generalize w.heap.size = gk5 at HF ⊢
   refine WL.nil ?_
   try simp only [pS]
   go_upto_region 1 with fail
   refine WL.start <| uK (pV gk5 3) <| uK (pV gk5 3) <| uL 4 ⟨gk5, 3, none⟩ (.bool true) (ld1 (HF.out.box 0 _ _ _ rfl) 3 U4 rfl) <| WL.nil <| ?_
   try simp only [pS]
   go_upto_region 2 with fail
   refine WL.start <| uK (pV gk5 3) <| uK (pV gk5 4) <| uL 3 ⟨gk5, 4, none⟩ (.int .i64 ((c : Int) + 1)) (ld1 (HF.out.box 0 _ _ _ rfl) 4 U3 rfl) <| uB .sub 3 (.int .i64 ((c : Int) + 1)) (.int .i64 1) (.int .i64 ((c : Nat) : Int)) (b_subw _ _ _ (by rw [IntKind.wrap_i64]; omega) _) <| uK (.int .i64 ((c : Nat) : Int)) <| WL.nil <| ?_
   try simp only [pS]
   go_upto_region 3 with fail
   refine WL.start <| uK (.int .i64 ((c : Nat) : Int)) <| uB .lss 3 (.int .i64 ((c : Nat) : Int)) (.int .i64 0) (.bool false) (by rw [b_lss, decide_eq_false (by omega)]) <| uK (.bool false) <| uK (.int .i64 ((c : Nat) : Int)) <| uB .geq 3 (.int .i64 ((c : Nat) : Int)) (.int .i64 4) (.bool false) (by rw [b_geq, decide_eq_false (by omega)]) <| uK (.bool false) <| WL.nil <| ?_
   try simp only [pS]
   go_upto_region 5 with fail
   refine WL.start <| uK (pV b 0) <| uK (pV b 0) <| uK (pV b 2) <| uL 69 ⟨b, 2, none⟩ (v.mm.v) (ld1 HF.out.wbox 2 U69 rfl) <| uK (.int .i64 ((c : Nat) : Int)) <| uW (pV gm (0 + c * 1)) (exec_ixS 69 1 E69 F69 _ _ rfl hgm (by omega)) <| uL 31 ⟨gm, 0 + c * 1, none⟩ (.iface 115 (pV m 0)) (load_one ((HF.out.wa.mmc hgm hc).trans (by rw [hmp]; rfl)) U31 V31) <| uB .eql 31 (.iface 115 (pV m 0)) (.nilIface) (.bool false) (eql31_f _ _) <| uK (.bool false) <| uK (pV b 0) <| uK (pV b 0) <| uK (pV b 5) <| uL 70 ⟨b, 5, none⟩ (v.gn.v) (ld1 HF.out.wbox 5 U70 rfl) <| uK (.int .i64 ((c : Nat) : Int)) <| uW (pV gg (0 + c * 1)) (exec_ixS 70 1 E70 F70 _ _ rfl hgg (by omega)) <| uL 4 ⟨gg, 0 + c * 1, none⟩ (.bool false) (load_one ((HF.out.wa.gnc hgg hc).trans (by rw [hgo])) U4 rfl) <| uK (.bool false) <| WL.nil <| ?_
   try simp only [pS]
   go_upto_region 6 with fail
   refine wp_region_held_drew (S := fun w' => Box w' b 75 (Wv.cells v) ∧ Box w' gk5 52 (Mg.cells ⟨k, fr, ⟨true, (c : Int) + 1⟩, op, rd, ky, st, spZ, s, cZ, bvZ, slZ, false⟩)) rfl ⟨HF.out.drew.wbox, HF.out.drew.box 0 _ _ _ rfl⟩ (fun hH => ?_)
   have HF : Hid _ := HF.out.drew
   generalize wk6.drew = wk7 at HF hH ⊢
   refine xV 0 41 (pV b 0) hH <| xV 1 42 (pV b 0) hH <| xV 2 43 (pV b 2) hH <| xL 3 44 69 ⟨b, 2, none⟩ v.mm.v (fun _ hw => ld1 hw.1 2 U69 rfl) hH <| xV 4 45 (.int .i64 ((c : Nat) : Int)) hH <| xU 5 46 (pV gm (0 + c * 1)) (fun w' hw => exec_ixS 69 1 E69 F69 _ _ rfl hgm (by omega)) hH <| xL 7 48 52 ⟨gk5, 0, none⟩ (.agg (Mg.cells ⟨k, fr, ⟨true, (c : Int) + 1⟩, op, rd, ky, st, spZ, s, cZ, bvZ, slZ, false⟩)) (fun _ hw => run_load_part (cs := Mg.cs ⟨k, fr, ⟨true, (c : Int) + 1⟩, op, rd, ky, st, spZ, s, cZ, bvZ, slZ, false⟩) (sub := Mg.cs ⟨k, fr, ⟨true, (c : Int) + 1⟩, op, rd, ky, st, spZ, s, cZ, bvZ, slZ, false⟩) (hw.2) (Part.all _) U52 rfl S52) hH <| ?_
   try simp only [pS]
   refine xP 6 47 (.iface 115 (pV m 0)) (w' := wk7) (exec_load 31 _ rfl ⟨gm, 0 + c * 1, none⟩ (by kernel_rfl) (.iface 115 (pV m 0)) (load_one ((HF.out.wa.mmc hgm hc).trans (by rw [hmp]; rfl)) U31 V31)) hH (fun hH => ?_)
   try simp only [pS]
   refine xC 8 49 85 #[pV m 0, .agg (Mg.cells ⟨k, fr, ⟨true, (c : Int) + 1⟩, op, rd, ky, st, spZ, s, cZ, bvZ, slZ, false⟩)] (take_M5 (HF.out.mch hm hmp) ⟨k, fr, ⟨true, (c : Int) + 1⟩, op, rd, ky, st, spZ, s, cZ, bvZ, slZ, false⟩ z (HF.out.qs 0 _ rfl).rd (by have h1 := (HF.out.qs 0 _ rfl).rd.len; have h2 := (HF.out.qs 0 _ rfl).le; dsimp only at h1 h2 ⊢; omega) h63) ?_
   rintro e wk8 hO
   obtain ⟨la, lc, ms, I2, J2, rfl, hL, hU2, hJ2, hG⟩ := HF.out.tell hmp hO (toOk_tak _ _ _)
   have HF : Hid (Wg w wk8 n0 J J2 b v ({ x with m := upN x.m c (some (takP u ⟨k, fr, ⟨true, (c : Int) + 1⟩, op, rd, ky, st, spZ, s, cZ, bvZ, slZ, false⟩ z).1) }) mp I2 H U D L [(gk5, 52, Mg.cells ⟨k, fr, ⟨true, (c : Int) + 1⟩, op, rd, ky, st, spZ, s, cZ, bvZ, slZ, false⟩)] [] [(s, z)]) := hG
   clear hG hO
   have hH2 : Box wk8 b 75 (Wv.cells v) ∧ Box wk8 gk5 52 (Mg.cells ⟨k, fr, ⟨true, (c : Int) + 1⟩, op, rd, ky, st, spZ, s, cZ, bvZ, slZ, false⟩) := ⟨HF.out.wbox, HF.out.box 0 _ _ _ rfl⟩
   refine ⟨.slice la ms.length lc, rfl, hH2, fun hH => ?_⟩
   clear hH2
   try simp only [pS]
   refine xV 9 5 (.slice la ms.length lc) hH ?_
   try simp only [pS]
   refine wpAnyH_done (by kernel_rfl) ?_ _
   try simp only [pS]
   clear hH
   go_upto_region 7 with fail
   refine WL.start <| uK (pV b 0) <| uK (.slice la ms.length lc) <| ?_
   try simp only [pS]
   refine uC 45 #[pV b 0, .slice la ms.length lc] (send_any n0 J2 b _ ⟨la, ms.length, lc⟩ (outs (takP u ⟨k, fr, ⟨true, (c : Int) + 1⟩, op, rd, ky, st, spZ, s, cZ, bvZ, slZ, false⟩ z)) ms _ ⟨_, _, _, _, _, _, _, HF.out.wa⟩ hL hJ2 hU2 (by have := hsl; dsimp only; omega)) ?_
   rintro e wk9 ⟨rfl, J3, ⟨v3, mp3, I3, H3, U3, D3, L3, hA3⟩, hup⟩
   have HF : Hid _ := HF.out.upd hA3 hup
   clear hA3 hup hL hU2 hJ2
   refine ⟨.tuple #[], rfl, ?_⟩
   try simp only [pS]
   refine WL.nil ?_
   try simp only [pS]
   have hsm := sendW_same (outs (takP u ⟨k, fr, ⟨true, (c : Int) + 1⟩, op, rd, ky, st, spZ, s, cZ, bvZ, slZ, false⟩ z)) { x with m := upN x.m c (some (takP u ⟨k, fr, ⟨true, (c : Int) + 1⟩, op, rd, ky, st, spZ, s, cZ, bvZ, slZ, false⟩ z).1) }
   go_upto_region 8 with fail
   refine WL.start <| uK (pV b 0) <| uK (.int .i64 ((c : Nat) : Int)) <| ?_
   try simp only [pS]
   refine uC 46 #[pV b 0, .int .i64 ((c : Nat) : Int)] (look_any_w n0 J3 b _ c _ ⟨_, _, _, _, _, _, _, HF.out.wa⟩ hc (fun t _ => by rw [hsm.2.1, hsm.2.2.1]; exact hat u hm) (by rw [hsm.2.2.2.1]; exact hnow)) ?_
   rintro e wk10 ⟨rfl, J4, ⟨v4, mp4, I4, H4, U4, D4, L4, hA4⟩, hup⟩
   have HF : Hid _ := HF.out.upd hA4 hup
   clear hA4 hup
   refine ⟨.tuple #[], rfl, ?_⟩
   try simp only [pS]
   refine WL.nil ?_
   try simp only [pS]
   go_wp2
   rw [HC.out, clieW_some hm hgo]
   refine bodyPost_ret (v := .tuple #[]) (by kernel_rfl) rfl ⟨rfl, HF.out.out⟩
end Go.Proofs.Ytgiokkcdgoloaaa.Md
