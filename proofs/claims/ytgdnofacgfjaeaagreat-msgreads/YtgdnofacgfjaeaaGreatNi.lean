import Derived.Test.YtgdnofacgfjaeaaGreatNd
import Derived.Test.YtgdnofacgfjaeaaGreatWiU
import Derived.Test.YtgdnofacgfjaeaaGreatWiRr
import Derived.Test.YtgdnofacgfjaeaaGreatWiZx
namespace Go.Proofs.YtgdnofacgfjaeaaGreat.Md
open Go.RowKit
set_option linter.unusedVariables false
set_option linter.unusedSimpArgs false
theorem vint_ne0 {u : Nat} (h : 1 < u) : Wi.vint u ≠ [0] := by
  intro e
  by_cases h2 : u < 128
  · rw [Wi.vint_lo h2] at e; simp at e; omega
  · rw [Wi.vint_hi h2] at e; simp at e; omega
def uR : Wi.RS → Prop
  | .ok zs _ => Wi.U8 zs
  | .bad _ c => c ≠ 0
def Took (st : Wi.RS) (L : List It) (st' : Wi.RS) : Prop := uR st → uR st' ∧ ∀ zs' a', st' = .ok zs' a' → ∃ zs a, st = .ok zs a ∧ zs = encB L ++ zs'
theorem encB_app (A B : List It) : encB (A ++ B) = encB A ++ encB B := by simp [encB]
theorem Took.nil (st : Wi.RS) : Took st [] st := fun h => ⟨h, fun zs' a' e => ⟨zs', a', e, by simp [encB]⟩⟩
theorem Took.trans {st s1 s2 : Wi.RS} {A B : List It} (h1 : Took st A s1) (h2 : Took s1 B s2) : Took st (A ++ B) s2 := fun h => by
  obtain ⟨u1, k1⟩ := h1 h
  obtain ⟨u2, k2⟩ := h2 u1
  refine ⟨u2, fun zs' a' e => ?_⟩
  obtain ⟨z1, a1, e1, rfl⟩ := k2 zs' a' e
  obtain ⟨z0, a0, e0, rfl⟩ := k1 _ a1 e1
  exact ⟨_, a0, e0, by rw [encB_app, List.append_assoc]⟩
theorem took_n (st : Wi.RS) : Took st [It.n (Wi.nV st)] (Wi.nS st) := fun h => by
  cases st with
  | bad p c => exact ⟨h, fun zs' a' e => by cases e⟩
  | ok zs a =>
    have h8 : Wi.U8 zs := h
    cases hq : Wi.nr zs with
    | error c =>
      have e1 : Wi.nS (.ok zs a) = .bad a c := by simp only [Wi.nS, Wi.numS, hq]
      rw [e1]
      exact ⟨by show c ≠ 0; rcases Wi.nr_code hq with rfl | rfl <;> decide, fun zs' a' e => by cases e⟩
    | ok q =>
      obtain ⟨u, k⟩ := q
      have e1 : Wi.nS (.ok zs a) = .ok (zs.drop k) (a + k) := by simp only [Wi.nS, Wi.numS, hq]
      have e2 : Wi.nV (.ok zs a) = (u : Int) := by simp only [Wi.nV, Wi.numS, hq]
      rw [e1, e2]
      refine ⟨h8.drop k, fun zs' a' e => ⟨zs, a, rfl, ?_⟩⟩
      injection e with e1 _
      subst e1
      have hv : Wi.vr zs = .ok (u, k) := by
        unfold Wi.nr at hq
        split at hq
        · cases hq
        · rename_i u' k' hv
          split at hq
          · cases hq
          · simp only [Except.ok.injEq, Prod.mk.injEq] at hq
            obtain ⟨rfl, rfl⟩ := hq
            exact hv
      have hf := Wi.vr_form h8 hv
      have : encB [It.n ((u : Nat) : Int)] = Wi.vint u := by simp [encB, encIt]
      rw [this, ← hf, List.take_append_drop]
theorem took_t (st : Wi.RS) : Took st [It.b (tV st)] (tS st) := fun h => by
  cases st with
  | bad p c => exact ⟨h, fun zs' a' e => by cases e⟩
  | ok zs a =>
    have h8 : Wi.U8 zs := h
    cases hq : Wi.cr zs with
    | error c =>
      have e1 : tS (.ok zs a) = .bad a c := by simp only [tS, Wi.bytesS, hq]
      rw [e1]
      exact ⟨by show c ≠ 0; rcases Wi.cr_code hq with rfl | rfl <;> decide, fun zs' a' e => by cases e⟩
    | ok q =>
      obtain ⟨n, k⟩ := q
      have e1 : tS (.ok zs a) = .ok (zs.drop (k + n)) (a + (k + n)) := by simp only [tS, Wi.bytesS, hq]
      have e2 : tV (.ok zs a) = (zs.drop k).take n := by simp only [tV, Wi.bytesS, hq]
      rw [e1, e2]
      refine ⟨h8.drop _, fun zs' a' e => ⟨zs, a, rfl, ?_⟩⟩
      injection e with e1 _
      subst e1
      have hn : Wi.nr zs = .ok (n, k) ∧ n ≤ zs.length - k := by
        unfold Wi.cr at hq
        split at hq
        · cases hq
        · rename_i n' k' hv
          split at hq
          · cases hq
          · rename_i hlt
            simp only [Except.ok.injEq, Prod.mk.injEq] at hq
            obtain ⟨rfl, rfl⟩ := hq
            exact ⟨hv, by omega⟩
      have hv : Wi.vr zs = .ok (n, k) := by
        have hq := hn.1
        unfold Wi.nr at hq
        split at hq
        · cases hq
        · rename_i u' k' hv
          split at hq
          · cases hq
          · simp only [Except.ok.injEq, Prod.mk.injEq] at hq
            obtain ⟨rfl, rfl⟩ := hq
            exact hv
      have hf := Wi.vr_form h8 hv
      have hl : ((zs.drop k).take n).length = n := by rw [List.length_take, List.length_drop]; omega
      have : encB [It.b ((zs.drop k).take n)] = Wi.vint n ++ (zs.drop k).take n := by simp only [encB, encIt, List.map_cons, List.map_nil, List.flatten_cons, List.flatten_nil, List.append_nil, hl]
      rw [this, ← hf, List.append_assoc, ← List.drop_drop, List.take_append_drop, List.take_append_drop]
theorem tV_u8 {st : Wi.RS} (h : uR st) : Wi.U8 (tV st) := by
  cases st with
  | bad p c => exact Wi.U8.nil
  | ok zs a =>
    have h8 : Wi.U8 zs := h
    cases hq : Wi.cr zs with
    | error c =>
      have e2 : tV (.ok zs a) = [] := by simp only [tV, Wi.bytesS, hq]
      rw [e2]; exact Wi.U8.nil
    | ok q =>
      obtain ⟨n, k⟩ := q
      have e2 : tV (.ok zs a) = (zs.drop k).take n := by simp only [tV, Wi.bytesS, hq]
      rw [e2]; exact (h8.drop _).take _
theorem took_x (st : Wi.RS) : Took st [It.b (Wi.numsOf (Wi.strOf (tV st)))] (tS st) := fun h => by
  have := took_t st h
  rw [Wi.numsOf_strOf (tV_u8 h)]
  exact this
theorem took_2 (st : Wi.RS) : Took st [It.n (Wi.nV st), It.n (Wi.nV (Wi.nS st))] (Wi.aS st) := (took_n st).trans (took_n _)
theorem took_cm (st : Wi.RS) : Took st (cmdIts (cmV st)) (cmS st) := by
  unfold cmV cmS cmdIts
  cases hk : (Wi.nV st == 0)
  · simp only [cond_false]
    have : (cmW st).k = Wi.nV st := rfl
    rw [this, hk]
    simp only [cond_false]
    exact (took_n st).trans <| (took_n _).trans <| (took_n _).trans <| (took_x _).trans <| (took_2 _).trans <| (took_2 _).trans (took_n _)
  · simp only [cond_true]
    have h0 : Wi.nV st = 0 := eq_of_beq hk
    have h1 := took_n st
    rw [h0] at h1
    exact h1
def blkS (st : Wi.RS) : Wi.RS := tS (Wi.aS st)
theorem took_blk (st : Wi.RS) (x : Bl) (h : x.s = stV st) : Took st (blkIts x (tV (Wi.aS st))) (blkS st) := by
  unfold blkIts
  rw [h]
  exact (took_2 st).trans (took_t _)
def inRaw (st : Wi.RS) : List It := (([It.n (Wi.nV st), It.n (Wi.nV (Wi.nS st))] ++ [It.n (Wi.nV (Wi.aS st)), It.n (Wi.nV (Wi.nS (Wi.aS st)))]) ++ cmdIts (cmV (Wi.aS (Wi.aS st))))
theorem took_in0 (st : Wi.RS) : Took st (inRaw st) (cmS (Wi.aS (Wi.aS st))) := ((took_2 st).trans (took_2 _)).trans (took_cm _)
theorem took_in (st : Wi.RS) : Took st (inRaw st ++ [It.n (Wi.nV (cmS (Wi.aS (Wi.aS st))))]) (inS st) := (took_in0 st).trans (took_n _)
theorem four_num {zs : List Int} (h : Wi.U8 zs) (hl : 4 ≤ zs.length) : Wi.fourOf (Wi.numOf zs) = zs.take 4 := by
  match zs, hl with
  | a :: b :: c :: d :: r, _ =>
    have h0 := h 0
    have h1 := h 1
    have h2 := h 2
    have h3 := h 3
    simp at h0 h1 h2 h3
    unfold Wi.fourOf Wi.numOf
    simp
    omega
theorem open_form {ys : List Int} (h : Wi.U8 ys) (ho : (Wi.openOf ys).2 = 0) : Wi.sealOf (Wi.openOf ys).1 = ys ∧ (Wi.openOf ys).1.length ≤ 131072 := by
  unfold Wi.openOf at ho ⊢
  split at ho
  · cases ho
  rename_i h1
  split at ho
  · cases ho
  rename_i h2
  split at ho
  · cases ho
  rename_i h3
  split at ho
  · cases ho
  rename_i h4
  split at ho
  · cases ho
  rename_i h5
  split at ho
  · cases ho
  rename_i h6
  have hb := Wi.numOf_bd h
  obtain ⟨n, hn⟩ : ∃ n : Nat, Wi.numOf ys = n := ⟨(Wi.numOf ys).toNat, by omega⟩
  rw [if_neg h1, if_neg h2, if_neg h3, if_neg h4, if_neg h5, if_neg h6]
  simp only [Decidable.not_not] at h2 h6
  rw [hn] at h3 h4 h5 h6 ⊢
  simp only [Int.toNat_natCast] at h6 ⊢
  have hlen : ys.length = n + 12 := by omega
  have hbl : ((ys.drop 8).take n).length = n := by rw [List.length_take, List.length_drop]; omega
  have e1 : Wi.fourOf (n : Int) = ys.take 4 := by rw [← hn]; exact four_num h (by omega)
  have e2 : Wi.fourOf (Wi.sumOf (ys.take 4)) = (ys.drop 4).take 4 := by rw [← h2]; exact four_num (h.drop 4) (by rw [List.length_drop]; omega)
  have e3 : Wi.headOf ((ys.drop 8).take n) = ys.take 8 := by
    unfold Wi.headOf
    rw [hbl, e1, e2]
    rw [show (8 : Nat) = 4 + 4 from rfl, List.take_add]
  have e4 : ys.take 8 ++ (ys.drop 8).take n = ys.take (n + 8) := by rw [show n + 8 = 8 + n by omega, List.take_add]
  have e5 : Wi.fourOf (Wi.sumOf (ys.take (n + 8))) = ys.drop (n + 8) := by
    rw [← h6, four_num (h.drop _) (by rw [List.length_drop]; omega), List.take_of_length_le (by rw [List.length_drop]; omega)]
  refine ⟨?_, by rw [hbl]; omega⟩
  unfold Wi.sealOf
  rw [e3, e4, e5, List.take_append_drop]
theorem fin_eq {ys body : List Int} {L : List It} {st' : Wi.RS} {R : Bool} (h8 : Wi.U8 ys) (ho : (Wi.openOf ys).2 = 0) (hb : (Wi.openOf ys).1 = body) (hT : Took (.ok body 0) L st') :
    (Wi.wholeB false st' && R) = ((Wi.errS st').2 == 0 && (!Wi.moreS st' && (R && decide (Wi.sealOf (encB L) = ys)))) := by
  have hf := open_form h8 ho
  rw [hb] at hf
  have hu : Wi.U8 body := by rw [← hb]; unfold Wi.openOf; (repeat' split) <;> first | exact Wi.U8.nil | exact (h8.drop _).take _
  obtain ⟨u, k⟩ := hT hu
  cases st' with
  | bad p c =>
    have hc : c ≠ 0 := u
    have e1 : (c == 0) = false := beq_eq_false_iff_ne.2 hc
    simp [Wi.wholeB, Wi.endS, Wi.errS, e1, hc]
  | ok zs' a' =>
    obtain ⟨zs, a, e, hz⟩ := k zs' a' rfl
    injection e with e1 _
    subst e1
    cases zs' with
    | nil =>
      rw [List.append_nil] at hz
      rw [← hz, hf.1]
      simp [Wi.wholeB, Wi.endS, Wi.errS, Wi.moreS]
    | cons z r => simp [Wi.wholeB, Wi.endS, Wi.errS, Wi.moreS]
theorem nV_pos (st : Wi.RS) : 0 ≤ Wi.nV st := by
  cases st with
  | bad p c => exact Int.le_refl 0
  | ok zs a =>
    cases hq : Wi.nr zs with
    | error c =>
      have e2 : Wi.nV (.ok zs a) = 0 := by simp only [Wi.nV, Wi.numS, hq]
      rw [e2]; omega
    | ok q =>
      have e2 : Wi.nV (.ok zs a) = ((q.1 : Nat) : Int) := by simp only [Wi.nV, Wi.numS, hq]
      rw [e2]; omega
theorem fin_ins {ys body : List Int} {R : Bool} (h8 : Wi.U8 ys) (ho : (Wi.openOf ys).2 = 0) (hb : (Wi.openOf ys).1 = body) (hR : R = true → okL (insIts (inV (.ok body 0))) ∧ itsLen (insIts (inV (.ok body 0))) ≤ 131072) :
    (Wi.wholeB (Wi.fO false (cmS (Wi.aS (Wi.aS (.ok body 0))))) (inS (.ok body 0)) && R) = ((Wi.errS (inS (.ok body 0))).2 == 0 && (!Wi.moreS (inS (.ok body 0)) && (R && decide (Wi.sealOf (encB (insIts (inV (.ok body 0)))) = ys)))) := by
  have hT := took_in (.ok body 0)
  have hu : Wi.U8 body := by rw [← hb]; unfold Wi.openOf; (repeat' split) <;> first | exact Wi.U8.nil | exact (h8.drop _).take _
  obtain ⟨v, hv⟩ : ∃ v, Wi.nV (cmS (Wi.aS (Wi.aS (.ok body 0)))) = v := ⟨_, rfl⟩
  have hi : insIts (inV (.ok body 0)) = inRaw (.ok body 0) ++ [It.n (bif decide (v = 1) then 1 else 0)] := by
    unfold insIts inV inRaw Wi.fV
    rw [hv]
  have hO : Wi.fO false (cmS (Wi.aS (Wi.aS (.ok body 0)))) = decide (v > 1) := by unfold Wi.fO; rw [hv]; rfl
  have hv0 : 0 ≤ v := by
    rw [← hv]; exact nV_pos _
  rw [hv] at hT
  by_cases h1 : v > 1
  · have e1 : decide (v > 1) = true := decide_eq_true h1
    have e2 : decide (v = 1) = false := decide_eq_false (by omega)
    rw [hO, e1]
    have hl : Wi.wholeB true (inS (.ok body 0)) = false := by simp [Wi.wholeB]
    rw [hl, Bool.false_and]
    symm
    cases hq : ((Wi.errS (inS (.ok body 0))).2 == 0 && (!Wi.moreS (inS (.ok body 0)) && (R && decide (Wi.sealOf (encB (insIts (inV (.ok body 0)))) = ys)))) with
    | false => rfl
    | true =>
      exfalso
      rw [Bool.and_eq_true, Bool.and_eq_true, Bool.and_eq_true] at hq
      obtain ⟨q1, q2, q3, q4⟩ := hq
      have q5 := of_decide_eq_true q4
      obtain ⟨hok, hlen⟩ := hR q3
      have h3 := encB_len hok
      have h4 := Wi.open_seal (encB (insIts (inV (.ok body 0)))) (by omega)
      rw [q5] at h4
      have h5 : body = encB (insIts (inV (.ok body 0))) := hb.symm.trans (congrArg Prod.fst h4)
      obtain ⟨u, k⟩ := hT hu
      cases hs : inS (.ok body 0) with
      | bad p c => rw [hs] at u q1; have u : c ≠ 0 := u; simp [Wi.errS] at q1; exact u q1
      | ok zs' a' =>
        obtain ⟨zs, a, e, hz⟩ := k zs' a' hs
        injection e with e6 _
        subst e6
        have hn : zs' = [] := by
          rw [hs] at q2
          cases zs' with
          | nil => rfl
          | cons z r => simp [Wi.moreS] at q2
        rw [hn, List.append_nil] at hz
        rw [hi] at h5
        have h6 := List.append_cancel_left ((hz.trans (encB_app _ _)).symm.trans (h5.trans (encB_app _ _)))
        rw [e2] at h6
        have h7 : Wi.vint v.toNat = Wi.vint 0 := by simpa [encB, encIt] using h6
        have h9 : Wi.vint v.toNat = [0] := h7.trans (Wi.vint_lo (by omega))
        exact absurd h9 (vint_ne0 (by omega))
  · have e1 : decide (v > 1) = false := decide_eq_false h1
    rw [hO, e1]
    have e2 : (bif decide (v = 1) then (1 : Int) else 0) = v := by
      by_cases h2 : v = 1
      · rw [decide_eq_true h2]; exact h2.symm
      · rw [decide_eq_false h2]; show (0 : Int) = v; omega
    rw [hi, e2]
    exact fin_eq h8 ho hb hT
def OpO (w : World) (b : Bool) (ys : List Int) (e : Ending) (w' : World) : Prop :=
  Kept No w w' ∧ ((b = false ∧ e = .returned (.tuple #[.pointer none, .int .i64 20])) ∨ (b = true ∧ ((Wi.openOf ys).2 == 0) = false ∧ e = .returned (.tuple #[.pointer none, .int .i64 (Wi.openOf ys).2])) ∨
    (b = true ∧ ((Wi.openOf ys).2 == 0) = true ∧ ∃ i g ba bc, e = .returned (.tuple #[.pointer (some ⟨i, 0, none⟩), .int .i64 0]) ∧ (inSrc i g ba bc (Wi.openOf ys).1).St w' (.ok (Wi.openOf ys).1 0, false) ∧ ∀ k, (inSrc i g ba bc (Wi.openOf ys).1).In k → w.heap.size ≤ k))
theorem open_u8 {ys : List Int} (h8 : Wi.U8 ys) : Wi.U8 (Wi.openOf ys).1 := by unfold Wi.openOf; (repeat' split) <;> first | exact Wi.U8.nil | exact (h8.drop _).take _
section
variable {ops : Array Oper} {rest : List Oper} {o : Oper} {a : Act} {w : World} {Q : Exit → Act → World → Prop} {S : Nat → Prop} {w0 : World} {l : List (Nat × TypeId × Array Value)}
theorem cOp {f : FuncId} {args : Array Value} {ys : List Int} (hc : Calls Tryz.prog f args w (Wi.Opens w ys)) (HF : Hid (Fq S w0 w l))
    (h : ∀ (s : Sl) w', Hid (Fq S w0 w' l) → Hid (Wi.OwnS w' w.heap.size s.a s.k (Wi.openOf ys).1 ∧ s.l = (Wi.openOf ys).1.length ∧ w0.heap.size ≤ w.heap.size ∧ w.heap.size ≤ w'.heap.size) → WL ops Q rest (a.put o.dst (.tuple #[s.v, .int .i64 (Wi.openOf ys).2])) w') (hrun : (execOp a.eval o).run Tryz.prog w = .ok (.enter f args) w := by kernel_rfl) (hw : Region.wanted o (yielded ops a.tmps) = true := by kernel_rfl) : WL ops Q (o :: rest) a w :=
  wp_callW f args hrun _ hc hw (by rintro e w' ⟨a', n', c', rfl, h1, h2, hk⟩; exact ⟨_, rfl, h ⟨a', n', c'⟩ w' (HF.out.no (kw hk)) ⟨h2, h1, HF.out.kept.size, hk.size⟩⟩)
end
set_option maxRecDepth 100000 in
set_option maxHeartbeats 4000000 in
theorem r_opened (x : Sl) (ys : List Int) (c : Cg) (zs : List Int) (w : World) (hc : CgIn w c zs) (hx : Wi.Sl w x.a x.l x.k ys) : Calls Tryz.prog 147 #[x.v, .agg (Cg.cells c)] w (OpO w (cfgP c zs) ys) := by
  refine hidC fun C HC => ?_
  have HCg : Hid (CgIn w c zs) := hc
  have HX : Hid (Wi.Sl w x.a x.l x.k ys) := hx
  clear hc hx
  have HF : Hid (Fq No w w []) := Fq.start _ _
  go_enter Tryz.func147, Tryz.ntmps147
  go_upto_region 0 with fail
  refine WL.start <| xB (Cg.cells c) HF fun g1 w2 HF => tK (.pointer none) <| tK (.int .i64 0) <| WL.nil <| ?_
  try simp only [pS]
  go_upto_region 1 with fail
  refine WL.start <| lP (Cg.cs c) HF 0 0 U24 S24 (Cg.cs c) rfl <| ?_
  try simp only [pS]
  cases q1 : (cfgP c zs)
  ·skip
   refine cB (cfg_is c zs _ (HCg.out.no HF.out.kept)) q1 HF fun w3 HF => tK (.bool true) <| WL.nil <| ?_
   try simp only [pS]
   go_upto_region 2 with fail
   refine WL.start <| tK (.pointer none) <| tK (.int .i64 20) <| WL.nil <| ?_
   try simp only [pS]
   go_wp2
   rw [HC.out]
   exact ⟨HF.out.kept, .inl ⟨q1, rfl⟩⟩
  refine cB (cfg_is c zs _ (HCg.out.no HF.out.kept)) q1 HF fun w4 HF => tK (.bool false) <| WL.nil <| ?_
  try simp only [pS]
  go_upto_region 3 with fail
  refine WL.start <| tK (x.v) <| cOp (Wi.ropen_sl (HX.out.no (wk HF.out.kept))) HF fun s5 w6 HF HO => ?_
  try simp only [pS]
  have HF0 : Hid (Fq No w w6 [(g1, 24, Cg.cells c)]) := HF
  have HF : Hid (Fq No w6 w6 []) := Fq.start _ _
  refine tK (.tuple #[s5.v, .int .i64 (Wi.openOf ys).2]) <| tK (s5.v) <| tK (.int .i64 (Wi.openOf ys).2) <| tK (s5.v) <| tK (.int .i64 (Wi.openOf ys).2) <| WL.nil <| ?_
  try simp only [pS]
  go_upto_region 4 with fail
  refine WL.start <| tK (.int .i64 (Wi.openOf ys).2) <| ?_
  try simp only [pS]
  cases q2 : (((Wi.openOf ys).2) == 0)
  ·skip
   refine bN (nI0 q2) <| WL.nil <| ?_
   try simp only [pS]
   go_upto_region 5 with fail
   refine WL.start <| tK (.int .i64 (Wi.openOf ys).2) <| tK (.pointer none) <| tK (.int .i64 (Wi.openOf ys).2) <| WL.nil <| ?_
   try simp only [pS]
   go_wp2
   rw [HC.out]
   exact ⟨(HF0.out.no HF.out.kept).kept, .inr (.inl ⟨q1, q2, rfl⟩)⟩
  refine bN (nI1 q2) <| WL.nil <| ?_
  try simp only [pS]
  go_upto_region 6 with fail
  refine WL.start <| tK (s5.v) <| bD (#[s5.v, .int .i64 0, .int .i64 0, .int .i64 0]) <| xB (#[s5.v, .int .i64 0, .int .i64 0, .int .i64 0]) HF fun g7 w8 HF => bD (#[.pointer (some ⟨g7, 0, none⟩)]) <| xB (#[.pointer (some ⟨g7, 0, none⟩)]) HF fun g9 w10 HF => tK (pg g9 0) <| tK (.int .i64 0) <| WL.nil <| ?_
  try simp only [pS]
  have HJ := HF0.out.join HF.out
  have hl := HO.out.2.1
  have hsl : Wi.Sl w10 s5.a (Wi.openOf ys).1.length s5.k (Wi.openOf ys).1 := by
    have h1 := HO.out.1.sl rfl (open_u8 HX.out.u8) (by have := (open_form HX.out.u8 (eq_of_beq q2)).2; omega)
    exact h1.no (wk HF.out.kept)
  have hb5 : Box w10 g7 172 #[.slice s5.a (Wi.openOf ys).1.length s5.k, .int .i64 0, .int .i64 0, .int .i64 0] := by rw [← hl]; exact HF.out.box 0 _ _ _ rfl
  have hg5 : w.heap.size ≤ g7 := (HJ.low 1 _ _ _ rfl).elim id False.elim
  have hg7 : w.heap.size ≤ g9 := (HJ.low 2 _ _ _ rfl).elim id False.elim
  have hne : g9 ≠ g7 := HJ.ne 2 1 rfl rfl (by omega)
  go_wp2
  rw [HC.out]
  exact ⟨HJ.kept, .inr (.inr ⟨q1, q2, g9, g7, s5.a, s5.k, rfl, ⟨HF.out.box 1 _ _ _ rfl, ⟨⟨hb5, hsl, Nat.zero_le _⟩, rfl⟩, rfl, hne⟩, fun k e => by
    rcases e with rfl | rfl | ⟨h0, e⟩
    · exact hg7
    · exact hg5
    · exact Nat.le_trans HO.out.2.2.1 (HO.out.1.base e)⟩)⟩
theorem strOf_eq {A B : List Int} (ha : Wi.U8 A) (hb : Wi.U8 B) : eqN (Wi.strOf A) (Wi.strOf B) = decide (A = B) := by
  by_cases h : A = B
  · subst h; rw [decide_eq_true rfl]; exact eqN_iff.2 rfl
  · rw [decide_eq_false h]
    cases hq : eqN (Wi.strOf A) (Wi.strOf B) with
    | false => rfl
    | true =>
      exfalso
      have h1 := congrArg Wi.numsOf (eqN_iff.1 hq)
      rw [Wi.numsOf_strOf ha, Wi.numsOf_strOf hb] at h1
      exact h h1
theorem inErr {i g : Nat} {ba : Option Addr} {bc : Nat} {bs : List Int} {w : World} {s : Wi.RS × Bool} (h : (inSrc i g ba bc bs).St w s) : w.cell? ⟨g, 2, none⟩ = some (.int .i64 (Wi.errS s.1).2) := by
  obtain ⟨st, b⟩ := s
  have h2 := h.2.1
  cases st with
  | ok zs at_ =>
    have hb : Box w g 172 _ := h2.1.cell
    exact hb.cell 2
  | bad p c =>
    obtain ⟨_, at_, hr⟩ := h2
    have hb : Box w g 172 _ := hr.cell
    exact hb.cell 2
theorem inMore {i g : Nat} {ba : Option Addr} {bc : Nat} {bs : List Int} {w : World} {s : Wi.RS × Bool} (h : (inSrc i g ba bc bs).St w s) : Calls Tryz.prog 123 #[.pointer (some ⟨g, 0, none⟩)] w (fun e w' => e = .returned (.bool (Wi.moreS s.1)) ∧ Kept No w w') :=
  (Wi.rmore_all g ba bc bs s.1 w h.2.1).mono (by rintro e w' ⟨rfl, n, rfl⟩; exact ⟨rfl, kw ((Wi.Kept.refl _ _).drewN n)⟩)
section
variable {ops : Array Oper} {rest : List Oper} {o : Oper} {a : Act} {w : World} {Q : Exit → Act → World → Prop} {K : Src} {w0 : World} {s s' : Wi.RS × Bool} {l : List (Nat × TypeId × Array Value)}
theorem rcB {f : FuncId} {args : Array Value} {F b : Bool} (hc : Calls Tryz.prog f args w (fun e w' => e = .returned (.bool F) ∧ Kept No w w')) (hF : F = b) (HF : Hid (Kr K w0 w s l))
    (h : ∀ w', Hid (Kr K w0 w' s l) → Hid (Kept No w w') → WL ops Q rest (a.put o.dst (.bool b)) w')
    (hrun : (execOp a.eval o).run Tryz.prog w = .ok (.enter f args) w := by kernel_rfl) (hw : Region.wanted o (yielded ops a.tmps) = true := by kernel_rfl) : WL ops Q (o :: rest) a w :=
  wp_callW f args hrun _ hc hw (by rintro e w' ⟨rfl, hk⟩; exact ⟨_, by rw [hF], h w' (HF.out.no hk) hk⟩)
theorem rEn {f : FuncId} {args : Array Value} {err : Int} {bytes : List Int} (hc : Calls Tryz.prog f args w (EncO w err bytes)) (HF : Hid (Kr K w0 w s l))
    (h : ∀ (x : Sl) w', Hid (Kr K w0 w' s l) → Hid (Kept No w w') → Hid (RdB w' x bytes) → x.l ≤ 131084 → WL ops Q rest (a.put o.dst (.tuple #[x.v, .int .i64 err])) w') (hrun : (execOp a.eval o).run Tryz.prog w = .ok (.enter f args) w := by kernel_rfl) (hw : Region.wanted o (yielded ops a.tmps) = true := by kernel_rfl) : WL ops Q (o :: rest) a w :=
  wp_callW f args hrun _ hc hw (by rintro e w' ⟨x, rfl, h1, h2, hk⟩; exact ⟨_, rfl, h x w' (HF.out.no hk) hk h1 h2⟩)
theorem rWk (new : List Value) (vs : List Value) (HF : Hid (Kr K w0 w s l)) (i k : Nat) {t : TypeId} {v : Value} (hv : v.cells = vs.toArray) (hs : (Tryz.prog.info? t).map (·.size) = some vs.length) (h1 : ∀ x ∈ vs, x.oneCell' = true) {g : Nat} {Tb : TypeId} (cur : List Value) (hi : l[i]? = some (g, Tb, cur.toArray))
    (h : ∀ w', Hid (Kr K w0 w' s (l.set i (g, Tb, new.toArray))) → Hid (Kept (Only g) w w') → WL ops Q rest (a.put o.dst undef) w') {x y : Operand}
    (ho : o.op = .store t x y := by rfl) (hx : a.eval x = .pointer (some ⟨g, k, none⟩) := by kernel_rfl) (hy : a.eval y = v := by kernel_rfl) (hl : k + vs.length ≤ cur.length := by exact Nat.le_of_ble_eq_true (by kernel_rfl)) (hn : putL cur k vs = new := by kernel_rfl)
    (hw : Region.wanted o (yielded ops a.tmps) = true := by kernel_rfl) : WL ops Q (o :: rest) a w :=
  wp_storeW t x y ho ⟨g, k, none⟩ v hx hy _ (run_store_to (HF.out.fq.box i g Tb _ hi) hv hs hl h1 hn) hw (h _ (HF.out.set i hi _) (kept_row (Kept.refl (Only g) w) (.inr rfl) _))
theorem rZ2 {x : Sl} {bs : List Int} (h1 : RdB w x bs) (h8 : Wi.U8 bs) (h : WL ops Q rest (a.put o.dst (.string (Wi.strOf bs))) w) {y : Operand} (ho : o.op = .convert 35 9 y := by rfl) (hx : a.eval y = x.v := by kernel_rfl)
    (hw : Region.wanted o (yielded ops a.tmps) = true := by kernel_rfl) : WL ops Q (o :: rest) a w :=
  tW _ (exec_convW 35 9 y ho hx (Wi.run_str h1.row h8 h1.len)) h hw
end
theorem sl_off {w : World} {x : Sl} {bs : List Int} (h : Wi.Sl w x.a x.l x.k bs) (h0 : 0 < bs.length) {k g : Nat} (hk : Wi.At x.a k) {T : TypeId} {cs : Array Value} (hb : Box w g T cs) (hv : ∀ (i : Nat) z, cs[i]? ≠ some (.int .u8 z)) : k ≠ g := by
  rintro rfl
  obtain ⟨b, off, e, hc⟩ := h.bytes 0 h0
  obtain ⟨ad, e2, rfl⟩ := hk
  rw [e] at e2
  cases e2
  rw [hb.cell] at hc
  exact hv _ _ hc
theorem sl_rd {w : World} {x : Sl} {bs : List Int} (h : Wi.Sl w x.a x.l x.k bs) : RdB w x bs := ⟨h.bytes, h.len, h.nil⟩
def outI (b : Bool) (ys : List Int) (good : Bool) : In × Int :=
  bif b then (bif (Wi.openOf ys).2 == 0 then (bif good then (inV (.ok (Wi.openOf ys).1 0), 0) else (inZ', 11)) else (inZ', (Wi.openOf ys).2)) else (inZ', 20)
def outB (b : Bool) (ys : List Int) (good : Bool) : Sp × List Int × Int :=
  bif b then (bif (Wi.openOf ys).2 == 0 then (bif good then (stV (.ok (Wi.openOf ys).1 0), tV (Wi.aS (.ok (Wi.openOf ys).1 0)), 0) else (spZ, [], 11)) else (spZ, [], (Wi.openOf ys).2)) else (spZ, [], 20)
def InsO (w : World) (r : In × Int) (e : Ending) (w' : World) : Prop := e = .returned (.tuple #[.agg (In.cells r.1), .int .i64 r.2]) ∧ Kept No w w'
def BlkO (w : World) (r : Sp × List Int × Int) (e : Ending) (w' : World) : Prop := ∃ s : Sl, e = .returned (.tuple #[.agg (Bl.cells ⟨r.1, s⟩), .int .i64 r.2.2]) ∧ RdB w' s r.2.1 ∧ s.l ≤ 281474976710656 ∧ Kept No w w'
theorem bl_nou (n m : Int) (s : Sl) : ∀ (i : Nat) z, (Bl.cells ⟨⟨n, m⟩, s⟩)[i]? ≠ some (.int .u8 z) := by
  intro i z
  match i with
  | 0 => intro e; cases e
  | 1 => intro e; cases e
  | 2 => intro e; cases e
  | i + 3 => intro e; have : (i + 3) < 3 := (Array.getElem?_eq_some_iff.1 e).1; omega
theorem and_l {a b : Bool} (h : (a && b) = true) : a = true := by cases a <;> simp_all
theorem and_r {a b : Bool} (h : (a && b) = true) : b = true := by cases a <;> simp_all
theorem encR_u8 {b : Bool} {L : List It} (h : b = true → okL L) : Wi.U8 (encR b L) := by
  cases b
  · exact Wi.U8.nil
  · exact Wi.sealOf_u8 (encB_u8 (h rfl))
set_option maxRecDepth 100000 in
set_option maxHeartbeats 4000000 in
theorem r_same0 (x y : Sl) (A B : List Int) (w : World) (h1 : RdB w x A ∧ Wi.U8 A) (h2 : RdB w y B ∧ Wi.U8 B) : Calls Tryz.prog 124 #[x.v, y.v] w (fun e w' => e = .returned (.bool (decide (A = B))) ∧ Kept No w w') := by
  refine hidC fun C HC => ?_
  have HA : Hid (RdB w x A ∧ Wi.U8 A) := h1
  have HB : Hid (RdB w y B ∧ Wi.U8 B) := h2
  clear h1 h2
  have HF : Hid (Fq No w w []) := Fq.start _ _
  go_enter Tryz.func124, Tryz.ntmps124
  go_upto_region 0 with fail
  refine WL.start <| tK (.bool false) <| WL.nil <| ?_
  try simp only [pS]
  go_upto_region 1 with fail
  refine WL.start <| tK (x.v) <| rZ2 (HA.out.1.no HF.out.kept) HA.out.2 <| tK (y.v) <| rZ2 (HB.out.1.no HF.out.kept) HB.out.2 <| ?_
  try simp only [pS]
  cases q1 : (eqN (Wi.strOf A) (Wi.strOf B))
  ·skip
   refine bN (eN q1) <| tK (.bool false) <| WL.nil <| ?_
   try simp only [pS]
   have hz := strOf_eq HA.out.2 HB.out.2
   rw [q1] at hz
   go_wp2
   rw [HC.out, ← hz]
   exact ⟨rfl, HF.out.kept⟩
  refine bN (eN q1) <| tK (.bool true) <| WL.nil <| ?_
  try simp only [pS]
  have hz := strOf_eq HA.out.2 HB.out.2
  rw [q1] at hz
  go_wp2
  rw [HC.out, ← hz]
  exact ⟨rfl, HF.out.kept⟩
theorem r_same (x y : Sl) (A B : List Int) (w : World) (h1 : RdB w x A) (h2 : Wi.Sl w y.a y.l y.k B) (h3 : Wi.U8 A) : Calls Tryz.prog 124 #[x.v, y.v] w (fun e w' => e = .returned (.bool (decide (A = B))) ∧ Kept No w w') := r_same0 x y A B w ⟨h1, h3⟩ ⟨sl_rd h2, h2.u8⟩
set_option maxRecDepth 100000 in
set_option maxHeartbeats 4000000 in
theorem r_ReadI0 (x : Sl) (ys : List Int) (c : Cg) (zs : List Int) (w : World) (hc : CgIn w c zs) (hx : Wi.Sl w x.a x.l x.k ys) : Calls Tryz.prog 77 #[x.v, .agg (Cg.cells c)] w (InsO w (outI (cfgP c zs) ys (((Wi.errS (inS (.ok (Wi.openOf ys).1 0))).2 == 0) && (!Wi.moreS (inS (.ok (Wi.openOf ys).1 0)) && ((jdg (cfgP c zs) (insP c.bl (inV (.ok (Wi.openOf ys).1 0))) 1 == 0) && decide (encR (cfgP c zs && insP c.bl (inV (.ok (Wi.openOf ys).1 0))) (insIts (inV (.ok (Wi.openOf ys).1 0))) = ys)))))) := by
  refine hidC fun C HC => ?_
  have HCg : Hid (CgIn w c zs) := hc
  have HX : Hid (Wi.Sl w x.a x.l x.k ys) := hx
  clear hc hx
  have HF : Hid (Fq No w w []) := Fq.start _ _
  go_enter Tryz.func77, Tryz.ntmps77
  go_upto_region 0 with fail
  refine WL.start <| xB (Cg.cells c) HF fun g1 w2 HF => xA (In.cells inZ') Z78 HF fun g3 w4 HF => tK (.int .i64 0) <| WL.nil <| ?_
  try simp only [pS]
  go_upto_region 1 with fail
  refine WL.start <| tK (x.v) <| lP (Cg.cs c) HF 0 0 U24 S24 (Cg.cs c) rfl <| ?_
  try simp only [pS]
  refine wp_callW 147 #[x.v, .agg (Cg.cells c)] (by kernel_rfl) _ (r_opened x ys c zs _ (HCg.out.no HF.out.kept) (HX.out.no (wk HF.out.kept))) (by kernel_rfl) ?_
  rintro e w5 ⟨hk, hcase⟩
  rcases hcase with ⟨h1, rfl⟩ | ⟨h1, h2, rfl⟩ | ⟨h1, h2, i, g, ba, bc, rfl, hS, hI⟩
  ·skip
   refine ⟨_, rfl, ?_⟩
   try simp only [pS]
   have HF : Hid (Fq No w w5 [(g1, 24, Cg.cells c), (g3, 78, In.cells inZ')]) := HF.out.no hk
   clear hk
   refine tK (.tuple #[.pointer none, .int .i64 20]) <| tK (.pointer none) <| tK (.int .i64 20) <| tK (.pointer none) <| tK (.int .i64 20) <| WL.nil <| ?_
   try simp only [pS]
   go_upto_region 2 with fail
   refine WL.start <| tK (.int .i64 20) <| bN (nI0 (show ((20 : Int) == 0) = false by decide)) <| WL.nil <| ?_
   try simp only [pS]
   go_upto_region 3 with fail
   refine WL.start <| bD (In.cells inZ') <| tK (.int .i64 20) <| sB (In.cs inZ') (In.cs inZ') HF 1 0 (v := .agg (In.cells inZ')) rfl S78 (In.oneL _) (In.cs inZ') rfl fun w6 HF => tK (.int .i64 20) <| WL.nil <| ?_
   try simp only [pS]
   have hv : outI (cfgP c zs) ys (((Wi.errS (inS (.ok (Wi.openOf ys).1 0))).2 == 0) && (!Wi.moreS (inS (.ok (Wi.openOf ys).1 0)) && ((jdg (cfgP c zs) (insP c.bl (inV (.ok (Wi.openOf ys).1 0))) 1 == 0) && decide (encR (cfgP c zs && insP c.bl (inV (.ok (Wi.openOf ys).1 0))) (insIts (inV (.ok (Wi.openOf ys).1 0))) = ys)))) = (inZ', 20) := by
     simp only [outI, cond_true, cond_false, Bool.not_true, Bool.not_false, Bool.and_true, Bool.and_false, Bool.true_and, Bool.false_and, h1]
   go_wp2
   rw [HC.out, hv]
   refine bodyPost_ret (Wi.results_row_tmp (by rfl) _ _ g3 (In.cells inZ') (by rfl) (run_load_part (cs := In.cs inZ') (sub := In.cs inZ') (HF.out.box 1 _ _ _ rfl) (Part.all _) U78 rfl S78)) rfl ?_
   exact ⟨rfl, HF.out.kept⟩
  ·skip
   refine ⟨_, rfl, ?_⟩
   try simp only [pS]
   have HF : Hid (Fq No w w5 [(g1, 24, Cg.cells c), (g3, 78, In.cells inZ')]) := HF.out.no hk
   clear hk
   refine tK (.tuple #[.pointer none, .int .i64 ((Wi.openOf ys).2)]) <| tK (.pointer none) <| tK (.int .i64 ((Wi.openOf ys).2)) <| tK (.pointer none) <| tK (.int .i64 ((Wi.openOf ys).2)) <| WL.nil <| ?_
   try simp only [pS]
   go_upto_region 2 with fail
   refine WL.start <| tK (.int .i64 ((Wi.openOf ys).2)) <| bN (nI0 h2) <| WL.nil <| ?_
   try simp only [pS]
   go_upto_region 3 with fail
   refine WL.start <| bD (In.cells inZ') <| tK (.int .i64 ((Wi.openOf ys).2)) <| sB (In.cs inZ') (In.cs inZ') HF 1 0 (v := .agg (In.cells inZ')) rfl S78 (In.oneL _) (In.cs inZ') rfl fun w7 HF => tK (.int .i64 ((Wi.openOf ys).2)) <| WL.nil <| ?_
   try simp only [pS]
   have hv : outI (cfgP c zs) ys (((Wi.errS (inS (.ok (Wi.openOf ys).1 0))).2 == 0) && (!Wi.moreS (inS (.ok (Wi.openOf ys).1 0)) && ((jdg (cfgP c zs) (insP c.bl (inV (.ok (Wi.openOf ys).1 0))) 1 == 0) && decide (encR (cfgP c zs && insP c.bl (inV (.ok (Wi.openOf ys).1 0))) (insIts (inV (.ok (Wi.openOf ys).1 0))) = ys)))) = (inZ', ((Wi.openOf ys).2)) := by
     simp only [outI, cond_true, cond_false, Bool.not_true, Bool.not_false, Bool.and_true, Bool.and_false, Bool.true_and, Bool.false_and, h2, h1]
   go_wp2
   rw [HC.out, hv]
   refine bodyPost_ret (Wi.results_row_tmp (by rfl) _ _ g3 (In.cells inZ') (by rfl) (run_load_part (cs := In.cs inZ') (sub := In.cs inZ') (HF.out.box 1 _ _ _ rfl) (Part.all _) U78 rfl S78)) rfl ?_
   exact ⟨rfl, HF.out.kept⟩
  ·skip
   refine ⟨_, rfl, ?_⟩
   try simp only [pS]
   have HW : Hid (∀ k, (inSrc i g ba bc (Wi.openOf ys).1).Wr k → w.heap.size ≤ k) := fun k e => Nat.le_trans HF.out.kept.size (hI k (.inr (.inl e)))
   have HF : Hid (Kr (inSrc i g ba bc (Wi.openOf ys).1) w w5 (.ok (Wi.openOf ys).1 0, false) [(g1, 24, Cg.cells c), (g3, 78, In.cells inZ')]) := Kr.from (HF.out.no hk) hS (fun j g' T cs hj e => by have := hI _ e; have := (HF.out.box j g' T cs hj).lt; omega)
   clear hk hS hI
   refine tK (.tuple #[.pointer (some ⟨i, 0, none⟩), .int .i64 0]) <| tK (pg i 0) <| tK (.int .i64 0) <| tK (pg i 0) <| tK (.int .i64 0) <| WL.nil <| ?_
   try simp only [pS]
   go_upto_region 2 with fail
   refine WL.start <| tK (.int .i64 0) <| bN (nI1 (show ((0 : Int) == 0) = true by decide)) <| WL.nil <| ?_
   try simp only [pS]
   go_upto_region 4 with fail
   refine WL.start <| bD (In.cells inZ') <| rA (In.cells inZ') Z78 HF fun g8 w9 HF => ?_
   try simp only [pS]
   have HF : Hid (Kr (inSrc i g ba bc (Wi.openOf ys).1) w w9 (.ok (Wi.openOf ys).1 0, false) [(g1, 24, Cg.cells c), (g3, 78, In.cells inZ'), (g8, 78, In.cells inZ')]) := HF
   refine rW (In.cs inZ') (In.cs inZ') HF 2 0 (v := .agg (In.cells inZ')) rfl S78 (In.oneL _) (In.cs inZ') rfl fun w10 HF => ?_
   try simp only [pS]
   have HF : Hid (Kr (inSrc i g ba bc (Wi.openOf ys).1) w w10 (.ok (Wi.openOf ys).1 0, false) [(g1, 24, Cg.cells c), (g3, 78, In.cells inZ'), (g8, 78, In.cells inZ')]) := HF
   refine WL.nil <| ?_
   try simp only [pS]
   go_upto_region 5 with fail
   refine WL.start <| tK (pg i 0) <| rC (.agg (Sp.cells (stV (.ok (Wi.openOf ys).1 0)))) ((Wi.aS (.ok (Wi.openOf ys).1 0), false)) HF (fun h => r_rstamp h) fun w11 HF => tK (pg g8 0) <| rW (In.cs ⟨(stV (.ok (Wi.openOf ys).1 0)), spZ, cZ, false⟩) (Sp.cs (stV (.ok (Wi.openOf ys).1 0))) HF 2 0 (v := .agg (Sp.cells (stV (.ok (Wi.openOf ys).1 0)))) rfl S34 (Sp.oneL _) (In.cs inZ') rfl fun w12 HF => ?_
   try simp only [pS]
   have HF : Hid (Kr (inSrc i g ba bc (Wi.openOf ys).1) w w12 (Wi.aS (.ok (Wi.openOf ys).1 0), false) [(g1, 24, Cg.cells c), (g3, 78, In.cells inZ'), (g8, 78, In.cells ⟨(stV (.ok (Wi.openOf ys).1 0)), spZ, cZ, false⟩)]) := HF
   refine WL.nil <| ?_
   try simp only [pS]
   go_upto_region 6 with fail
   refine WL.start <| tK (pg i 0) <| rC (.agg (Sp.cells (stV (Wi.aS (.ok (Wi.openOf ys).1 0))))) ((Wi.aS (Wi.aS (.ok (Wi.openOf ys).1 0)), false)) HF (fun h => r_rstamp h) fun w13 HF => tK (pg g8 2) <| rW (In.cs ⟨(stV (.ok (Wi.openOf ys).1 0)), (stV (Wi.aS (.ok (Wi.openOf ys).1 0))), cZ, false⟩) (Sp.cs (stV (Wi.aS (.ok (Wi.openOf ys).1 0)))) HF 2 2 (v := .agg (Sp.cells (stV (Wi.aS (.ok (Wi.openOf ys).1 0))))) rfl S34 (Sp.oneL _) (In.cs ⟨(stV (.ok (Wi.openOf ys).1 0)), spZ, cZ, false⟩) rfl fun w14 HF => ?_
   try simp only [pS]
   have HF : Hid (Kr (inSrc i g ba bc (Wi.openOf ys).1) w w14 (Wi.aS (Wi.aS (.ok (Wi.openOf ys).1 0)), false) [(g1, 24, Cg.cells c), (g3, 78, In.cells inZ'), (g8, 78, In.cells ⟨(stV (.ok (Wi.openOf ys).1 0)), (stV (Wi.aS (.ok (Wi.openOf ys).1 0))), cZ, false⟩)]) := HF
   refine WL.nil <| ?_
   try simp only [pS]
   go_upto_region 7 with fail
   refine WL.start <| tK (pg i 0) <| rC (.agg (Cm.cells (cmV (Wi.aS (Wi.aS (.ok (Wi.openOf ys).1 0)))))) ((cmS (Wi.aS (Wi.aS (.ok (Wi.openOf ys).1 0))), false)) HF (fun h => r_rcommand h) fun w15 HF => tK (pg g8 4) <| rW (In.cs ⟨(stV (.ok (Wi.openOf ys).1 0)), (stV (Wi.aS (.ok (Wi.openOf ys).1 0))), (cmV (Wi.aS (Wi.aS (.ok (Wi.openOf ys).1 0)))), false⟩) (Cm.cs (cmV (Wi.aS (Wi.aS (.ok (Wi.openOf ys).1 0))))) HF 2 4 (v := .agg (Cm.cells (cmV (Wi.aS (Wi.aS (.ok (Wi.openOf ys).1 0)))))) rfl S39 (Cm.oneL _) (In.cs ⟨(stV (.ok (Wi.openOf ys).1 0)), (stV (Wi.aS (.ok (Wi.openOf ys).1 0))), cZ, false⟩) rfl fun w16 HF => ?_
   try simp only [pS]
   have HF : Hid (Kr (inSrc i g ba bc (Wi.openOf ys).1) w w16 (cmS (Wi.aS (Wi.aS (.ok (Wi.openOf ys).1 0))), false) [(g1, 24, Cg.cells c), (g3, 78, In.cells inZ'), (g8, 78, In.cells ⟨(stV (.ok (Wi.openOf ys).1 0)), (stV (Wi.aS (.ok (Wi.openOf ys).1 0))), (cmV (Wi.aS (Wi.aS (.ok (Wi.openOf ys).1 0)))), false⟩)]) := HF
   refine WL.nil <| ?_
   try simp only [pS]
   go_upto_region 8 with fail
   refine WL.start <| tK (pg i 0) <| rC (.int .i64 (Wi.nV (cmS (Wi.aS (Wi.aS (.ok (Wi.openOf ys).1 0)))))) ((Wi.nS (cmS (Wi.aS (Wi.aS (.ok (Wi.openOf ys).1 0)))), false)) HF (fun h => i_num h) fun w17 HF => bN (v := .bool (Wi.fV (cmS (Wi.aS (Wi.aS (.ok (Wi.openOf ys).1 0)))))) (eI rfl) <| tK (pg g8 13) <| rW (In.cs ⟨(stV (.ok (Wi.openOf ys).1 0)), (stV (Wi.aS (.ok (Wi.openOf ys).1 0))), (cmV (Wi.aS (Wi.aS (.ok (Wi.openOf ys).1 0)))), (Wi.fV (cmS (Wi.aS (Wi.aS (.ok (Wi.openOf ys).1 0)))))⟩) ([.bool (Wi.fV (cmS (Wi.aS (Wi.aS (.ok (Wi.openOf ys).1 0)))))]) HF 2 13 (v := .bool (Wi.fV (cmS (Wi.aS (Wi.aS (.ok (Wi.openOf ys).1 0)))))) rfl S4 (by simp [Value.oneCell', Sl.v]) (In.cs ⟨(stV (.ok (Wi.openOf ys).1 0)), (stV (Wi.aS (.ok (Wi.openOf ys).1 0))), (cmV (Wi.aS (Wi.aS (.ok (Wi.openOf ys).1 0)))), false⟩) rfl fun w18 HF => ?_
   try simp only [pS]
   have HF : Hid (Kr (inSrc i g ba bc (Wi.openOf ys).1) w w18 (Wi.nS (cmS (Wi.aS (Wi.aS (.ok (Wi.openOf ys).1 0)))), false) [(g1, 24, Cg.cells c), (g3, 78, In.cells inZ'), (g8, 78, In.cells ⟨(stV (.ok (Wi.openOf ys).1 0)), (stV (Wi.aS (.ok (Wi.openOf ys).1 0))), (cmV (Wi.aS (Wi.aS (.ok (Wi.openOf ys).1 0)))), (Wi.fV (cmS (Wi.aS (Wi.aS (.ok (Wi.openOf ys).1 0)))))⟩)]) := HF
   refine WL.nil <| ?_
   try simp only [pS]
   go_upto_region 9 with fail
   refine WL.start <| rP (In.cs ⟨(stV (.ok (Wi.openOf ys).1 0)), (stV (Wi.aS (.ok (Wi.openOf ys).1 0))), (cmV (Wi.aS (Wi.aS (.ok (Wi.openOf ys).1 0)))), (Wi.fV (cmS (Wi.aS (Wi.aS (.ok (Wi.openOf ys).1 0)))))⟩) HF 2 0 U78 S78 (In.cs ⟨(stV (.ok (Wi.openOf ys).1 0)), (stV (Wi.aS (.ok (Wi.openOf ys).1 0))), (cmV (Wi.aS (Wi.aS (.ok (Wi.openOf ys).1 0)))), (Wi.fV (cmS (Wi.aS (Wi.aS (.ok (Wi.openOf ys).1 0)))))⟩) rfl <| rP (Cg.cs c) HF 0 0 U24 S24 (Cg.cs c) rfl <| rEn (r_PkI (inV (.ok (Wi.openOf ys).1 0)) c zs _ (HCg.out.no (HF.out.keptNo HW.out)) ⟨rfl⟩) HF fun p19 w20 HF hkk HP hp => ?_
   try simp only [pS]
   have HF : Hid (Kr (inSrc i g ba bc (Wi.openOf ys).1) w w20 (Wi.nS (cmS (Wi.aS (Wi.aS (.ok (Wi.openOf ys).1 0)))), false) [(g1, 24, Cg.cells c), (g3, 78, In.cells inZ'), (g8, 78, In.cells ⟨(stV (.ok (Wi.openOf ys).1 0)), (stV (Wi.aS (.ok (Wi.openOf ys).1 0))), (cmV (Wi.aS (Wi.aS (.ok (Wi.openOf ys).1 0)))), (Wi.fV (cmS (Wi.aS (Wi.aS (.ok (Wi.openOf ys).1 0)))))⟩)]) := HF
   refine tK (.tuple #[p19.v, .int .i64 (jdg (cfgP c zs) (insP c.bl (inV (.ok (Wi.openOf ys).1 0))) 1)]) <| tK (p19.v) <| tK (.int .i64 (jdg (cfgP c zs) (insP c.bl (inV (.ok (Wi.openOf ys).1 0))) 1)) <| tK (p19.v) <| tK (.int .i64 (jdg (cfgP c zs) (insP c.bl (inV (.ok (Wi.openOf ys).1 0))) 1)) <| WL.nil <| ?_
   try simp only [pS]
   go_upto_region 10 with fail
   refine WL.start <| tK (pg i 0) <| tK (pg i 0) <| tK (pg i 0) <| lR (load_one (Src.pt _ HF.out.st) U170 rfl) <| tK (pg g 0) <| tK (pg g 2) <| lR (load_one (inErr HF.out.st) U3 rfl) <| ?_
   try simp only [pS]
   cases q1 : (((Wi.errS (inS (.ok (Wi.openOf ys).1 0))).2) == 0)
   ·skip
    refine bN (nI0 q1) <| tK (.bool true) <| sK <| sK <| sK <| sK <| sK <| tK (.bool true) <| tK (.bool true) <| sK <| sK <| tK (.bool true) <| tK (.bool true) <| sK <| sK <| sK <| sK <| tK (.bool true) <| WL.nil <| ?_
    try simp only [pS]
    go_upto_region 11 with fail
    refine WL.start <| bD (In.cells inZ') <| rW (In.cs inZ') (In.cs inZ') HF 1 0 (v := .agg (In.cells inZ')) rfl S78 (In.oneL _) (In.cs inZ') rfl fun w21 HF => ?_
    try simp only [pS]
    have HF : Hid (Kr (inSrc i g ba bc (Wi.openOf ys).1) w w21 (Wi.nS (cmS (Wi.aS (Wi.aS (.ok (Wi.openOf ys).1 0)))), false) [(g1, 24, Cg.cells c), (g3, 78, In.cells inZ'), (g8, 78, In.cells ⟨(stV (.ok (Wi.openOf ys).1 0)), (stV (Wi.aS (.ok (Wi.openOf ys).1 0))), (cmV (Wi.aS (Wi.aS (.ok (Wi.openOf ys).1 0)))), (Wi.fV (cmS (Wi.aS (Wi.aS (.ok (Wi.openOf ys).1 0)))))⟩)]) := HF
    refine tK (.int .i64 11) <| WL.nil <| ?_
    try simp only [pS]
    have hv : outI (cfgP c zs) ys (((Wi.errS (inS (.ok (Wi.openOf ys).1 0))).2 == 0) && (!Wi.moreS (inS (.ok (Wi.openOf ys).1 0)) && ((jdg (cfgP c zs) (insP c.bl (inV (.ok (Wi.openOf ys).1 0))) 1 == 0) && decide (encR (cfgP c zs && insP c.bl (inV (.ok (Wi.openOf ys).1 0))) (insIts (inV (.ok (Wi.openOf ys).1 0))) = ys)))) = (inZ', 11) := by
      simp only [h2, q1, cond_true, cond_false, Bool.not_true, Bool.not_false, Bool.and_true, Bool.and_false, Bool.true_and, Bool.false_and]
      simp only [outI, cond_true, cond_false, Bool.not_true, Bool.not_false, Bool.and_true, Bool.and_false, Bool.true_and, Bool.false_and, h2, h1]
    go_wp2
    rw [HC.out, hv]
    refine bodyPost_ret (Wi.results_row_tmp (by rfl) _ _ g3 (In.cells inZ') (by rfl) (run_load_part (cs := In.cs inZ') (sub := In.cs inZ') (HF.out.fq.box 1 _ _ _ rfl) (Part.all _) U78 rfl S78)) rfl ?_
    exact ⟨rfl, HF.out.keptNo HW.out⟩
   refine bN (nI1 q1) <| tK (.bool false) <| tK (pg i 0) <| tK (pg i 0) <| tK (pg i 0) <| lR (load_one (Src.pt _ HF.out.st) U170 rfl) <| ?_
   try simp only [pS]
   cases q2 : (Wi.moreS (inS (.ok (Wi.openOf ys).1 0)))
   rotate_left
   ·skip
    refine rcB (inMore HF.out.st) q2 HF fun w28 HF hkk => ?_
    try simp only [pS]
    replace HP : Hid _ := HP.out.no hkk.out
    refine tK (.bool true) <| tK (.bool true) <| sK <| sK <| tK (.bool true) <| tK (.bool true) <| sK <| sK <| sK <| sK <| tK (.bool true) <| WL.nil <| ?_
    try simp only [pS]
    go_upto_region 11 with fail
    refine WL.start <| bD (In.cells inZ') <| rW (In.cs inZ') (In.cs inZ') HF 1 0 (v := .agg (In.cells inZ')) rfl S78 (In.oneL _) (In.cs inZ') rfl fun w29 HF => ?_
    try simp only [pS]
    have HF : Hid (Kr (inSrc i g ba bc (Wi.openOf ys).1) w w29 (Wi.nS (cmS (Wi.aS (Wi.aS (.ok (Wi.openOf ys).1 0)))), false) [(g1, 24, Cg.cells c), (g3, 78, In.cells inZ'), (g8, 78, In.cells ⟨(stV (.ok (Wi.openOf ys).1 0)), (stV (Wi.aS (.ok (Wi.openOf ys).1 0))), (cmV (Wi.aS (Wi.aS (.ok (Wi.openOf ys).1 0)))), (Wi.fV (cmS (Wi.aS (Wi.aS (.ok (Wi.openOf ys).1 0)))))⟩)]) := HF
    refine tK (.int .i64 11) <| WL.nil <| ?_
    try simp only [pS]
    have hv : outI (cfgP c zs) ys (((Wi.errS (inS (.ok (Wi.openOf ys).1 0))).2 == 0) && (!Wi.moreS (inS (.ok (Wi.openOf ys).1 0)) && ((jdg (cfgP c zs) (insP c.bl (inV (.ok (Wi.openOf ys).1 0))) 1 == 0) && decide (encR (cfgP c zs && insP c.bl (inV (.ok (Wi.openOf ys).1 0))) (insIts (inV (.ok (Wi.openOf ys).1 0))) = ys)))) = (inZ', 11) := by
      simp only [h2, q1, q2, cond_true, cond_false, Bool.not_true, Bool.not_false, Bool.and_true, Bool.and_false, Bool.true_and, Bool.false_and]
      simp only [outI, cond_true, cond_false, Bool.not_true, Bool.not_false, Bool.and_true, Bool.and_false, Bool.true_and, Bool.false_and, h2, h1]
    go_wp2
    rw [HC.out, hv]
    refine bodyPost_ret (Wi.results_row_tmp (by rfl) _ _ g3 (In.cells inZ') (by rfl) (run_load_part (cs := In.cs inZ') (sub := In.cs inZ') (HF.out.fq.box 1 _ _ _ rfl) (Part.all _) U78 rfl S78)) rfl ?_
    exact ⟨rfl, HF.out.keptNo HW.out⟩
   refine rcB (inMore HF.out.st) q2 HF fun w22 HF hkk => ?_
   try simp only [pS]
   replace HP : Hid _ := HP.out.no hkk.out
   refine tK (.bool false) <| tK (.bool false) <| tK (.int .i64 (jdg (cfgP c zs) (insP c.bl (inV (.ok (Wi.openOf ys).1 0))) 1)) <| ?_
   try simp only [pS]
   cases q3 : ((jdg (cfgP c zs) (insP c.bl (inV (.ok (Wi.openOf ys).1 0))) 1) == 0)
   ·skip
    refine bN (nI0 q3) <| tK (.bool true) <| tK (.bool true) <| sK <| sK <| sK <| sK <| tK (.bool true) <| WL.nil <| ?_
    try simp only [pS]
    go_upto_region 11 with fail
    refine WL.start <| bD (In.cells inZ') <| rW (In.cs inZ') (In.cs inZ') HF 1 0 (v := .agg (In.cells inZ')) rfl S78 (In.oneL _) (In.cs inZ') rfl fun w23 HF => ?_
    try simp only [pS]
    have HF : Hid (Kr (inSrc i g ba bc (Wi.openOf ys).1) w w23 (Wi.nS (cmS (Wi.aS (Wi.aS (.ok (Wi.openOf ys).1 0)))), false) [(g1, 24, Cg.cells c), (g3, 78, In.cells inZ'), (g8, 78, In.cells ⟨(stV (.ok (Wi.openOf ys).1 0)), (stV (Wi.aS (.ok (Wi.openOf ys).1 0))), (cmV (Wi.aS (Wi.aS (.ok (Wi.openOf ys).1 0)))), (Wi.fV (cmS (Wi.aS (Wi.aS (.ok (Wi.openOf ys).1 0)))))⟩)]) := HF
    refine tK (.int .i64 11) <| WL.nil <| ?_
    try simp only [pS]
    have hv : outI (cfgP c zs) ys (((Wi.errS (inS (.ok (Wi.openOf ys).1 0))).2 == 0) && (!Wi.moreS (inS (.ok (Wi.openOf ys).1 0)) && ((jdg (cfgP c zs) (insP c.bl (inV (.ok (Wi.openOf ys).1 0))) 1 == 0) && decide (encR (cfgP c zs && insP c.bl (inV (.ok (Wi.openOf ys).1 0))) (insIts (inV (.ok (Wi.openOf ys).1 0))) = ys)))) = (inZ', 11) := by
      simp only [h2, q1, q2, q3, cond_true, cond_false, Bool.not_true, Bool.not_false, Bool.and_true, Bool.and_false, Bool.true_and, Bool.false_and]
      simp only [outI, cond_true, cond_false, Bool.not_true, Bool.not_false, Bool.and_true, Bool.and_false, Bool.true_and, Bool.false_and, h2, h1]
    go_wp2
    rw [HC.out, hv]
    refine bodyPost_ret (Wi.results_row_tmp (by rfl) _ _ g3 (In.cells inZ') (by rfl) (run_load_part (cs := In.cs inZ') (sub := In.cs inZ') (HF.out.fq.box 1 _ _ _ rfl) (Part.all _) U78 rfl S78)) rfl ?_
    exact ⟨rfl, HF.out.keptNo HW.out⟩
   refine bN (nI1 q3) <| tK (.bool false) <| tK (.bool false) <| tK (p19.v) <| tK (x.v) <| ?_
   try simp only [pS]
   cases q4 : (decide (encR (cfgP c zs && insP c.bl (inV (.ok (Wi.openOf ys).1 0))) (insIts (inV (.ok (Wi.openOf ys).1 0))) = ys))
   ·skip
    refine rcB (r_same p19 x (encR (cfgP c zs && insP c.bl (inV (.ok (Wi.openOf ys).1 0))) (insIts (inV (.ok (Wi.openOf ys).1 0)))) ys _ HP.out (HX.out.no (wk (HF.out.keptNo HW.out))) (encR_u8 (fun h => (ins_ok (cfg_bl (and_l h)) (and_r h)).1))) q4 HF fun w24 HF hkk => tK (.bool true) <| tK (.bool true) <| WL.nil <| ?_
    try simp only [pS]
    go_upto_region 11 with fail
    refine WL.start <| bD (In.cells inZ') <| rW (In.cs inZ') (In.cs inZ') HF 1 0 (v := .agg (In.cells inZ')) rfl S78 (In.oneL _) (In.cs inZ') rfl fun w25 HF => ?_
    try simp only [pS]
    have HF : Hid (Kr (inSrc i g ba bc (Wi.openOf ys).1) w w25 (Wi.nS (cmS (Wi.aS (Wi.aS (.ok (Wi.openOf ys).1 0)))), false) [(g1, 24, Cg.cells c), (g3, 78, In.cells inZ'), (g8, 78, In.cells ⟨(stV (.ok (Wi.openOf ys).1 0)), (stV (Wi.aS (.ok (Wi.openOf ys).1 0))), (cmV (Wi.aS (Wi.aS (.ok (Wi.openOf ys).1 0)))), (Wi.fV (cmS (Wi.aS (Wi.aS (.ok (Wi.openOf ys).1 0)))))⟩)]) := HF
    refine tK (.int .i64 11) <| WL.nil <| ?_
    try simp only [pS]
    have hv : outI (cfgP c zs) ys (((Wi.errS (inS (.ok (Wi.openOf ys).1 0))).2 == 0) && (!Wi.moreS (inS (.ok (Wi.openOf ys).1 0)) && ((jdg (cfgP c zs) (insP c.bl (inV (.ok (Wi.openOf ys).1 0))) 1 == 0) && decide (encR (cfgP c zs && insP c.bl (inV (.ok (Wi.openOf ys).1 0))) (insIts (inV (.ok (Wi.openOf ys).1 0))) = ys)))) = (inZ', 11) := by
      simp only [h2, q1, q2, q3, q4, cond_true, cond_false, Bool.not_true, Bool.not_false, Bool.and_true, Bool.and_false, Bool.true_and, Bool.false_and]
      simp only [outI, cond_true, cond_false, Bool.not_true, Bool.not_false, Bool.and_true, Bool.and_false, Bool.true_and, Bool.false_and, h2, h1]
    go_wp2
    rw [HC.out, hv]
    refine bodyPost_ret (Wi.results_row_tmp (by rfl) _ _ g3 (In.cells inZ') (by rfl) (run_load_part (cs := In.cs inZ') (sub := In.cs inZ') (HF.out.fq.box 1 _ _ _ rfl) (Part.all _) U78 rfl S78)) rfl ?_
    exact ⟨rfl, HF.out.keptNo HW.out⟩
   refine rcB (r_same p19 x (encR (cfgP c zs && insP c.bl (inV (.ok (Wi.openOf ys).1 0))) (insIts (inV (.ok (Wi.openOf ys).1 0)))) ys _ HP.out (HX.out.no (wk (HF.out.keptNo HW.out))) (encR_u8 (fun h => (ins_ok (cfg_bl (and_l h)) (and_r h)).1))) q4 HF fun w26 HF hkk => tK (.bool false) <| tK (.bool false) <| WL.nil <| ?_
   try simp only [pS]
   go_upto_region 12 with fail
   refine WL.start <| rP (In.cs ⟨(stV (.ok (Wi.openOf ys).1 0)), (stV (Wi.aS (.ok (Wi.openOf ys).1 0))), (cmV (Wi.aS (Wi.aS (.ok (Wi.openOf ys).1 0)))), (Wi.fV (cmS (Wi.aS (Wi.aS (.ok (Wi.openOf ys).1 0)))))⟩) HF 2 0 U78 S78 (In.cs ⟨(stV (.ok (Wi.openOf ys).1 0)), (stV (Wi.aS (.ok (Wi.openOf ys).1 0))), (cmV (Wi.aS (Wi.aS (.ok (Wi.openOf ys).1 0)))), (Wi.fV (cmS (Wi.aS (Wi.aS (.ok (Wi.openOf ys).1 0)))))⟩) rfl <| rW (In.cs ⟨(stV (.ok (Wi.openOf ys).1 0)), (stV (Wi.aS (.ok (Wi.openOf ys).1 0))), (cmV (Wi.aS (Wi.aS (.ok (Wi.openOf ys).1 0)))), (Wi.fV (cmS (Wi.aS (Wi.aS (.ok (Wi.openOf ys).1 0)))))⟩) (In.cs ⟨(stV (.ok (Wi.openOf ys).1 0)), (stV (Wi.aS (.ok (Wi.openOf ys).1 0))), (cmV (Wi.aS (Wi.aS (.ok (Wi.openOf ys).1 0)))), (Wi.fV (cmS (Wi.aS (Wi.aS (.ok (Wi.openOf ys).1 0)))))⟩) HF 1 0 (v := .agg (In.cells ⟨(stV (.ok (Wi.openOf ys).1 0)), (stV (Wi.aS (.ok (Wi.openOf ys).1 0))), (cmV (Wi.aS (Wi.aS (.ok (Wi.openOf ys).1 0)))), (Wi.fV (cmS (Wi.aS (Wi.aS (.ok (Wi.openOf ys).1 0)))))⟩)) rfl S78 (In.oneL _) (In.cs inZ') rfl fun w27 HF => ?_
   try simp only [pS]
   have HF : Hid (Kr (inSrc i g ba bc (Wi.openOf ys).1) w w27 (Wi.nS (cmS (Wi.aS (Wi.aS (.ok (Wi.openOf ys).1 0)))), false) [(g1, 24, Cg.cells c), (g3, 78, In.cells ⟨(stV (.ok (Wi.openOf ys).1 0)), (stV (Wi.aS (.ok (Wi.openOf ys).1 0))), (cmV (Wi.aS (Wi.aS (.ok (Wi.openOf ys).1 0)))), (Wi.fV (cmS (Wi.aS (Wi.aS (.ok (Wi.openOf ys).1 0)))))⟩), (g8, 78, In.cells ⟨(stV (.ok (Wi.openOf ys).1 0)), (stV (Wi.aS (.ok (Wi.openOf ys).1 0))), (cmV (Wi.aS (Wi.aS (.ok (Wi.openOf ys).1 0)))), (Wi.fV (cmS (Wi.aS (Wi.aS (.ok (Wi.openOf ys).1 0)))))⟩)]) := HF
   refine tK (.int .i64 0) <| WL.nil <| ?_
   try simp only [pS]
   have hv : outI (cfgP c zs) ys (((Wi.errS (inS (.ok (Wi.openOf ys).1 0))).2 == 0) && (!Wi.moreS (inS (.ok (Wi.openOf ys).1 0)) && ((jdg (cfgP c zs) (insP c.bl (inV (.ok (Wi.openOf ys).1 0))) 1 == 0) && decide (encR (cfgP c zs && insP c.bl (inV (.ok (Wi.openOf ys).1 0))) (insIts (inV (.ok (Wi.openOf ys).1 0))) = ys)))) = (inV (.ok (Wi.openOf ys).1 0), 0) := by
     simp only [h2, q1, q2, q3, q4, cond_true, cond_false, Bool.not_true, Bool.not_false, Bool.and_true, Bool.and_false, Bool.true_and, Bool.false_and]
     simp only [outI, cond_true, cond_false, Bool.not_true, Bool.not_false, Bool.and_true, Bool.and_false, Bool.true_and, Bool.false_and, h2, h1]
   go_wp2
   rw [HC.out, hv]
   refine bodyPost_ret (Wi.results_row_tmp (by rfl) _ _ g3 (In.cells ⟨(stV (.ok (Wi.openOf ys).1 0)), (stV (Wi.aS (.ok (Wi.openOf ys).1 0))), (cmV (Wi.aS (Wi.aS (.ok (Wi.openOf ys).1 0)))), (Wi.fV (cmS (Wi.aS (Wi.aS (.ok (Wi.openOf ys).1 0)))))⟩) (by rfl) (run_load_part (cs := In.cs ⟨(stV (.ok (Wi.openOf ys).1 0)), (stV (Wi.aS (.ok (Wi.openOf ys).1 0))), (cmV (Wi.aS (Wi.aS (.ok (Wi.openOf ys).1 0)))), (Wi.fV (cmS (Wi.aS (Wi.aS (.ok (Wi.openOf ys).1 0)))))⟩) (sub := In.cs ⟨(stV (.ok (Wi.openOf ys).1 0)), (stV (Wi.aS (.ok (Wi.openOf ys).1 0))), (cmV (Wi.aS (Wi.aS (.ok (Wi.openOf ys).1 0)))), (Wi.fV (cmS (Wi.aS (Wi.aS (.ok (Wi.openOf ys).1 0)))))⟩) (HF.out.fq.box 1 _ _ _ rfl) (Part.all _) U78 rfl S78)) rfl ?_
   exact ⟨rfl, HF.out.keptNo HW.out⟩
theorem all_one {l : List Value} (h : ∀ v ∈ l, v.oneCell' = true) : l.toArray.all (·.oneCell') = true := by
  rw [List.all_toArray]; exact List.all_eq_true.2 h
theorem in_one (x : In) : (In.cells x).all (·.oneCell') = true := all_one (In.oneL x)
theorem p_ReadI0 (x : Sl) (ys : List Int) (c : Cg) (zs : List Int) (w : World) (hc : CgIn w c zs) (hx : Wi.Sl w x.a x.l x.k ys) : Calls Tryz.prog 76 #[x.v, .agg (Cg.cells c)] w
    (InsO w (outI (cfgP c zs) ys (Wi.wholeB (Wi.fO false (cmS (Wi.aS (Wi.aS (.ok (Wi.openOf ys).1 0))))) (inS (.ok (Wi.openOf ys).1 0)) && insP c.bl (inV (.ok (Wi.openOf ys).1 0))))) := by
  cases hq : cfgP c zs with
  | false =>
    refine (Wi.eNoReadInst x.a x.l x.k c.sv.a c.sv.l c.sv.k zs c.f c.po c.bu c.bl c.rm w hc.wi hq).mono ?_
    rintro e w' ⟨rfl, hk⟩
    exact ⟨rfl, kw hk⟩
  | true =>
    cases ho : ((Wi.openOf ys).2 == 0) with
    | false =>
      refine (Wi.eReadInst x.a x.l x.k c.sv.a c.sv.l c.sv.k zs c.f c.po c.bu c.bl c.rm w (fun W cs e w' => cs = Wi.zI ∧ e = (Wi.openOf ys).2) (fun W hW => ?_)).mono ?_
      · exact (Wi.unpackInst_shut x.a x.l x.k ys _ _ _ c.sv.a c.sv.l c.sv.k zs c.f c.po c.bu c.bl c.rm W (hc.wi.no hW) hq (hx.no hW) (by simpa using ho)).mono (fun e w' ⟨a, b⟩ => ⟨_, _, a, rfl, Wi.zI_one, b, rfl, rfl⟩)
      · rintro e w' ⟨cs, x, W, w1, rfl, hW, ⟨rfl, rfl⟩, hk, hk'⟩
        refine ⟨?_, kw hk'⟩
        simp only [outI, cond_true, cond_false, ho]
        rfl
    | true =>
      have h0 : (Wi.openOf ys).2 = 0 := eq_of_beq ho
      obtain ⟨good, hg⟩ : ∃ b, (Wi.wholeB (Wi.fO false (cmS (Wi.aS (Wi.aS (.ok (Wi.openOf ys).1 0))))) (inS (.ok (Wi.openOf ys).1 0)) && insP c.bl (inV (.ok (Wi.openOf ys).1 0))) = b := ⟨_, rfl⟩
      rw [hg]
      refine (Wi.eReadInst x.a x.l x.k c.sv.a c.sv.l c.sv.k zs c.f c.po c.bu c.bl c.rm w (fun W cs e w' => cs = In.cells (bif good then inV (.ok (Wi.openOf ys).1 0) else inZ') ∧ e = bif good then 0 else 11) (fun W hW => ?_)).mono ?_
      · refine (Wi.unpackInst_all x.a x.l x.k ys 11 c.sv.a c.sv.l c.sv.k zs c.f c.po c.bu c.bl c.rm W (hc.wi.no hW) hq (hx.no hW) h0 (open_u8 hx.u8) (by have := (open_form hx.u8 h0).2; omega)
          (Wi.fO false (cmS (Wi.aS (Wi.aS (.ok (Wi.openOf ys).1 0))))) (inS (.ok (Wi.openOf ys).1 0)) (insP c.bl (inV (.ok (Wi.openOf ys).1 0))) (fun _ _ cs => cs = In.cells (inV (.ok (Wi.openOf ys).1 0)))
          (fun _ _ cs h => by subst h; exact ⟨rfl, in_one _⟩) (fun _ _ _ cs h _ => h) (fun W2 r g lb hk hR => ?_) (fun _ W2 cs hk h => ?_)).mono ?_
        · refine (p_rinst (r := r) (g := g) (lb := lb) (st := .ok (Wi.openOf ys).1 0) (odd := false) (w := W2) hR).mono ?_
          rintro e w' ⟨rfl, h1, h2⟩
          exact ⟨_, rfl, Wi.RdM.since h1 (wkS h2), rfl⟩
        · subst h
          exact wcall (p_rightInstance _ c W2 (cfg_bl hq))
        · rintro e w' ⟨cs, rfl, ⟨W0, _, rfl⟩, hk⟩
          rw [hg]
          refine ⟨_, _, rfl, ?_, ?_, hk, ?_, ?_⟩
          · cases good <;> rfl
          · cases good
            · exact Wi.zI_one
            · exact in_one _
          · cases good <;> rfl
          · cases good <;> rfl
      · rintro e w' ⟨cs, x, W, w1, rfl, hW, ⟨rfl, rfl⟩, hk, hk'⟩
        refine ⟨?_, kw hk'⟩
        simp only [outI, cond_true, cond_false, ho]
        cases good <;> rfl
theorem good_ins {c : Cg} {zs ys : List Int} (h8 : Wi.U8 ys) (hq : cfgP c zs = true) (ho : ((Wi.openOf ys).2 == 0) = true) :
    (Wi.wholeB (Wi.fO false (cmS (Wi.aS (Wi.aS (.ok (Wi.openOf ys).1 0))))) (inS (.ok (Wi.openOf ys).1 0)) && insP c.bl (inV (.ok (Wi.openOf ys).1 0))) =
    (((Wi.errS (inS (.ok (Wi.openOf ys).1 0))).2 == 0) && (!Wi.moreS (inS (.ok (Wi.openOf ys).1 0)) && ((jdg (cfgP c zs) (insP c.bl (inV (.ok (Wi.openOf ys).1 0))) 1 == 0) && decide (encR (cfgP c zs && insP c.bl (inV (.ok (Wi.openOf ys).1 0))) (insIts (inV (.ok (Wi.openOf ys).1 0))) = ys)))) := by
  rw [fin_ins (body := (Wi.openOf ys).1) h8 (eq_of_beq ho) rfl (fun h => ins_ok (cfg_bl hq) h), hq]
  cases insP c.bl (inV (.ok (Wi.openOf ys).1 0)) <;> rfl
theorem out_ins {b : Bool} {ys : List Int} {g1 g2 : Bool} (h : b = true → ((Wi.openOf ys).2 == 0) = true → g1 = g2) : outI b ys g1 = outI b ys g2 := by
  unfold outI
  cases b
  · rfl
  · cases ho : ((Wi.openOf ys).2 == 0)
    · rfl
    · rw [h rfl ho]
theorem r_ReadI (x : Sl) (ys : List Int) (c : Cg) (zs : List Int) (w : World) (hc : CgIn w c zs) (hx : Wi.Sl w x.a x.l x.k ys) : Calls Tryz.prog 77 #[x.v, .agg (Cg.cells c)] w
    (InsO w (outI (cfgP c zs) ys (Wi.wholeB (Wi.fO false (cmS (Wi.aS (Wi.aS (.ok (Wi.openOf ys).1 0))))) (inS (.ok (Wi.openOf ys).1 0)) && insP c.bl (inV (.ok (Wi.openOf ys).1 0))))) := by
  rw [out_ins (fun hq ho => good_ins hx.u8 hq ho)]
  exact r_ReadI0 x ys c zs w hc hx
end Go.Proofs.YtgdnofacgfjaeaaGreat.Md
