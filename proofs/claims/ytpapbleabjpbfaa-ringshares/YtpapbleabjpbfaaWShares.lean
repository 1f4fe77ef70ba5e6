import Derived.Test.YtpapbleabjpbfaaCn
import Derived.Laws.FloatBits
namespace Go.Proofs.Ytpapbleabjpbfaa
open Go.RowKit
set_option linter.unusedVariables false

section
open Ieee
theorem fl_nearest (f : Format) (neg : Bool) (mag : Nat) (place : Int) : ∃ s rung, rung ≤ f.infRung ∧ f.nearest neg mag place = f.word s rung := by
  unfold Format.nearest
  split
  · exact ⟨neg, 0, Nat.zero_le _, rfl⟩
  · exact ⟨neg, _, Nat.min_le_right _ _, rfl⟩
theorem fl_write (f : Format) (d : Datum) (h : d.isNaN = false) : ∃ s rung, rung ≤ f.infRung ∧ f.write d = f.word s rung := by
  cases d with
  | number n m p => exact fl_nearest f n m p
  | infinity n => exact ⟨n, _, Nat.le_refl _, rfl⟩
  | nan n t => simp [Datum.isNaN] at h
theorem fl_read (f : Format) (s : Bool) (rung : Nat) (h : rung ≤ f.infRung) : (f.read (f.word s rung)).isNaN = false := by
  have hlt := f.infRung_lt
  have hm : f.word s rung % f.signWeight = rung := by
    unfold Format.word
    cases s
    · simp; exact Nat.mod_eq_of_lt (by omega)
    · simp; exact Nat.mod_eq_of_lt (by omega)
  unfold Format.read
  simp only [hm]
  split
  · rfl
  · split
    · rfl
    · split
      · rfl
      · omega
theorem fl_quotient (digits : Nat) (d : Datum) (s : Bool) (m : Nat) (i : Int) (hd : d.isNaN = false) (hm : m ≠ 0) : ∃ q, d.quotient digits (.number s m i) = some q ∧ q.isNaN = false := by
  cases d with
  | number n k p =>
    cases hq : Datum.quotient digits (.number n k p) (.number s m i) with
    | none =>
      unfold Datum.quotient at hq
      simp [hm] at hq
    | some q =>
      refine ⟨q, rfl, ?_⟩
      unfold Datum.quotient at hq
      simp only [if_neg hm, Option.some.injEq] at hq
      rw [← hq]; rfl
  | infinity n => exact ⟨_, rfl, rfl⟩
  | nan n t => simp [Datum.isNaN] at hd
theorem fl_order (d : Datum) (h : d.isNaN = false) : d.order d = some .eq := by
  cases d with
  | number n m p => simp [Datum.order]
  | infinity n => simp [Datum.order]
  | nan n t => simp [Datum.isNaN] at h

theorem circle_read : ∃ s m i, FloatKind.f64.format.read 4751297606875873280 = .number s m i ∧ m ≠ 0 := ⟨false, 4503599627370496, -20, by decide +kernel, by decide⟩

/-- A share is a number. -/
theorem shareF_some (n : Int) : ∃ b, shareF n = some b ∧ FloatKind.f64.format.order b b = some .eq := by
  obtain ⟨s, m, i, hr, hm⟩ := circle_read
  obtain ⟨s0, r0, h0, e0⟩ := fl_nearest FloatKind.f64.format (n < 0) n.natAbs 0
  have hx : (FloatKind.f64.format.read (floatOfInt .f64 n)).isNaN = false := by
    show (FloatKind.f64.format.read (FloatKind.f64.format.nearest (n < 0) n.natAbs 0)).isNaN = false
    rw [e0]
    exact fl_read _ _ _ h0
  obtain ⟨q, hq, hn⟩ := fl_quotient (FloatKind.f64.format.fractionBits + 2) _ s m i hx hm
  refine ⟨FloatKind.f64.format.write q, ?_, ?_⟩
  · show ((FloatKind.f64.format.read (floatOfInt .f64 n)).quotient (FloatKind.f64.format.fractionBits + 2) (FloatKind.f64.format.read 4751297606875873280)).map FloatKind.f64.format.write = _
    rw [hr, hq]; rfl
  · obtain ⟨s1, r1, h1, e1⟩ := fl_write FloatKind.f64.format q hn
    show (FloatKind.f64.format.read _).order (FloatKind.f64.format.read _) = _
    rw [e1]
    exact fl_order _ (fl_read _ _ _ h1)

theorem float_same (b : Nat) (h : FloatKind.f64.format.order b b = some .eq) (w : World) : Sem.run Try.prog (binOp .neq 58 (.float .f64 b) (.float .f64 b)) w = .ok (.bool false) w := by
  have : binOp .neq 58 (.float .f64 b) (.float .f64 b) = (pure (.bool (FloatKind.f64.format.order b b != some .eq)) : Sem Value) := by simp [binOp, Op.floatCmp]
  rw [this, h]; rfl
end

/-- Numbers that came in, appended onto a row of the call's own. -/
theorem wp_appN {ops : Array Oper} {rest : List Oper} {o : Oper} {a : Act} {w : World} {Q : Exit → Act → World → Prop} (hg : o.guard = none) (s x : Operand) (ho : o.op = .call { callee := Callee.builtin Builtin.append, args := #[s, x], argTypes := #[27, 27] })
    (base : Nat) (v : Value) (xs : List Int) (hs : a.eval s = v) (hown : w.ownsRow base 3 1 v xs.length (xs.map (Value.int .i64)))
    (a1 : Option Addr) (zs : List Int) (c : Nat) (hx : a.eval x = .slice a1 zs.length c) (hn : a1 = none → c = 0) (hb : Nums .i64 w a1 zs) (hm : xs.length + zs.length ≤ 17592186044416) (hbase : base ≤ w.heap.size)
    (hK : ∀ v' w', w'.ownsRow base 3 1 v' (xs ++ zs).length ((xs ++ zs).map (Value.int .i64)) → w.grownBy w' v.ownBlock → wpList Try.prog ops Q rest (a.put o.dst v') w') :
    wpList Try.prog ops Q (o :: rest) a w := by
  obtain ⟨i0, hi, hz0, hz1, hz2⟩ := info_parts Try.info3
  cases a1 with
  | none =>
    have hz : zs = [] := by
      cases zs with
      | nil => rfl
      | cons z r => obtain ⟨b, off, e, _⟩ := hb 0 (by simp); cases e
    subst hz
    have hc := hn rfl
    subst hc
    refine wpList_append_own_none hg s x 27 ho base 3 i0 1 Try.underlying27 hi v _ _ hs hown hx ?_
    refine hK v w ?_ ⟨rfl, rfl, rfl, Nat.le_refl _, fun _ _ _ => rfl⟩
    rw [List.append_nil]
    exact hown
  | some ad =>
    refine wpList_append_own _ hg s x 27 ho base 3 i0 (.int .i64 0) 1 8 Try.underlying27 hi hz0 hz1 hz2 rfl (by decide) v _ _ hs hown ad zs.length c (zs.map (Value.int .i64)) hx (by simp) ?_ (num_one .i64 zs) (by unfold maxLen; omega) (by omega) hbase ?_
    · intro j u hu
      have hj : 0 < (zs.map (Value.int .i64)).length := by have := (List.getElem?_eq_some_iff.1 hu).1; omega
      obtain ⟨ad', e, hc⟩ := hb.src hj
      cases e
      exact hc j u hu
    · intro v' w' h1 h2 _
      exact hK v' w' (by rw [List.length_append, List.map_append]; exact h1) h2

theorem pts_hash (zs : List Int) (p : Nat) : HashI (sortP (ptsOf zs p)) := by
  intro i
  rcases h : (sortP (ptsOf zs p))[i]? with _ | x
  · simp
  · have hx : x ∈ ptsOf zs p := (List.mergeSort_perm _ _).subset (List.mem_of_getElem? h)
    simp only [Option.getD_some]
    unfold ptsOf at hx
    obtain ⟨l, hl, hx⟩ := List.mem_flatten.1 hx
    obtain ⟨z, _, rfl⟩ := List.mem_map.1 hl
    obtain ⟨n, _, rfl⟩ := List.mem_map.1 hx
    exact fnv_bd _

set_option maxRecDepth 100000 in
set_option maxHeartbeats 4000000 in
theorem sharesWalk (x : Cfg) (a1 : Option Addr) (c1 : Nat) (is : List Int) (w : World) (hx : CfgOk w x) (hk : Nums .i64 w a1 is) (hn : a1 = none → c1 = 0) (hb1 : is.length ≤ 17592186043904) :
    Calls Try.prog 8 #[cfgV (.slice x.a x.n x.c) x.f x.p x.bu x.bl x.ro, .slice a1 is.length c1] w fun e w' => e = .returned (.bool true) ∧ Below w.heap.size w w' := by
  have HX : Hid (∀ W, Kept No w W → Calls Try.prog 9 #[cfgV (.slice x.a x.n x.c) x.f x.p x.bu x.bl x.ro] W fun e w' => ∃ ra rb, e = .returned (.tuple #[.pointer ra, .pointer rb, .bool true]) ∧ BothP w' W.heap.size ra rb ∧ Kept No W w') := fun W hk => bothP_any x W (hx.no hk)
  have HKs : Hid (Nums .i64 w a1 is) := hk
  have HN : Hid (a1 = none → c1 = 0) := hn
  have HB1 : Hid (is.length ≤ 17592186043904) := hb1
  clear hx hk hn hb1
  have hmix : Try.prog.follows .mixedOrders = true := by kernel_rfl
  obtain ⟨xa, xn, xc, zs, f, p, bu, bl, ro⟩ := x
  simp only at HX ⊢
  go_enter Try.func8, Try.ntmps8
  go_wp2_with fail
  refine Calls.mono (HX.out _ ((Kept.refl No w).alloc _)) ?_
  rintro e w1 ⟨ra, rb, rfl, hv1, hk1⟩
  have HK1 : Hid (Kept No w w1) := ((Kept.refl No w).alloc _).then hk1
  clear hk1 HX
  rcases hv1 with ⟨rfl, rfl⟩ | ⟨r, q, ys, yf, yp, ybu, ybl, yro, rfl, rfl, hR, hQ, hc⟩
  · go_wp2_with (go_at_call 12; refine (known_any _).mono ?_; rintro e w2 ⟨rfl, hk2⟩; have HK12 : Hid (Kept No w1 w2) := hk2; clear hk2)
    go_ret
    exact ⟨rfl, (HK1.out.then HK12.out).below (Nat.le_refl _) (fun _ e => e.elim)⟩
  · obtain ⟨hp1, hp2⟩ := pts_pos hc
    have HH : Hid (HashI (sortP (ptsOf (sortI ys) yp))) := pts_hash _ _
    have hyl : (sortI ys).length ≤ 64 := by rw [sortI_len]; exact (cfgB_true hc).1.2.2.2
    obtain ⟨sa, sn, sc, pg, pc, m, hRv⟩ := hR.v
    obtain ⟨qa, qc, qg, qpc, mq, hQv, hqn⟩ := hQ.v hp1
    obtain rfl : m = mq := by rw [← hRv.len, hQv.len]
    have hm : m ≤ 4096 := by rw [← hRv.len]; exact hp2
    have hqnil : Hid (qa = none → qc = 0) := by
      intro e
      obtain ⟨sv, v, L, hb', hs', _⟩ := hQ
      obtain ⟨a9, c9, rfl⟩ := owns_slice hs'
      have h0 := (hQv.box.cell 0).symm.trans (hb'.cell 0)
      simp at h0
      obtain ⟨rfl, rfl⟩ := h0
      rcases hs'.2 with ⟨h, _⟩ | ⟨g, cap, cur, h, _⟩
      · simp at h; omega
      · rw [e] at h; simp at h
    have HRv : Hid (RingV w1 r sa sn sc yf yp ybu ybl yro pg pc m (sortP (ptsOf (sortI ys) yp))) := hRv
    have HQv : Hid (RefV w1 q (.slice qa (sortI ys).length qc) yf yp ybu ybl yro qg qpc m (sortP (ptsOf (sortI ys) yp))) := hQv
    have HQn : Hid (Nums .i64 w1 qa (sortI ys)) := hqn
    clear hR hQ hc hp1 hp2 hRv hQv hqn
    generalize sortP (ptsOf (sortI ys) yp) = ps at HH HRv HQv
    generalize sortI ys = ss at HQv HQn hyl
    have TX1 : True := trivial
    have TX2 : True := trivial
    have HSl : Hid (ss.length ≤ 64) := hyl
    go_wp2_with (first
      | (go_at_call 12
         refine (known_any _).mono ?_
         rintro e w2 ⟨rfl, hk2⟩
         have HK12 : Hid (Kept No w1 w2) := hk2
         have HKw2 : Hid (Kept No w w2) := HK1.out.then hk2
         clear hk2)
      | (at_builtin
         have hguard := TX1
         clear hguard TX1
         refine wp_appN rfl (.tmp 28) (.tmp 29) rfl w2.heap.size (.slice none 0 0) [] rfl ⟨rfl, .inl ⟨rfl, rfl⟩⟩ a1 is c1 rfl HN.out (HKs.out.no HKw2.out) (by have := HB1.out; simp; omega) (Nat.le_refl _) ?_
         intro v3 w3 ho3 hg3
         rw [List.nil_append] at ho3
         obtain ⟨la, lc, rfl⟩ := owns_slice ho3
         have HO3 : Hid (w3.ownsRow w2.heap.size 3 1 (.slice la is.length lc) is.length (is.map (Value.int .i64))) := ho3
         have HK23 : Hid (Kept No w2 w3) := kept_grown hg3
         have q0 := ((HQv.out.no HK12.out).no HK23.out).box.cell 0
         simp only [List.getElem?_toArray, List.getElem?_cons_zero] at q0
         clear ho3 hg3)
      | (at_builtin
         have hguard := TX2
         clear hguard TX2
         refine wp_appN rfl (.tmp 31) (.tmp 36) rfl w2.heap.size (.slice la is.length lc) is rfl HO3.out qa ss qc rfl hqnil.out ((HQn.out.no HK12.out).no HK23.out) (by have := HB1.out; have := HSl.out; omega) HK23.out.size ?_
         intro v4 w4 ho4 hg4
         obtain ⟨n4, hn4⟩ : ∃ n4, (is ++ ss).length = n4 := ⟨_, rfl⟩
         rw [hn4] at ho4
         have HN4 : Hid ((is ++ ss).length = n4) := hn4
         obtain ⟨lb, ld, rfl⟩ := owns_slice ho4
         have HO4 : Hid (w4.ownsRow w2.heap.size 3 1 (.slice lb n4 ld) n4 ((is ++ ss).map (Value.int .i64))) := ho4
         have HK24 : Hid (Kept No w2 w4) := HK23.out.grown hg4 (fun k e hk => absurd (own_block HO3.out k e) (by omega))
         clear ho4 hg4 q0 hn4)
      | fail)
    have HNl : Hid (Nums .i64 w4 lb (is ++ ss)) := Own.nums (t := 3) HO4.out HN4.out
    have hln0 : n4 ≤ 17592186044416 := by have := HB1.out; have := HSl.out; have := HN4.out; rw [List.length_append] at this; omega
    have HRv4 : Hid (RingV w4 r sa sn sc yf yp ybu ybl yro pg pc m ps) := (HRv.out.no HK12.out).no HK24.out
    have HQv4 : Hid (RefV w4 q (.slice qa ss.length qc) yf yp ybu ybl yro qg qpc m ps) := (HQv.out.no HK12.out).no HK24.out
    have HKw4 : Hid (Kept No w w4) := HKw2.out.then HK24.out
    clear HO4 HO3 HK23 HK24 HRv HQv HQn HKw2 HK12 HK1 HKs HN
    generalize is ++ ss = ll at HNl HN4
    have hln : (n4 : Int) ≤ 17592186044416 := by omega
    go_loopw [9] (fun i wr => ∃ k : Nat, k ≤ n4 ∧ i = .int .i64 k ∧ Hid (Kept No w4 wr)) (fun i _ => n4 - (intOf i).toNat)
    case atStart => exact ⟨0, Nat.zero_le _, rfl, Kept.refl _ _⟩
    case round =>
      obtain ⟨k, hk, rfl, HK⟩ := hrel
      by_cases hlt : k < n4
      · obtain ⟨b, off, rfl, hc⟩ := (HNl.out.no HK.out) k (by rw [HN4.out]; exact hlt)
        generalize ll[k]?.getD 0 = s at hc
        obtain ⟨bits, hsh, hor⟩ := shareF_some (cntN ps s m)
        have z0 := fun dd os => cell_regrown hc dd os
        have hk1 : (k : Int) < (n4 : Int) := by omega
        have hk0 : (0 : Int) ≤ (k : Int) := by omega
        have HRa : Hid (∀ W, Kept No wr W → Calls Try.prog 29 #[.pointer (some ⟨r, 0, none⟩), .int .i64 s] W fun e w' => e = .returned (.float .f64 bits) ∧ Below W.heap.size W w') := fun W hk => toBelow (share_any r sa sn sc yf yp ybu ybl yro pg pc m ps s W ((HRv4.out.no HK.out).no hk) hm HH.out bits hsh)
        have HRb : Hid (∀ W, Kept No wr W → Calls Try.prog 30 #[.pointer (some ⟨q, 0, none⟩), .int .i64 s] W fun e w' => e = .returned (.int .i64 (cntN ps s m)) ∧ Below W.heap.size W w') := fun W hk => toBelow (count_any q _ yf yp ybu ybl yro qg qpc m ps s W ((HQv4.out.no HK.out).no hk) hm HH.out)
        have hneq := fun W => float_same bits hor W
        have hquo := fun W => run_float_arith (P := Try.prog) (w := W) .quo 58 .f64 (floatOfInt .f64 (cntN ps s m)) 4751297606875873280 bits hsh
        generalize cntN ps s m = cn at HRb hquo
        have hor' : (FloatKind.f64.format.order bits bits != some .eq) = false := by rw [hor]; rfl
        clear hc hsh
        go_wp2
        refine wp_region_quiet_below hmix (by kernel_rfl) ?_
        repeat (quiet_step (first | exact Calls.regrown_of (HRa.out _ (kept_regrown _ _ _)) | exact Calls.regrown_of (HRb.out _ (kept_regrown _ _ _))))
        refine wpQuiet_nil ?_
        intro _ hw'
        obtain ⟨⟨nq, osq⟩, hw''⟩ := hw'
        rw [hw'']
        simp only []
        have HKr : Hid (Kept No w4 (Sort.grow (redrawn wr nq) osq)) := HK.out.then (kept_regrown _ _ _)
        clear hw'' HK z0 HRa HRb hquo hneq
        generalize Sort.grow (redrawn wr nq) osq = wz at HKr
        go_wp2
        go_roundw
        case rel => exact ⟨k + 1, by omega, by go_num, HKr⟩
        case measure => simp [intOf]; omega
      · have hk1 : ¬ (k : Int) < (n4 : Int) := by omega
        go_wp2
        go_ret
        exact ⟨rfl, (HKw4.out.then HK.out).below (Nat.le_refl _) (fun _ e => e.elim)⟩

end Go.Proofs.Ytpapbleabjpbfaa
