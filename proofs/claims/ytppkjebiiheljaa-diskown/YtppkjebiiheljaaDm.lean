import Derived.Test.YtppkjebiiheljaaDj
namespace Go.Proofs.Ytppkjebiiheljaa
open Go.RowKit
set_option linter.unusedVariables false
set_option linter.unusedSimpArgs false

theorem run_mul512 (n M : Nat) (w : World) (hM : n * 512 = M) (hs : n ≤ 65536) : (binOp .mul 3 (.int .i64 n) (.int .i64 512)).run Try.prog w = .ok (.int .i64 M) w := by
  have e : (n : Int) * 512 = (M : Int) := by omega
  have hb : (M : Int) ≤ 33554432 := by omega
  have h0 : (0 : Int) ≤ M := by omega
  simp only [binOp, Op.intArith, Sem.run_bind, asIntOf, Sem.run_pure, Result.andThen_ok, e]
  have : IntKind.i64.wrap (M : Int) = M := by
    clear e hM hs
    generalize (M : Int) = z at hb h0
    rw [IntKind.wrap_i64]
    omega
  simp [this]

theorem wp_mul512 {ops : Array Oper} {rest : List Oper} {o : Oper} {a : Act} {w : World} {Q : Exit → Act → World → Prop} (hg : o.guard = none) (x : Operand) (ho : o.op = .binOp .mul 3 x (.const (.int .i64 512)) 3) (n M : Nat) (hx : a.eval x = .int .i64 n) (hM : n * 512 = M) (hs : n ≤ 65536)
    (h : wpList Try.prog ops Q rest (a.put o.dst (.int .i64 M)) w) : wpList Try.prog ops Q (o :: rest) a w := by
  refine wp_runTo hg _ w ?_ h
  have hc : a.eval (.const (.int .i64 512)) = .int .i64 512 := rfl
  simp [execOp, ho, hx, hc, eqGuard, run_mul512 n M w hM hs, Result.andThen]

theorem still_mul512 {ops : Array Oper} {rest : List Oper} {o : Oper} {a : Act} {w : World} {Q : Act → Prop} (hg : o.guard = none) (x : Operand) (ho : o.op = .binOp .mul 3 x (.const (.int .i64 512)) 3) (n M : Nat) (hx : a.eval x = .int .i64 n) (hM : n * 512 = M) (hs : n ≤ 65536)
    (h : wpStill Try.prog ops w Q rest (a.put o.dst (.int .i64 M))) : wpStill Try.prog ops w Q (o :: rest) a := by
  refine wpStill_step (fun K hK => ?_)
  have hw : Region.wanted o (yielded ops a.tmps) = true := by simp [Region.wanted, hg]
  rw [if_pos hw]
  have hc : a.eval (.const (.int .i64 512)) = .int .i64 512 := rfl
  have hrun : (execOp a.eval o).run Try.prog w = .ok (.value (.int .i64 M)) w := by
    simp [execOp, ho, hx, hc, eqGuard, run_mul512 n M w hM hs, Result.andThen]
  unfold Oper.still
  rw [hrun, Oper.stillUpon_value]
  exact hK _ h

theorem wp_copyO {P : Program} {w : World} {ops : Array Oper} {rest : List Oper} {o : Oper} {a : Act} {Q : Exit → Act → World → Prop} (hgd : o.guard = none) (d s : Operand) (dT sT : TypeId)
    (ho : o.op = .call { callee := .builtin .copy, args := #[d, s], argTypes := #[dT, sT] }) (elem : TypeId) (hu : P.underlying dT = some (.slice elem)) (hsz : (P.info? elem).map (·.size) = some 1)
    (dp sp : Option Addr) (dLen dCap sLen sCap : Nat) (hd : a.eval d = .slice dp dLen dCap) (hs : a.eval s = .slice sp sLen sCap)
    (g off : Nat) (cur : List Value) (t : TypeId) (hg : Box w g t cur.toArray) (cs : List Value) (hn : cs.length = Nat.min sLen dLen)
    (hpos : 0 < cs.length → dp = some ⟨g, off, none⟩ ∧ ∃ ad, sp = some ad ∧ ∀ j v, cs[j]? = some v → w.cell? (ad.add j) = some v)
    (hfit : off + cs.length ≤ cur.length) (h1 : ∀ v ∈ cs, v.oneCell' = true)
    (h : ∀ w', Hid (Box w' g t (splice cur off cs).toArray) → Kept (Only g) w w' → w'.heap.size = w.heap.size → wpList P ops Q rest (a.put o.dst (goInt cs.length)) w') :
    wpList P ops Q (o :: rest) a w := by
  by_cases h0 : cs.length = 0
  · obtain rfl : cs = [] := List.eq_nil_of_length_eq_zero h0
    refine wpList_copy_nothing hgd d s dT sT ho elem hu hsz dp sp dLen dCap sLen sCap hd hs (by simpa using hn.symm) ?_
    exact h w (show Box _ _ _ _ by simpa [splice] using hg) (Kept.refl _ _) rfl
  · obtain ⟨rfl, ad, rfl, hsrc⟩ := hpos (by omega)
    refine wpList_copy_own hgd d s dT sT ho elem hu hsz g off dLen dCap ad sLen sCap hd hs cur.toArray t hg cs hn hsrc (by simpa using hfit) h1 ?_
    have hh := box_setRow (cs' := (cur.take off ++ (cs ++ cur.drop (off + cs.length))).toArray) hg
    exact h _ hh.1 hh.2.1 hh.2.2

theorem gOf_inv {c : Nat → List Int} {m : Nat} {s : List Int} (h : gOf c m = some s) : s = c m ∧ c m ≠ zs := by
  unfold gOf at h
  split at h
  · cases h
  · rename_i hn; cases h; exact ⟨rfl, hn⟩

/-- The image is there up to what the loop has seen. -/
structure ImgAt (w : World) (wr : World) (d b g r : Nat) (x : DS) (es : Array MapEntry) (clock : Nat) : Prop where
  it : ∃ seen f, Iter wr b r es clock seen ∧ Half x.c es seen f ∧ Box wr g 5 (u8s (flatN x.N f))
  kept : Kept No w wr

theorem updC_flat {x : DS} (hf : Fine x) {es : Array MapEntry} {seen : Array Nat} {f : Nat → List Int} (hh : Half x.c es seen f) (m : Nat) (hm : m < x.N) :
    (splice ((flatN x.N f).map (Value.int .u8)) (m * 512) ((x.c m).map (Value.int .u8))).toArray = u8s (flatN x.N (updC f m (x.c m))) := by
  rw [← flatN_upd (fun k => hh.len hf.len k) m (x.c m) (hf.len m) x.N hm]
  simp [splice, u8s, List.map_take, List.map_drop]

set_option maxRecDepth 100000 in
set_option maxHeartbeats 2000000 in
theorem image_any (d b : Nat) (x : DS) (w : World) (h : Dsk w d b x) (hf : Fine x) :
    Calls Try.prog 23 #[.pointer (some ⟨d, 0, none⟩)] w fun e w' => e = .returned (.slice (some ⟨w.heap.size, 0, none⟩) (x.N * 512) (x.N * 512)) ∧ Box w' w.heap.size 5 (u8s (flatN x.N x.c)) ∧ Kept No w w' := by
  have HD : Hid (Dsk w d b x) := h
  have HF : Hid (Fine x) := hf
  have c0 := h.cells.1
  have hltb := h.ltb
  have hltd := h.ltd
  have n2 : Hid (x.N ≤ 65536) := hf.n2
  obtain ⟨i0, hi, hz0, hz1, hz2⟩ := info_parts Try.info5
  clear h hf
  obtain ⟨M, hM⟩ : ∃ M, M = x.N * 512 := ⟨_, rfl⟩
  have hM2 : Hid (M ≤ 33554432) := by have := n2.out; show M ≤ 33554432; omega
  have hM' : Hid (M = x.N * 512) := hM
  clear hM
  go_enter Try.func23, Try.ntmps23
  go_wp2_with (first
    | (refine wp_mul512 rfl _ rfl x.N M rfl hM'.out.symm n2.out ?_)
    | (at_make
       refine wpList_make_full _ rfl (.tmp 10) (.tmp 10) 22 rfl w.heap.size 5 i0 (.int .u8 0) 1 Try.und22 hi hz0 hz1 .i64 .i64 _ _ M rfl rfl ?hl ?hc (by have := hM2.out; rw [hz2]; omega) (by have := hM2.out; unfold maxLen; omega) (Nat.le_refl _) ?_
       case hl => first | rfl | omega
       case hc => first | rfl | omega
       intro w1 hown hgrow
       rw [made_u8, hM'.out, ← flatN_zs] at hown
       have HG1 : Hid (Box w1 w.heap.size 5 (u8s (flatN x.N (fun _ => zs)))) := made_box hown
       have HK1 : Hid (Kept No w w1) := kept_grown hgrow
       have c1 := (HD.out.no HK1.out).cells.2.1
       have hs1 : w.heap.size < w1.heap.size := HG1.out.lt
       clear hown hgrow)
    | (obtain ⟨es, clock, hb, hE⟩ := (HD.out.no HK1.out).2
       obtain ⟨r, hr⟩ : ∃ r, w1.heap.size = r := ⟨_, rfl⟩
       refine wp_rangeS rfl _ rfl b rfl hb r hr ?_
       intro w2 hit2 hk2
       have HI : Hid (ImgAt w w2 d b w.heap.size r x es clock) := ⟨⟨_, _, hit2, Half.start x.c es, HG1.out.kept hk2 (fun e => e)⟩, HK1.out.then hk2⟩
       have HE : Hid (Ents es clock (gOf x.c)) := hE
       clear hit2 hk2 hb hE HG1 HK1 c1))
  simp only [Act.put, List.setIfInBounds_toArray, List.set_cons_succ, List.set_cons_zero]
  clear c0 hz0 hz1 hz2 hi
  go_loopw [4] (fun _ wr => Hid (ImgAt w wr d b w.heap.size r x es clock)) (fun _ wr => leftW b r wr)
  case atStart => exact HI
  case round =>
    obtain ⟨⟨seen, f, hit, hh, hbx⟩, hkp⟩ := hrel.out
    have HT : Hid (Iter _ b r es clock seen) := hit
    have HH : Hid (Half x.c es seen f) := hh
    have HX : Hid (Box _ w.heap.size 5 (u8s (flatN x.N f))) := hbx
    have HKP : Hid (Kept No w _) := hkp
    clear hrel hit hh hbx hkp
    go_wp2_with (first
      | (refine wp_nextS rfl _ rfl b r rfl HT.out HE.out ?_ ?_
         intro h0
         have H0 : Hid ((leftOf es seen).size = 0) := h0
         clear h0
         rotate_left
         intro e m s w3 hem hkey hgm hit3 hk3 hs3 hlt3 hen
         obtain ⟨rfl, hnz⟩ := gOf_inv hgm
         have HT3 : Hid (Iter w3 b r es clock (seen.push e.born)) := hit3
         have HX3 : Hid (Box w3 w.heap.size 5 (u8s (flatN x.N f))) := HX.out.kept hk3 (fun e => by have : w.heap.size = r := e; omega)
         have HKP3 : Hid (Kept No w w3) := HKP.out.trans hk3 (fun _ e => e) (fun i hi e => by have : i = r := e; omega)
         have hmN : m < x.N := by
           rcases Nat.lt_or_ge m x.N with h | h
           · exact h
           · exact absurd (HF.out.out m h) hnz
         have HM : Hid (e ∈ es.toList ∧ e.key = .int .i64 m ∧ (leftOf es (seen.push e.born)).size < (leftOf es seen).size) := ⟨hem, hkey, hlt3⟩
         have HmN : Hid (m < x.N) := hmN
         clear hem hkey hgm hit3 hk3 hs3 hlt3 hnz HX hmN
         rotate_left)
      | (obtain ⟨g2, hg2⟩ : ∃ g2, w3.heap.size = g2 := ⟨_, rfl⟩
         refine wp_allocS rfl rfl g2 hg2 ?_
         obtain ⟨w4, hw4⟩ : ∃ w4, w4 = w3.alloc (.cells (u8s zs) 72) := ⟨_, rfl⟩
         rw [← hw4]
         have HZ4 : Hid (Box w4 g2 72 (u8s zs)) := by rw [hw4, ← hg2]; exact Box.new _ _ _
         have HK4 : Hid (Kept No w3 w4) := by rw [hw4]; exact (Kept.refl No w3).alloc _
         clear hw4)
      | (refine wp_storeS rfl _ _ rfl g2 (x.c m) rfl rfl (HF.out.len m) HZ4.out zs_len ?_
         intro w5 hb5 hk5 hs5
         have HS5 : Hid (Box w5 g2 72 (u8s (x.c m))) := hb5
         have HK5 : Hid (Kept (Only g2) w4 w5) := hk5
         clear hb5 hk5 hs5))
    · go_ret
      refine ⟨by rw [hM'.out]; rfl, ?_, HKP.out⟩
      have e : flatN x.N x.c = flatN x.N f := flatN_congr x.N (fun m _ => (HH.out.fin HE.out H0.out m).symm)
      rw [e]
      exact HX.out
    · simp only [Act.put, List.setIfInBounds_toArray, List.set_cons_succ, List.set_cons_zero]
      obtain ⟨P, hP⟩ : ∃ P, P = m * 512 := ⟨_, rfl⟩
      have hPM : P + 512 ≤ M := by
        have := HmN.out
        rw [hP, hM'.out]
        have := Nat.mul_le_mul_right 512 this
        rw [Nat.succ_mul] at this
        exact this
      have HP : Hid (P = m * 512) := hP
      have hp1 : P ≤ M := by omega
      have hp2 : ¬ (M = P) := by omega
      have HPM : Hid (P + 512 ≤ M) := hPM
      have hm6 : Hid (m ≤ 65536) := by have := HmN.out; have := n2.out; show m ≤ 65536; omega
      have hltr : r < w3.heap.size := HT3.out.lt
      have hltg : w.heap.size < w3.heap.size := HX3.out.lt
      have hltb3 : b < w3.heap.size := (Array.getElem?_eq_some_iff.1 HT3.out.1).1
      have HX5 : Hid (Box w5 w.heap.size 5 (u8s (flatN x.N f))) := (HX3.out.kept HK4.out (fun e => e)).kept HK5.out (fun e => by have : w.heap.size = g2 := e; omega)
      have HT5 : Hid (Iter w5 b r es clock (seen.push e.born)) := (HT3.out.kept HK4.out (fun e => e) (fun e => e)).kept HK5.out (fun e => by have : b = g2 := e; omega) (fun e => by have : r = g2 := e; omega)
      have HKP5 : Hid (Kept No w w5) := (HKP3.out.then HK4.out).trans HK5.out (fun _ e => e) (fun i hi e => by have : i = g2 := e; omega)
      clear hP hPM HT3 HX3 HKP3 HK4 HK5 HZ4 hen
      refine wp_region_still_tail 5 (by kernel_rfl) (by kernel_rfl) ?_
      simp only [List.take_succ_cons, List.take_zero, List.drop_succ_cons, List.drop_zero]
      change wpStill _ _ w5.drew _ _ _
      still_step
      still_step
      refine still_mul512 rfl _ rfl m P rfl HP.out.symm hm6.out ?_
      still_step
      still_step
      refine wpStill_nil ?_
      refine wp_copyO rfl (.tmp 25) (.tmp 26) 22 22 rfl 5 Try.und22 Try.size5 (some ⟨w.heap.size, P, none⟩) (some ⟨g2, 0, none⟩) (M - P) (M - P) 512 512 rfl rfl w.heap.size P ((flatN x.N f).map (Value.int .u8)) 5 HX5.out ((x.c m).map (Value.int .u8)) ?cl ?cp ?cf (num_one .u8 _) ?_
      case cl => rw [List.length_map, HF.out.len m]; exact (Nat.min_eq_left (by have := HPM.out; omega)).symm
      case cp =>
        intro h0
        refine ⟨rfl, ?_⟩
        have hn : Nums .u8 w5.drew (some ⟨g2, 0, none⟩) (x.c m) := by
          have := Box.nums (w := w5.drew) (show Box w5.drew g2 72 ((x.c m).map (Value.int .u8)).toArray from HS5.out) (x.c m).length
          rwa [List.take_length] at this
        exact hn.src h0
      case cf => rw [List.length_map, List.length_map, HF.out.len m, flatN_len f (fun k => HH.out.len HF.out.len k), ← hM'.out]; exact HPM.out
      intro w6 HG6 hk6 hs6
      rw [HP.out, updC_flat HF.out HH.out m HmN.out] at HG6
      have hkA : Kept No w w6 := (HKP5.out.drew : Kept No w w5.drew).trans hk6 (fun _ e => e) (fun i hi e => by have : i = w.heap.size := e; omega)
      have HT6 : Iter w6 b r es clock (seen.push e.born) := Iter.kept (w := w5.drew) HT5.out hk6 (fun e => by have : b = w.heap.size := e; omega) (fun e => by have : r = w.heap.size := e; omega)
      have HI6 : Hid (ImgAt w w6 d b w.heap.size r x es clock) := ⟨⟨_, _, HT6, HH.out.step HE.out HM.out.1 HM.out.2.1, HG6.out⟩, hkA⟩
      have HL : Hid (leftW b r w6 < leftW b r wr) := by
        have h1 := HT6.left
        have h2 := HT.out.left
        show leftW b r w6 < leftW b r wr
        rw [h1, h2]; exact HM.out.2.2
      clear HT6 hkA hk6 hs6 HG6
      go_wp2
      go_roundw
      case rel => exact ⟨_, _, _, _, _, _, _, _, _, _, _, _, _, HI6, rfl⟩
      case measure => exact HL.out

end Go.Proofs.Ytppkjebiiheljaa
