import Derived.Test.YtmhjbkpojndhkabGn
import Derived.Test.YtmhjbkpojndhkabOc
import Derived.Laws.Bits128
import Derived.LaidEqlPtr
import Derived.StillTailTactics
import Derived.Deep.RegionHeld3
import Derived.Deep.Cut
import Derived.Deep.CutRange
import Derived.Sort.CutIn
namespace Go.Proofs.Ytmhjbkpojndhkab
open Go.RowKit Go.Shelf
set_option linter.unusedVariables false
set_option linter.unusedSimpArgs false
namespace Gt
attribute [local go_sem] Oper.semAt_some

theorem rune_size : ∀ n : Fin 128, (Utf8.encode (n.val : Int)).size = 1 := by decide +kernel
theorem Try.und33 : Try.prog.underlying 33 = some (.slice 22) := by kernel_rfl
theorem Try.info22 : (Try.prog.info? 22).map (fun i => (i.zero, i.size, i.bytes)) = some (some (.slice none 0 0), 1, 24) := by kernel_rfl

theorem run_bs (v9 : World) (L : Nat) : (Instr.buildSlice 33 1 #[(0, slV L)]).run Try.prog v9 = .ok (.slice (some ⟨v9.heap.size, 0, none⟩) 1 1) (v9.alloc (.cells #[slV L] 22)) := by kernel_rfl
theorem wp_bs {ops : Array Oper} {rest : List Oper} {o : Oper} {a : Act} {w : World} {Q : Exit → Act → World → Prop} (hg : o.guard = none) (x : Operand) (ho : o.op = .buildSlice 33 1 #[(0, x)]) (L : Nat) (hx : a.eval x = slV L)
    (h : wpList Try.prog ops Q rest (a.put o.dst (.slice (some ⟨w.heap.size, 0, none⟩) 1 1)) (w.alloc (.cells #[slV L] 22))) : wpList Try.prog ops Q (o :: rest) a w := by
  refine wp_runTo hg _ _ ?_ h
  simp [execOp, ho, hx, run_bs, Result.andThen]

theorem ptr_same (V : World) (a : Addr) : (binOp .neq 25 (.pointer (some a)) (.pointer (some a))).run Try.prog V = .ok (.bool false) V := by
  have hp : Try.prog.underlying 25 = some (.pointer 64) := by kernel_rfl
  have hi : (Try.prog.info? 64).isSome = true := by kernel_rfl
  cases hj : Try.prog.info? 64 with
  | none => rw [hj] at hi; cases hi
  | some j =>
    have h : ∀ d : Nat, (Op.equalIn (d + 1) 25 (.pointer (some a)) (.pointer (some a))).run Try.prog V = .ok true V := fun d => by
      simp [Op.equalIn, run_underlying hp, sizeOf, typeInfo, hj, run_sameAddr_same]
    simp only [binOp]
    simp [Op.equal, Op.maxDepth, h 9999]
theorem got_mem {α : Type} {x : TS α} {y : Int × α} (h : y ∈ gotL x) : x.v y.1 = some y.2 := by
  unfold gotL at h
  obtain ⟨n, _, h2⟩ := List.mem_filterMap.1 h
  cases hv : x.v n with
  | none => simp [hv] at h2
  | some v => simp [hv] at h2; rw [← h2]; exact hv

theorem mem_uq {s : Int} : ∀ {l : List Int}, s ∈ uq l ↔ s ∈ l := by
  intro l
  have gen : ∀ (l acc : List Int), s ∈ l.foldl (fun acc n => if n ∈ acc then acc else acc ++ [n]) acc ↔ s ∈ acc ∨ s ∈ l := by
    intro l
    induction l with
    | nil => intro acc; simp
    | cons n l ih =>
      intro acc
      rw [List.foldl_cons, ih]
      by_cases h : n ∈ acc
      · rw [if_pos h]
        constructor
        · rintro (h1 | h1)
          · exact .inl h1
          · exact .inr (by simp [h1])
        · rintro (h1 | h1)
          · exact .inl h1
          · rcases List.mem_cons.1 h1 with h2 | h2
            · rw [h2]; exact .inl h
            · exact .inr h2
      · rw [if_neg h]
        simp [or_assoc]
  have := gen l []
  simpa [uq] using this

set_option maxRecDepth 100000 in
set_option maxHeartbeats 8000000 in
theorem kindsWalk (a0 : Option Addr) (n0 cap0 : Nat) (zs : List Int) (a1 : Option Addr) (n1 cap1 : Nat) (us : List Vo) (w : World)
    (hz : zs.length = n0) (hn0 : n0 ≤ 1048576) (h0 : Nums .i64 w a0 zs) (hu : us.length = n1) (hn1 : n1 ≤ 1048576) (h1 : Vts w a1 us) :
    Calls Try.prog 3 #[.slice a0 n0 cap0, .slice a1 n1 cap1] w fun e w' => e = .returned (.bool true) ∧ Below w.heap.size w w' := by
  have HZ : Hid (zs.length = n0) := hz
  have HUl : Hid (us.length = n1) := hu
  have H0 : Hid (Nums .i64 w a0 zs) := h0
  have HKn : Hid (∀ w : World, Calls Try.prog 6 #[] w fun e w' => e = .returned (.bool true) ∧ Kept No w w') := known_any
  have HN1 : Hid (∀ W, Kept No w W → Calls Try.prog 7 #[.slice a0 n0 cap0, .int .i64 ((n0 : Int) + 1)] W (S.NewOut W zs ((n0 : Int) + 1))) := fun W hk => S.new_any a0 n0 cap0 zs _ W hz (by omega) (h0.no hk)
  have HN2 : Hid (∀ W, Kept No w W → Calls Try.prog 8 #[.slice a0 n0 cap0, .int .i64 ((n0 : Int) + 1)] W (P.NewOut W zs ((n0 : Int) + 1))) := fun W hk => P.new_any a0 n0 cap0 zs _ W hz (by omega) (h0.no hk)
  have HN3 : Hid (∀ W, Kept No w W → Calls Try.prog 9 #[.slice a0 n0 cap0, .int .i64 ((n0 : Int) + 1)] W (Z.NewOut W zs ((n0 : Int) + 1))) := fun W hk => Z.new_any a0 n0 cap0 zs _ W hz (by omega) (h0.no hk)
  have HSt : Hid (∀ W v, Kept No w W → Calls Try.prog 10 #[.slice a0 n0 cap0, .int .i64 v] W (StandsOut W zs v)) := fun W v hk => stands_any a0 n0 cap0 zs v W hz (by omega) (h0.no hk)
  have HV : Hid (∀ W, Kept No w W → Vts W a1 us) := fun W hk => h1.no hk
  clear hz h0 hu h1
  refine (callsIn_wide (n := 8)).1 ?_
  refine callsIn_of_wp_marks Try.func3 rfl trivial ?_ rfl
  refine wpIn_wide.2 ?_
  simp only [Try.ntmps3, List.size_toArray, List.length_cons, List.length_nil, Nat.reduceAdd, Nat.reduceSub, Array.replicate_succ, Array.replicate_zero, List.push_toArray, List.append_toArray, List.nil_append, List.cons_append]
  have HK0 : Hid (Kept No w (w.alloc (.cells #[.bool false] 4))) := (Kept.refl No w).alloc _
  have HB4 : Hid (Box (w.alloc (.cells #[.bool false] 4)) w.heap.size 4 #[.bool false]) := Box.new _ _ _
  go_upto_region 4 with (first
    | (go_at_call 6
       refine Calls.mono (HKn.out _) ?_
       rintro e w1 ⟨rfl, hk1⟩
       have HK1 : Hid (Kept No w w1) := HK0.out.then hk1
       have HB41 : Hid (Box w1 w.heap.size 4 #[.bool false]) := HB4.out.kept hk1 (fun e => e)
       clear hk1)
    | (go_at_call 7
       refine Calls.mono (HN1.out w1 HK1.out) ?_
       rintro e w2 ⟨x1, c1, rfl, hT, hF, hk⟩
       have HT1 : Hid (Tal 64 S.ans w2 (w1.heap.size + 1) w1.heap.size x1 c1 (tNew ByteArray zs ((n0 : Int) + 1))) := hT
       have HF1 : Hid (∀ k, At x1 k → w1.heap.size ≤ k) := hF
       have HK2 : Hid (Kept No w1 w2) := hk
       clear hT hF hk))
  obtain ⟨w3, hw3⟩ : ∃ w3, w3 = w2.alloc (.cells #[.pointer (some ⟨w1.heap.size + 1, 0, none⟩)] 25) := ⟨_, rfl⟩
  rw [← hw3]
  have HB5 : Hid (Box w3 w2.heap.size 25 #[.pointer (some ⟨w1.heap.size + 1, 0, none⟩)]) := by rw [hw3]; exact Box.new _ _ _
  have HK3 : Hid (Kept No w2 w3) := by rw [hw3]; exact (Kept.refl No w2).alloc _
  have HKw3 : Hid (Kept No w w3) := (HK1.out.then HK2.out).then HK3.out
  have hs3 : Hid (w3.heap.size = w2.heap.size + 1) := by rw [hw3]; simp [Hid]
  clear hw3
  go_upto_region 6 with (first
    | (go_at_call 8
       refine Calls.mono (HN2.out w3 HKw3.out) ?_
       rintro e w4 ⟨x2, c2, rfl, hT, hF, hk⟩
       have HT2 : Hid (Tal 70 P.ans w4 (w3.heap.size + 1) w3.heap.size x2 c2 (tNew P.Pr zs ((n0 : Int) + 1))) := hT
       have HF2 : Hid (∀ k, At x2 k → w3.heap.size ≤ k) := hF
       have HK4 : Hid (Kept No w3 w4) := hk
       clear hT hF hk)
    | (go_at_call 9
       refine Calls.mono (HN3.out w4 (HKw3.out.then HK4.out)) ?_
       rintro e w5 ⟨x3, c3, rfl, hT, hF, hk⟩
       have HT3 : Hid (Tal 76 Gt.Z.ans w5 (w4.heap.size + 1) w4.heap.size x3 c3 (tNew (Option Addr) zs ((n0 : Int) + 1))) := hT
       have HF3 : Hid (∀ k, At x3 k → w4.heap.size ≤ k) := hF
       have HK5 : Hid (Kept No w4 w5) := hk
       clear hT hF hk))
  have HK35 : Hid (Kept No w3 w5) := HK4.out.then HK5.out
  have d5 := (HB5.out.kept HK35.out (fun e => e)).cell 0
  simp only [List.getElem?_toArray, List.getElem?_cons_zero] at d5
  go_upto_region 10 with fail
  obtain ⟨w6, hw6⟩ : ∃ w6, w6 = (w5.alloc (.cells #[.slice none 0 0] 22)).alloc (.cells #[.slice none 0 0] 33) := ⟨_, rfl⟩
  rw [← hw6]
  have HK6 : Hid (Kept No w5 w6) := by rw [hw6]; exact ((Kept.refl No w5).alloc _).alloc _
  have hs6 : w6.heap.size = w5.heap.size + 1 + 1 := by rw [hw6]; simp
  have HB8 : Hid (Box w6 w5.heap.size 22 #[.slice none 0 0]) := by rw [hw6]; exact (Box.new _ _ _).alloc _
  have HB9 : Hid (Box w6 (w5.heap.size + 1) 33 #[.slice none 0 0]) := by
    have := Box.new (w5.alloc (.cells #[.slice none 0 0] 22)) 33 #[.slice none 0 0]
    rw [World.size_alloc] at this
    rw [hw6]; exact this
  obtain ⟨p, hp⟩ : ∃ p : Kp, p = ⟨w, w.heap.size, w2.heap.size, w5.heap.size, w5.heap.size + 1, w6.heap.size, w1.heap.size + 1, w1.heap.size, w3.heap.size + 1, w3.heap.size, w4.heap.size + 1, w4.heap.size, x1, x2, x3, c1, c2, c3⟩ := ⟨_, rfl⟩
  have q1 := HK1.out.size
  have q2 := HB41.out.lt
  have q3 := HK2.out.size
  have q4 := HT1.out.box.lt
  have q5 := hs3.out
  have q6 := HT2.out.box.lt
  have q7 := HT3.out.box.lt
  have q8 := HT1.out.map.lt
  have q9 := HT2.out.map.lt
  have q10 := HT3.out.map.lt
  have q11 := HK4.out.size
  have q12 := HK5.out.size
  have HD : Hid (Kd p) := by
    rw [hp]
    refine ⟨by show w1.heap.size ≠ w3.heap.size; omega, by show w1.heap.size ≠ w4.heap.size; omega, by show w3.heap.size ≠ w4.heap.size; omega, fun k hk => ?_, fun k hk => ?_, fun k hk => ?_, ?_, ?_, ?_, ?_⟩
    · have h1 : k < w2.heap.size := HT1.out.lt hk
      have h2 : w1.heap.size ≤ k := by rcases hk with rfl | rfl | hk; exact Nat.le_succ _; exact Nat.le_refl _; exact HF1.out k hk
      show w.heap.size ≤ k ∧ k < w6.heap.size
      omega
    · have h1 : k < w4.heap.size := HT2.out.lt hk
      have h2 : w3.heap.size ≤ k := by rcases hk with rfl | rfl | hk; exact Nat.le_succ _; exact Nat.le_refl _; exact HF2.out k hk
      show w.heap.size ≤ k ∧ k < w6.heap.size
      omega
    · have h1 : k < w5.heap.size := HT3.out.lt hk
      have h2 : w4.heap.size ≤ k := by rcases hk with rfl | rfl | hk; exact Nat.le_succ _; exact Nat.le_refl _; exact HF3.out k hk
      show w.heap.size ≤ k ∧ k < w6.heap.size
      omega
    · show w.heap.size ≤ w.heap.size ∧ w.heap.size < w6.heap.size; omega
    · show w.heap.size ≤ w2.heap.size ∧ w2.heap.size < w6.heap.size; omega
    · show w.heap.size ≤ w5.heap.size ∧ w5.heap.size < w6.heap.size; omega
    · show w.heap.size ≤ w5.heap.size + 1 ∧ w5.heap.size + 1 < w6.heap.size; omega
  have HM0 : Hid (Km p [] [] [] (tNew ByteArray zs ((n0 : Int) + 1)) (tNew P.Pr zs ((n0 : Int) + 1)) (tNew (Option Addr) zs ((n0 : Int) + 1)) none 0 none 0 w6) := by
    have k36 := HK35.out.then HK6.out
    have k26 := HK3.out.then k36
    rw [hp]
    exact ⟨HB41.out.kept (HK2.out.then k26) (fun e => e), HB5.out.kept k36 (fun e => e), HT1.out.no k26, HT2.out.no (HK5.out.then HK6.out), HT3.out.no HK6.out, HB8.out, Own.nil _ _ _ _, HB9.out, Own.nil _ _ _ _, fun b hb => absurd hb (by simp), fun b hb => absurd hb (by simp), (HKw3.out.then k36), Nat.le_refl _⟩
  have HF0 : Hid (Kf (uq zs) [] [] p.ts (tNew ByteArray zs ((n0 : Int) + 1)) (tNew P.Pr zs ((n0 : Int) + 1)) (tNew (Option Addr) zs ((n0 : Int) + 1))) := Kf.start zs n0 HZ.out _
  have e4 : p.b4 = w.heap.size := by rw [hp]
  have e5 : p.b5 = w2.heap.size := by rw [hp]
  have e8 : p.b8 = w5.heap.size := by rw [hp]
  have e9 : p.b9 = w5.heap.size + 1 := by rw [hp]
  have eS : p.ts = w1.heap.size + 1 := by rw [hp]
  have eP : p.tp = w3.heap.size + 1 := by rw [hp]
  have eZ : p.tz = w4.heap.size + 1 := by rw [hp]
  have HPW : Hid (p.w = w) := by show p.w = w; rw [hp]
  rw [← e4, ← e5, ← e9, ← e8, ← eP, ← eZ, ← eS]
  clear e4 e5 e8 e9 eS eP eZ q1 q2 q3 q4 q5 q6 q7 q8 q9 q10 q11 q12 hp hs6 hw6 HB8 HB9 HK6 HK35 HK5 HK4 HT1 HT2 HT3 HF1 HF2 HF3 HK2 HK3 HKw3 hs3 HB5 HB41 HK1 HB4 HK0 HN1 HN2 HN3 HKn d5
  go_wp2
  go_loopw [10] (fun vi wx => ∃ k : Nat, vi = .int .i64 k ∧ k ≤ n1 ∧ Hid (∃ who ls bs X Y Z wa wc la lc, Km p who ls bs X Y Z wa wc la lc wx ∧ Kf (uq zs) who ls p.ts X Y Z)) (fun i _ => n1 - (intOf i).toNat)
  case atStart => exact ⟨0, by go_num, by omega, ⟨_, _, _, _, _, _, _, _, _, _, HM0.out, HF0.out⟩⟩
  case round =>
    obtain ⟨k, rfl, hk1, HI⟩ := hrel
    obtain ⟨who, ls, bs, X, Y, Z, wa, wc, la, lc, hM, hF⟩ := HI.out
    have HM : Hid (Km p who ls bs X Y Z wa wc la lc wr) := hM
    have HF : Hid (Kf (uq zs) who ls p.ts X Y Z) := hF
    have hle := hF.le
    have hul := uq_len zs
    have hzl := HZ.out
    have hwl : who.length ≤ 1048576 := by omega
    have hll : ls.length ≤ 1048576 := by rw [hF.len]; exact hwl
    clear hM hF HI HM0 HF0 hle hul hzl
    have HKr : Hid (∀ W, Kept No wr W → Kept No w W) := fun W hk => by have := HM.out.k; rw [HPW.out] at this; exact this.then hk
    by_cases hlt : k < n1
    · have hlt' : (k : Int) < (n1 : Int) := by omega
      obtain ⟨b, off, rfl, e1, e2, e3⟩ := (HV.out wr (HKr.out wr (Kept.refl _ _))) k (by rw [HUl.out]; exact hlt)
      generalize vAt us k = u at e1 e2 e3
      obtain ⟨s, v, lk⟩ := u
      simp only at e1 e2 e3
      obtain ⟨v1, hv1⟩ : ∃ v1, v1 = wr.alloc (.cells #[.int .i64 s, .int .i64 v, .bool lk] 35) := ⟨_, rfl⟩
      have HKv : Hid (Kept No wr v1) := by rw [hv1]; exact (Kept.refl No wr).alloc _
      have HX1 : Hid (Box v1 wr.heap.size 35 #[.int .i64 s, .int .i64 v, .bool lk]) := by rw [hv1]; exact Box.new _ _ _
      have hx0 := HX1.out.cell 0
      simp only [List.getElem?_toArray, List.getElem?_cons_zero] at hx0
      rw [hv1] at hx0
      have hand := i64_and127 v
      obtain ⟨z, hz1, hz2⟩ : ∃ z : Nat, v % 128 = (z : Int) ∧ z < 128 := ⟨(v % 128).toNat, by omega, by omega⟩
      rw [hz1] at hand
      have hw32 : IntKind.i32.wrap (z : Int) = (z : Int) := by rw [IntKind.wrap_i32]; omega
      have HRn : Hid ((Utf8.encode (z : Int)).size = 1) := rune_size ⟨z, hz2⟩
      have hcv : ∀ W : World, (convert 21 9 (.int .i32 (z : Int))).run Try.prog W = .ok (.string (Utf8.encode (z : Int))) W := fun W => by kernel_rfl
      generalize Utf8.encode (z : Int) = tx at HRn hcv
      by_cases hs : s ∈ zs
      · have HS1 : Hid (decide (s ∈ zs) = true) := decide_eq_true hs
        have HSu : Hid (s ∈ uq zs) := mem_uq.2 hs
        by_cases hw : s ∈ who
        · have HS2 : Hid (decide (s ∈ who) = true) := decide_eq_true hw
          have HTk1 : True := trivial
          have HTk2 : True := trivial
          go_upto_region 15 with (first
            | (go_at_call 10
               have htok := HTk1
               rw [← hv1]
               refine Calls.mono (HSt.out v1 s (HKr.out v1 HKv.out)) ?_
               rintro e v2 ⟨rfl, hk2⟩
               have HK2 : Hid (Kept No wr v2) := HKv.out.then hk2
               have HM2 : Hid (Km p who ls bs X Y Z wa wc la lc v2) := HM.out.no HK2.out
               have HX2 : Hid (Box v2 wr.heap.size 35 #[.int .i64 s, .int .i64 v, .bool lk]) := HX1.out.kept hk2 (fun e => e)
               have y0 := HX2.out.cell 0
               have y8 := HM2.out.hw.cell 0
               simp only [List.getElem?_toArray, List.getElem?_cons_zero] at y0 y8
               rw [HS1.out]
               clear hk2 HX1 hx0 hv1 htok HTk1 e1 e2 e3 HKv)
            | (go_at_call 10
               have htok := HTk2
               refine Calls.mono (stands_any wa who.length wc who s v2 rfl (by omega) (HM2.out.ow.nums rfl)) ?_
               rintro e v3 ⟨rfl, hk3⟩
               have HK3 : Hid (Kept No wr v3) := HK2.out.then hk3
               have HM3 : Hid (Km p who ls bs X Y Z wa wc la lc v3) := HM2.out.no hk3
               have HX3 : Hid (Box v3 wr.heap.size 35 #[.int .i64 s, .int .i64 v, .bool lk]) := HX2.out.kept hk3 (fun e => e)
               rw [HS2.out]
               clear hk3 HX2 y0 y8 HM2 htok HTk2 HK2))
          have HNb : Hid (wr.heap.size ≤ wr.heap.size) := Nat.le_refl _
          generalize wr.heap.size = B at HX3 HNb ⊢
          obtain ⟨v4, hv4⟩ : ∃ v4, v4 = v3.alloc (.cells #[.int .i64 v, .int .i64 (k : Int)] 3) := ⟨_, rfl⟩
          have x1 := HX3.out.cell 1
          simp only [List.getElem?_toArray, List.getElem?_cons_zero, List.getElem?_cons_succ] at x1
          go_upto_region 16 with fail
          rw [← hv4]
          have HM4 : Hid (Km p who ls (bs ++ [v3.heap.size]) X Y Z wa wc la lc v4) := by rw [hv4]; exact HM3.out.new v k
          have HX4 : Hid (Box v4 B 35 #[.int .i64 s, .int .i64 v, .bool lk]) := by rw [hv4]; exact HX3.out.alloc _
          generalize v3.heap.size = L at HM4 ⊢
          clear hv4 x1 HX3 HM3 HK3
          obtain ⟨x40, x41⟩ : v4.cell? ⟨B, 0, none⟩ = some (.int .i64 s) ∧ v4.cell? ⟨B, 1, none⟩ = some (.int .i64 v) := ⟨HX4.out.cell 0, HX4.out.cell 1⟩
          have x45 := HM4.out.s.cell 0
          simp only [List.getElem?_toArray, List.getElem?_cons_zero] at x45
          have HnX : Hid (takeB X s = false) := never (by rw [HF.out.gx]; exact HF.out.nx) (by rw [HF.out.gx]; exact HF.out.nd) s
          have HnY : Hid (takeB Y s = false) := never (by rw [HF.out.gy]; exact HF.out.ny) (by rw [HF.out.gy]; exact HF.out.nd) s
          have HnZ : Hid (takeB Z s = false) := never (by rw [HF.out.gz]; exact HF.out.nz) (by rw [HF.out.gz]; exact HF.out.nd) s
          go_upto_region 18 with (first
            | (go_at_call 11
               refine Calls.mono (S.take_any p.ts p.ms p.c1 p.a1 X s tx v4 HM4.out.tS) ?_
               rintro e v5 ⟨rfl, hT5, hk5⟩
               have HM5 : Hid (Km p who ls (bs ++ [L]) (takeS X s tx) Y Z wa wc la lc v5) := HM4.out.takeS HD.out hk5 hT5
               have HX5 : Hid (Box v5 B 35 #[.int .i64 s, .int .i64 v, .bool lk]) := HX4.out.kept hk5 (box_far HM4.out.tS HX4.out (by decide))
               rw [HnX.out]
               have x50 := HX5.out.cell 0
               simp only [List.getElem?_toArray, List.getElem?_cons_zero] at x50
               clear hT5 hk5 x40 x41 x45)
            | (go_at_call 12
               refine Calls.mono (P.take_any p.tp p.mp p.c2 p.a2 Y s (pr L) v5 HM5.out.tP) ?_
               rintro e v6 ⟨rfl, hT6, hk6⟩
               have HM6 : Hid (Km p who ls (bs ++ [L]) (takeS X s tx) (takeS Y s (pr L)) Z wa wc la lc v6) := HM5.out.takeP HD.out hk6 hT6
               have HX6 : Hid (Box v6 B 35 #[.int .i64 s, .int .i64 v, .bool lk]) := HX5.out.kept hk6 (box_far HM5.out.tP HX5.out (by decide))
               rw [HnY.out]
               have x60 := HX6.out.cell 0
               have x65 := HM6.out.s.cell 0
               simp only [List.getElem?_toArray, List.getElem?_cons_zero] at x60 x65
               clear hT6 hk6 x50)
            | (go_at_call 13
               refine Calls.mono (Gt.Z.take_any p.tz p.mz p.c3 p.a3 Z s (some ⟨p.ts, 0, none⟩) v6 HM6.out.tZ) ?_
               rintro e v7 ⟨rfl, hT7, hk7⟩
               have HM7 : Hid (Km p who ls (bs ++ [L]) (takeS X s tx) (takeS Y s (pr L)) (takeS Z s (some ⟨p.ts, 0, none⟩)) wa wc la lc v7) := HM6.out.takeZ HD.out hk7 hT7
               have HX7 : Hid (Box v7 B 35 #[.int .i64 s, .int .i64 v, .bool lk]) := HX6.out.kept hk7 (box_far HM6.out.tZ HX6.out (by decide))
               rw [HnZ.out]
               clear hT7 hk7 x60 x65))
          clear HM4 HM5 HM6 HX4 HX5 HX6
          have tX : takeS X s (tx) = X := (takeNo (by rw [may_iff (by rw [HF.out.gx]; exact HF.out.nx)]; have := (HF.out.vx s).2 hw; cases hq : X.v s <;> simp_all)).2
          have tY : takeS Y s (pr L) = Y := (takeNo (by rw [may_iff (by rw [HF.out.gy]; exact HF.out.ny)]; have := (HF.out.vy s).2 hw; cases hq : Y.v s <;> simp_all)).2
          have tZ : takeS Z s (some ⟨p.ts, 0, none⟩) = Z := (takeNo (by rw [may_iff (by rw [HF.out.gz]; exact HF.out.nz)]; have := (HF.out.vz s).2 hw; cases hq : Z.v s <;> simp_all)).2
          rw [tX, tY, tZ] at HM7
          clear tX tY tZ hs hw
          go_wp2
          go_roundw
          case rel => exact ⟨k + 1, by go_num, by omega, ⟨_, _, _, _, _, _, _, _, _, _, HM7.out, HF.out⟩⟩
          case measure => simp [intOf]; omega
        · have HS2 : Hid (decide (s ∈ who) = false) := decide_eq_false hw
          have HWn : Hid (s ∉ who) := hw
          have HTk1 : True := trivial
          have HTk2 : True := trivial
          go_upto_region 15 with (first
            | (go_at_call 10
               have htok := HTk1
               rw [← hv1]
               refine Calls.mono (HSt.out v1 s (HKr.out v1 HKv.out)) ?_
               rintro e v2 ⟨rfl, hk2⟩
               have HK2 : Hid (Kept No wr v2) := HKv.out.then hk2
               have HM2 : Hid (Km p who ls bs X Y Z wa wc la lc v2) := HM.out.no HK2.out
               have HX2 : Hid (Box v2 wr.heap.size 35 #[.int .i64 s, .int .i64 v, .bool lk]) := HX1.out.kept hk2 (fun e => e)
               have y0 := HX2.out.cell 0
               have y8 := HM2.out.hw.cell 0
               simp only [List.getElem?_toArray, List.getElem?_cons_zero] at y0 y8
               rw [HS1.out]
               clear hk2 HX1 hx0 hv1 htok HTk1 e1 e2 e3 HKv)
            | (go_at_call 10
               have htok := HTk2
               refine Calls.mono (stands_any wa who.length wc who s v2 rfl (by omega) (HM2.out.ow.nums rfl)) ?_
               rintro e v3 ⟨rfl, hk3⟩
               have HK3 : Hid (Kept No wr v3) := HK2.out.then hk3
               have HM3 : Hid (Km p who ls bs X Y Z wa wc la lc v3) := HM2.out.no hk3
               have HX3 : Hid (Box v3 wr.heap.size 35 #[.int .i64 s, .int .i64 v, .bool lk]) := HX2.out.kept hk3 (fun e => e)
               rw [HS2.out]
               clear hk3 HX2 y0 y8 HM2 htok HTk2 HK2))
          have HNb : Hid (wr.heap.size ≤ wr.heap.size) := Nat.le_refl _
          generalize wr.heap.size = B at HX3 HNb ⊢
          obtain ⟨v4, hv4⟩ : ∃ v4, v4 = v3.alloc (.cells #[.int .i64 v, .int .i64 (k : Int)] 3) := ⟨_, rfl⟩
          have x1 := HX3.out.cell 1
          simp only [List.getElem?_toArray, List.getElem?_cons_zero, List.getElem?_cons_succ] at x1
          go_upto_region 16 with fail
          rw [← hv4]
          have HM4 : Hid (Km p who ls (bs ++ [v3.heap.size]) X Y Z wa wc la lc v4) := by rw [hv4]; exact HM3.out.new v k
          have HX4 : Hid (Box v4 B 35 #[.int .i64 s, .int .i64 v, .bool lk]) := by rw [hv4]; exact HX3.out.alloc _
          generalize v3.heap.size = L at HM4 ⊢
          clear hv4 x1 HX3 HM3 HK3
          obtain ⟨x40, x41⟩ : v4.cell? ⟨B, 0, none⟩ = some (.int .i64 s) ∧ v4.cell? ⟨B, 1, none⟩ = some (.int .i64 v) := ⟨HX4.out.cell 0, HX4.out.cell 1⟩
          have x45 := HM4.out.s.cell 0
          simp only [List.getElem?_toArray, List.getElem?_cons_zero] at x45
          have HnX : Hid (takeB X s = false) := never (by rw [HF.out.gx]; exact HF.out.nx) (by rw [HF.out.gx]; exact HF.out.nd) s
          have HnY : Hid (takeB Y s = false) := never (by rw [HF.out.gy]; exact HF.out.ny) (by rw [HF.out.gy]; exact HF.out.nd) s
          have HnZ : Hid (takeB Z s = false) := never (by rw [HF.out.gz]; exact HF.out.nz) (by rw [HF.out.gz]; exact HF.out.nd) s
          go_upto_region 18 with (first
            | (go_at_call 11
               refine Calls.mono (S.take_any p.ts p.ms p.c1 p.a1 X s tx v4 HM4.out.tS) ?_
               rintro e v5 ⟨rfl, hT5, hk5⟩
               have HM5 : Hid (Km p who ls (bs ++ [L]) (takeS X s tx) Y Z wa wc la lc v5) := HM4.out.takeS HD.out hk5 hT5
               have HX5 : Hid (Box v5 B 35 #[.int .i64 s, .int .i64 v, .bool lk]) := HX4.out.kept hk5 (box_far HM4.out.tS HX4.out (by decide))
               rw [HnX.out]
               have x50 := HX5.out.cell 0
               simp only [List.getElem?_toArray, List.getElem?_cons_zero] at x50
               clear hT5 hk5 x40 x41 x45)
            | (go_at_call 12
               refine Calls.mono (P.take_any p.tp p.mp p.c2 p.a2 Y s (pr L) v5 HM5.out.tP) ?_
               rintro e v6 ⟨rfl, hT6, hk6⟩
               have HM6 : Hid (Km p who ls (bs ++ [L]) (takeS X s tx) (takeS Y s (pr L)) Z wa wc la lc v6) := HM5.out.takeP HD.out hk6 hT6
               have HX6 : Hid (Box v6 B 35 #[.int .i64 s, .int .i64 v, .bool lk]) := HX5.out.kept hk6 (box_far HM5.out.tP HX5.out (by decide))
               rw [HnY.out]
               have x60 := HX6.out.cell 0
               have x65 := HM6.out.s.cell 0
               simp only [List.getElem?_toArray, List.getElem?_cons_zero] at x60 x65
               clear hT6 hk6 x50)
            | (go_at_call 13
               refine Calls.mono (Gt.Z.take_any p.tz p.mz p.c3 p.a3 Z s (some ⟨p.ts, 0, none⟩) v6 HM6.out.tZ) ?_
               rintro e v7 ⟨rfl, hT7, hk7⟩
               have HM7 : Hid (Km p who ls (bs ++ [L]) (takeS X s tx) (takeS Y s (pr L)) (takeS Z s (some ⟨p.ts, 0, none⟩)) wa wc la lc v7) := HM6.out.takeZ HD.out hk7 hT7
               have HX7 : Hid (Box v7 B 35 #[.int .i64 s, .int .i64 v, .bool lk]) := HX6.out.kept hk7 (box_far HM6.out.tZ HX6.out (by decide))
               rw [HnZ.out]
               clear hT7 hk7 x60 x65))
          clear HM4 HM5 HM6 HX4 HX5 HX6
          have tX : takeS X s (tx) = putS X s (tx) := if_pos (by rw [may_iff (by rw [HF.out.gx]; exact HF.out.nx)]; simp [HF.out.gx, HSu.out, none_of (HF.out.vx s) HWn.out])
          have tY : takeS Y s (pr L) = putS Y s (pr L) := if_pos (by rw [may_iff (by rw [HF.out.gy]; exact HF.out.ny)]; simp [HF.out.gy, HSu.out, none_of (HF.out.vy s) HWn.out])
          have tZ : takeS Z s (some ⟨p.ts, 0, none⟩) = putS Z s (some ⟨p.ts, 0, none⟩) := if_pos (by rw [may_iff (by rw [HF.out.gz]; exact HF.out.nz)]; simp [HF.out.gz, HSu.out, none_of (HF.out.vz s) HWn.out])
          rw [tX, tY, tZ] at HM7
          have HF7 : Hid (Kf (uq zs) (who ++ [s]) (ls ++ [L]) p.ts (putS X s tx) (putS Y s (pr L)) (putS Z s (some ⟨p.ts, 0, none⟩))) := HF.out.put HSu.out HWn.out tx HRn.out L
          clear tX tY tZ hs hw
          generalize putS X s tx = X' at HM7 HF7
          generalize putS Y s (pr L) = Y' at HM7 HF7
          generalize putS Z s (some ⟨p.ts, 0, none⟩) = Z' at HM7 HF7
          have x70 := HX7.out.cell 0
          have x78 := HM7.out.hw.cell 0
          simp only [List.getElem?_toArray, List.getElem?_cons_zero] at x70 x78
          have hsz7 := HM7.out.sz
          have hmem : L ∈ bs ++ [L] := by simp
          have HMem : Hid (L ∈ bs ++ [L]) := hmem
          clear hmem
          go_wp2_with (first
            | (at_builtin
               have htok := x70
               refine wp_appA rfl _ _ 22 3 1 8 (.int .i64 0) Try.und22 Try.info3' rfl (by omega) rfl p.N0 _ wc wa _ rfl (HM7.out.ow.no ((Kept.refl No v7).alloc _)) ⟨v7.heap.size, 0, none⟩ 1 1 [.int .i64 s] rfl rfl (cell_new1 _ _ _) (by simp [Value.oneCell']) (by omega) (by omega) (by omega) (by simp; omega) (who.length + 1) rfl ?_
               intro g1 d1 v8 HO8 HK8 HA8
               obtain ⟨hb8, hm8⟩ := HM7.out.app1 HD.out ((((Kept.refl No v7).alloc (.cells #[.int .i64 s] 3)).of_no : Kept (At wa) v7 _).then HK8.out) HO8.out rfl (HA8.out.imp id (fun e => by rw [e]; simp))
               obtain ⟨v9, hv9⟩ : ∃ v9, v9 = v8.setCell ⟨p.b8, 0, none⟩ (.slice (some ⟨g1, 0, none⟩) (who.length + 1) d1) := ⟨_, rfl⟩
               rw [← hv9] at hm8
               have HM9 : Hid (Km p (who ++ [s]) ls (bs ++ [L]) X' Y' Z' (some ⟨g1, 0, none⟩) d1 la lc v9) := hm8
               have f8 := hb8.frozen 0
               have z8 := hb8.cell 0
               have x99 := HM9.out.hl.cell 0
               simp only [List.getElem?_toArray, List.getElem?_cons_zero] at z8 x99
               rw [hv9] at x99
               have hsz9 := HM9.out.sz
               have hss : v8.heap.size = v9.heap.size := by rw [hv9]; simp
               clear hb8 hm8 HO8 HK8 HA8 x70 x78 htok hsz7)
            | (rw [← hv9]
               refine wp_bs rfl _ rfl L rfl ?_
               simp only [Act.put, List.setIfInBounds_toArray, List.set_cons_zero, List.set_cons_succ]
               have hbs := hss)
            | (at_builtin
               refine wp_appA rfl _ _ 33 22 1 24 (.slice none 0 0) Try.und33 Try.info22 rfl (by omega) rfl p.N0 _ lc la _ rfl (HM9.out.ol.no ((Kept.refl No v9).alloc _)) ⟨v9.heap.size, 0, none⟩ 1 1 [slV L] rfl rfl (cell_new1 _ _ _) (by simp [Value.oneCell', slV]) (by omega) (by omega) (by omega) (by simp; omega) (ls.length + 1) rfl ?_
               intro g2 d2 v10 HO10 HK10 HA10
               obtain ⟨hb9, hm9⟩ := HM9.out.app2 HD.out HMem.out ((((Kept.refl No v9).alloc (.cells #[slV L] 22)).of_no : Kept (At la) v9 _).then HK10.out) HO10.out rfl
               have HMa : Hid _ := hm9
               have f9 := hb9.frozen 0
               have z9 := hb9.cell 0
               simp only [List.getElem?_toArray, List.getElem?_cons_zero] at z9
               try simp only [Act.put, List.setIfInBounds_toArray, List.set_cons_zero, List.set_cons_succ]
               clear hb9 hm9 HO10 HK10 HA10 x99 hsz9 hss f8 z8 hv9))
          go_roundw
          case rel => exact ⟨k + 1, by go_num, by omega, ⟨_, _, _, _, _, _, _, _, _, _, HMa.out, HF7.out⟩⟩
          case measure => simp [intOf]; omega
      · have HS1 : Hid (decide (s ∈ zs) = false) := decide_eq_false hs
        have HSn : Hid (s ∉ uq zs) := fun h => hs (mem_uq.1 h)
        have HTk1 : True := trivial
        have HTk2 : True := trivial
        go_upto_region 15 with (first
          | (go_at_call 10
             rw [← hv1]
             refine Calls.mono (HSt.out v1 s (HKr.out v1 HKv.out)) ?_
             rintro e v3 ⟨rfl, hk3⟩
             have HK3 : Hid (Kept No wr v3) := HKv.out.then hk3
             have HM3 : Hid (Km p who ls bs X Y Z wa wc la lc v3) := HM.out.no HK3.out
             have HX3 : Hid (Box v3 wr.heap.size 35 #[.int .i64 s, .int .i64 v, .bool lk]) := HX1.out.kept hk3 (fun e => e)
             rw [HS1.out]
             clear hk3 HX1 hx0 hv1 e1 e2 e3 HKv))
        have HNb : Hid (wr.heap.size ≤ wr.heap.size) := Nat.le_refl _
        generalize wr.heap.size = B at HX3 HNb ⊢
        obtain ⟨v4, hv4⟩ : ∃ v4, v4 = v3.alloc (.cells #[.int .i64 v, .int .i64 (k : Int)] 3) := ⟨_, rfl⟩
        have x1 := HX3.out.cell 1
        simp only [List.getElem?_toArray, List.getElem?_cons_zero, List.getElem?_cons_succ] at x1
        go_upto_region 16 with fail
        rw [← hv4]
        have HM4 : Hid (Km p who ls (bs ++ [v3.heap.size]) X Y Z wa wc la lc v4) := by rw [hv4]; exact HM3.out.new v k
        have HX4 : Hid (Box v4 B 35 #[.int .i64 s, .int .i64 v, .bool lk]) := by rw [hv4]; exact HX3.out.alloc _
        generalize v3.heap.size = L at HM4 ⊢
        clear hv4 x1 HX3 HM3 HK3
        obtain ⟨x40, x41⟩ : v4.cell? ⟨B, 0, none⟩ = some (.int .i64 s) ∧ v4.cell? ⟨B, 1, none⟩ = some (.int .i64 v) := ⟨HX4.out.cell 0, HX4.out.cell 1⟩
        have x45 := HM4.out.s.cell 0
        simp only [List.getElem?_toArray, List.getElem?_cons_zero] at x45
        have HnX : Hid (takeB X s = false) := never (by rw [HF.out.gx]; exact HF.out.nx) (by rw [HF.out.gx]; exact HF.out.nd) s
        have HnY : Hid (takeB Y s = false) := never (by rw [HF.out.gy]; exact HF.out.ny) (by rw [HF.out.gy]; exact HF.out.nd) s
        have HnZ : Hid (takeB Z s = false) := never (by rw [HF.out.gz]; exact HF.out.nz) (by rw [HF.out.gz]; exact HF.out.nd) s
        go_upto_region 18 with (first
          | (go_at_call 11
             refine Calls.mono (S.take_any p.ts p.ms p.c1 p.a1 X s tx v4 HM4.out.tS) ?_
             rintro e v5 ⟨rfl, hT5, hk5⟩
             have HM5 : Hid (Km p who ls (bs ++ [L]) (takeS X s tx) Y Z wa wc la lc v5) := HM4.out.takeS HD.out hk5 hT5
             have HX5 : Hid (Box v5 B 35 #[.int .i64 s, .int .i64 v, .bool lk]) := HX4.out.kept hk5 (box_far HM4.out.tS HX4.out (by decide))
             rw [HnX.out]
             have x50 := HX5.out.cell 0
             simp only [List.getElem?_toArray, List.getElem?_cons_zero] at x50
             clear hT5 hk5 x40 x41 x45)
          | (go_at_call 12
             refine Calls.mono (P.take_any p.tp p.mp p.c2 p.a2 Y s (pr L) v5 HM5.out.tP) ?_
             rintro e v6 ⟨rfl, hT6, hk6⟩
             have HM6 : Hid (Km p who ls (bs ++ [L]) (takeS X s tx) (takeS Y s (pr L)) Z wa wc la lc v6) := HM5.out.takeP HD.out hk6 hT6
             have HX6 : Hid (Box v6 B 35 #[.int .i64 s, .int .i64 v, .bool lk]) := HX5.out.kept hk6 (box_far HM5.out.tP HX5.out (by decide))
             rw [HnY.out]
             have x60 := HX6.out.cell 0
             have x65 := HM6.out.s.cell 0
             simp only [List.getElem?_toArray, List.getElem?_cons_zero] at x60 x65
             clear hT6 hk6 x50)
          | (go_at_call 13
             refine Calls.mono (Gt.Z.take_any p.tz p.mz p.c3 p.a3 Z s (some ⟨p.ts, 0, none⟩) v6 HM6.out.tZ) ?_
             rintro e v7 ⟨rfl, hT7, hk7⟩
             have HM7 : Hid (Km p who ls (bs ++ [L]) (takeS X s tx) (takeS Y s (pr L)) (takeS Z s (some ⟨p.ts, 0, none⟩)) wa wc la lc v7) := HM6.out.takeZ HD.out hk7 hT7
             have HX7 : Hid (Box v7 B 35 #[.int .i64 s, .int .i64 v, .bool lk]) := HX6.out.kept hk7 (box_far HM6.out.tZ HX6.out (by decide))
             rw [HnZ.out]
             clear hT7 hk7 x60 x65))
        clear HM4 HM5 HM6 HX4 HX5 HX6
        have tX : takeS X s (tx) = X := (takeNo (by rw [may_iff (by rw [HF.out.gx]; exact HF.out.nx)]; simp [HF.out.gx, HSn.out])).2
        have tY : takeS Y s (pr L) = Y := (takeNo (by rw [may_iff (by rw [HF.out.gy]; exact HF.out.ny)]; simp [HF.out.gy, HSn.out])).2
        have tZ : takeS Z s (some ⟨p.ts, 0, none⟩) = Z := (takeNo (by rw [may_iff (by rw [HF.out.gz]; exact HF.out.nz)]; simp [HF.out.gz, HSn.out])).2
        rw [tX, tY, tZ] at HM7
        clear tX tY tZ hs
        go_wp2
        go_roundw
        case rel => exact ⟨k + 1, by go_num, by omega, ⟨_, _, _, _, _, _, _, _, _, _, HM7.out, HF.out⟩⟩
        case measure => simp [intOf]; omega
    · have hlt' : ¬ (k : Int) < (n1 : Int) := by omega
      have HF1 : Hid (Kf (uq zs) who ls p.ts X Y Z) := HF.out
      have HcX : Hid (cnt X ≤ 2000000000000) := by rw [HF.out.cx]; show _ ≤ _; omega
      have HcY : Hid (cnt Y ≤ 2000000000000) := by rw [HF.out.cy]; show _ ≤ _; omega
      have HcZ : Hid (cnt Z ≤ 2000000000000) := by rw [HF.out.cz]; show _ ≤ _; omega
      have HG1 : Hid (∀ W, Kept No wr W → Calls Try.prog 14 #[.pointer (some ⟨p.tp, 0, none⟩)] W (P.GotOut W (gotL Y))) := fun W hk => P.gotten_any _ _ _ _ Y W (HM.out.tP.no hk) HcY.out
      have HG2 : Hid (∀ W, Kept No wr W → Calls Try.prog 15 #[.pointer (some ⟨p.ts, 0, none⟩)] W (S.GotOut W (gotL X))) := fun W hk => S.gotten_any _ _ _ _ X W (HM.out.tS.no hk) HcX.out
      have HG3 : Hid (∀ W, Kept No wr W → Calls Try.prog 16 #[.pointer (some ⟨p.tz, 0, none⟩)] W (Gt.Z.GotOut W (gotL Z))) := fun W hk => Gt.Z.gotten_any _ _ _ _ Z W (HM.out.tZ.no hk) HcZ.out
      have HPm : Hid (∀ x ∈ gotL Y, ∃ (j b : Nat), who[j]? = some x.1 ∧ ls[j]? = some b ∧ x.2 = pr b ∧ ∀ i : Nat, i < j → who[i]? ≠ some x.1) := fun x hx => HF.out.sy x.1 x.2 (got_mem hx)
      have HSm : Hid (∀ x ∈ gotL X, x.1 ∈ who ∧ x.2.size = 1) := fun x hx => ⟨(HF.out.vx x.1).1 (by rw [got_mem hx]; rfl), HF.out.sx x.1 x.2 (got_mem hx)⟩
      have HZm : Hid (∀ x ∈ gotL Z, x.2 = some ⟨p.ts, 0, none⟩) := fun x hx => HF.out.sz x.1 x.2 (got_mem hx)
      have HLP : Hid ((gotL Y).length = who.length) := by rw [gotL_len]; exact HF.out.cy
      have HLS : Hid ((gotL X).length = who.length) := by rw [gotL_len]; exact HF.out.cx
      have HLZ : Hid ((gotL Z).length = who.length) := by rw [gotL_len]; exact HF.out.cz
      have HLL : Hid (ls.length = who.length) := HF.out.len
      generalize gotL Y = pP at HG1 HPm HLP
      generalize gotL X = pS at HG2 HSm HLS
      generalize gotL Z = pZ at HG3 HZm HLZ
      have hfn1 : ∀ (b : Array Value) (w : World), Sem.run Try.prog (binOp .eql 41 (.func (.func 28) #[] b) .nilFunc) w = .ok (.bool false) w := fun b w => by kernel_rfl
      have hfn2 : ∀ (b : Array Value) (w : World), Sem.run Try.prog (binOp .eql 44 (.func (.func 29) #[] b) .nilFunc) w = .ok (.bool false) w := fun b w => by kernel_rfl
      have hfn3 : ∀ (b : Array Value) (w : World), Sem.run Try.prog (binOp .eql 47 (.func (.func 30) #[] b) .nilFunc) w = .ok (.bool false) w := fun b w => by kernel_rfl
      have HSeq1 : Hid True := trivial
      go_upto_region 26 with (first
        | (go_at_call 14
           refine Calls.mono (HG1.out wr (Kept.refl _ _)) ?_
           rintro e u1 ⟨aP, cP, rfl, hb, ho, hk⟩
           have HK1 : Hid (Kept No wr u1) := hk
           have HQ1 : Hid (P.SeqAt u1 wr.heap.size aP cP pP) := ⟨hb, Own.lower ho (Nat.zero_le _)⟩
           have x5 := (HM.out.no hk).s.cell 0
           simp only [List.getElem?_toArray, List.getElem?_cons_zero] at x5
           clear hb ho hk)
        | (go_at_call 15
           refine Calls.mono (HG2.out u1 HK1.out) ?_
           rintro e u2 ⟨aS, cS, rfl, hb, ho, hk⟩
           have HK2 : Hid (Kept No u1 u2) := hk
           have HQ2 : Hid (S.SeqAt u2 u1.heap.size aS cS pS) := ⟨hb, Own.lower ho (Nat.zero_le _)⟩
           clear hb ho hk x5)
        | (go_at_call 16
           refine Calls.mono (HG3.out u2 (HK1.out.then HK2.out)) ?_
           rintro e u3 ⟨aZ, cZ, rfl, hb, ho, hk⟩
           have HK3 : Hid (Kept No u2 u3) := hk
           have HQ3 : Hid (Gt.Z.SeqAt u3 u2.heap.size aZ cZ pZ) := ⟨hb, Own.lower ho (Nat.zero_le _)⟩
           clear hb ho hk))
      go_upto_region 27 with fail
      obtain ⟨u4, hu4⟩ : ∃ u4, u4 = u3.alloc (.cells #[.int .i64 0] 3) := ⟨_, rfl⟩
      rw [← hu4]
      have HK4 : Hid (Kept No u3 u4) := by rw [hu4]; exact (Kept.refl No u3).alloc _
      have HBn : Hid (Box u4 u3.heap.size 3 #[.int .i64 0]) := by rw [hu4]; exact Box.new _ _ _
      have k13 : Kept No u1 u4 := (HK2.out.then HK3.out).then HK4.out
      have k14 : Kept No wr u4 := HK1.out.then k13
      have HM4 : Hid (Km p who ls bs X Y Z wa wc la lc u4) := HM.out.no k14
      have HM3 := HM.out.no ((HK1.out.then HK2.out).then HK3.out)
      have HOo : Hid ((∀ k, At wa k → k < u3.heap.size) ∧ ∀ b ∈ ls, b < u3.heap.size) := ⟨fun k hk => (at_lt HM3.ow hk).2, fun b hb => by
        obtain ⟨_, ⟨v, i, h2⟩, _⟩ := HM3.lb b (HM3.sub b hb)
        exact h2.lt⟩
      have hsz3 : p.N0 ≤ u3.heap.size := HM3.sz
      have HP4 : Hid (P.SeqAt u4 wr.heap.size aP cP pP) := ⟨HQ1.out.box.kept k13 (fun e => e), HQ1.out.row.no k13⟩
      have HS4 : Hid (S.SeqAt u4 u1.heap.size aS cS pS) := ⟨HQ2.out.box.kept (HK3.out.then HK4.out) (fun e => e), HQ2.out.row.no (HK3.out.then HK4.out)⟩
      have HZ4 : Hid (Gt.Z.SeqAt u4 u2.heap.size aZ cZ pZ) := ⟨HQ3.out.box.kept HK4.out (fun e => e), HQ3.out.row.no HK4.out⟩
      clear HQ1 HQ2 HQ3 hu4 HM3 k13 k14
      generalize wr.heap.size = lP at HP4 ⊢
      generalize u1.heap.size = lS at HS4 ⊢
      generalize u2.heap.size = lZ at HZ4 ⊢
      generalize u3.heap.size = bn at HBn HOo hsz3 ⊢
      have HO : Hid (Ko ⟨p, who, ls, wa, wc, la, lc, lP, aP, cP, pP, lS, aS, cS, pS, lZ, aZ, cZ, pZ, bn⟩) := ⟨fun k hk e => by have h1 := HOo.out.1 k hk; have e : k = bn := e; omega, fun b hb e => by have h1 := HOo.out.2 b hb; have e : b = bn := e; omega, by have := HD.out.n0; show p.w.heap.size ≤ bn; omega, HD.out⟩
      have HR : Hid (Kr ⟨p, who, ls, wa, wc, la, lc, lP, aP, cP, pP, lS, aS, cS, pS, lZ, aZ, cZ, pZ, bn⟩ 0 u4) := ⟨HM4.out.r, HM4.out.s, HM4.out.hw, HM4.out.ow, HM4.out.hl, HM4.out.ol, fun b hb => HM4.out.lb b (HM4.out.sub b hb), HP4.out, HS4.out, HZ4.out, HBn.out, HM4.out.k⟩
      have hB4 : p.w.heap.size ≤ u4.heap.size := HR.out.k.size
      have HB4 : Hid (p.w.heap.size ≤ u4.heap.size) := hB4
      clear HM4 HP4 HS4 HZ4 HBn HOo hsz3 HK1 HK2 HK3 HK4 HG1 HG2 HG3 HM HF HF1 HcX HcY HcZ HKr hB4 HV HSt hfn1 hfn2 hfn3 HSeq1
      obtain ⟨m, hm⟩ : ∃ m, m = who.length := ⟨_, rfl⟩
      have HMm : Hid (who.length = m) := hm.symm
      have hmb : m ≤ 2000000000000 := by omega
      have hmb2 : m ≤ 1048576 := by omega
      clear hm
      go_wp2
      refine (wpIn_wide (n := 8)).1 ?_
      refine' rf_B (F := Fence.wide) rfl (by omega) (gf := 28) (lb := #[.pointer (some ⟨lP, 0, none⟩)]) rfl trivial (enters_of Try.func28 (by kernel_rfl) rfl)
        (P.seq_mem Fence.wide (8 - 1) trivial rfl (by omega) lP cP m aP pP hmb (HLP.out.trans HMm.out) u4 HR.out.sP) P.nb_t (P.nb_b HR.out.sP (Nat.le_refl _)) (Below.refl _ _) (fun _ => rfl)
        (fun pre W => Kr ⟨p, who, ls, wa, wc, la, lc, lP, aP, cP, pP, lS, aS, cS, pS, lZ, aZ, cZ, pZ, bn⟩ (pre.length : Int) W) (fun _ _ _ => False) (kr_own HB4.out _) (fun _ _ _ _ _ hs _ _ => hs) HR.out (fun W o => (Kept.refl _ W).alloc o) 30 (fun x => #[.string x.1.2.n, .slice x.1.2.a x.1.2.l x.1.2.k]) _ ?assign1 ?body1 ?done1 ?stop1
      case assign1 =>
        intro l x W K vb hvb hK
        gi_wp2
        rw [← hvb]
        exact hK
      case stop1 =>
        rintro D c pre W hD hpre h _
        exact h.elim
      case body1 =>
        rintro l pre ⟨⟨x1, x2⟩, hx⟩ vb W hl _ hR hbx hlen
        obtain ⟨j, b, h1, h2, h3, h4⟩ := HPm.out _ hx
        have hj : j < who.length := (List.getElem?_eq_some_iff.1 h1).1
        have h3 : x2 = pr b := h3
        subst h3
        have HR1 : Hid (Kr ⟨p, who, ls, wa, wc, la, lc, lP, aP, cP, pP, lS, aS, cS, pS, lZ, aZ, cZ, pZ, bn⟩ (pre.length : Int) W) := hR
        have hbm : b ∈ ls := List.mem_of_getElem? h2
        obtain ⟨⟨v, i, hb1, hb2⟩, hR2⟩ := hR.mark HO.out hbm
        obtain ⟨gw, ow, ea, hcj⟩ := (hR.ow.nums rfl) j hj
        clear hcj
        have ea : wa = some ⟨gw, ow, none⟩ := ea
        subst ea
        have HNw : Hid (∀ i : Nat, i < who.length → W.cell? ⟨gw, ow + i, none⟩ = some (.int .i64 (who[i]?.getD 0))) := fun i hi => by
          obtain ⟨b', o', e, hc⟩ := (HR1.out.ow.nums rfl) i hi
          have e : some (⟨gw, ow, none⟩ : Addr) = some ⟨b', o', none⟩ := e
          cases e
          exact hc
        obtain ⟨gl, el, hcl⟩ := hR.list h2
        have el : la = some ⟨gl, 0, none⟩ := el
        subst el
        have HHj : Hid (who[j]?.getD 0 = x1) := by rw [h1]; exact rfl
        have HHi : Hid (∀ i : Nat, i < j → who[i]?.getD 0 ≠ x1) := fun i hi e => h4 i hi (by
          have hil : i < who.length := by omega
          rw [List.getElem?_eq_getElem hil] at e ⊢
          exact congrArg some e)
        obtain ⟨⟨c4, f4⟩, c5, c8, c9, cn, fn⟩ := HR1.out.cells
        have hbx : Box W vb 30 #[.string pN, .slice (some ⟨b, 0, none⟩) 2 2] := hbx
        have v0 := hbx.cell 0
        have v1 := hbx.cell 1
        simp only [List.getElem?_toArray, List.getElem?_cons_zero, List.getElem?_cons_succ] at v0 v1
        obtain ⟨s0, hs0⟩ : ∃ s0, s0 = pN := ⟨_, rfl⟩
        rw [← hs0] at v0
        have hpl : (s0.toList == [112]) = true := by rw [hs0]; kernel_rfl
        clear hs0
        have hvne : vb ≠ b := fun e => by
          rw [e] at hbx
          unfold Box at hbx hb1
          rw [hb1] at hbx
          simp at hbx
        have fb := hb1.frozen 1
        have cb := hb1.cell 1
        simp only [List.getElem?_toArray, List.getElem?_cons_zero, List.getElem?_cons_succ] at cb
        obtain ⟨W2, hW2⟩ : ∃ W2, W2 = W.setCell ⟨b, 1, none⟩ (.int .i64 (-5)) := ⟨_, rfl⟩
        rw [← hW2] at hb2 hR2
        have HKm : Hid (Kept (Only b) W W2) := by rw [hW2]; exact (Kept.refl (Only b) W).setCell (p := ⟨b, 1, none⟩) (fun _ => rfl) _
        have HKo : Hid (KeepsOthers W W2) := by rw [hW2]; exact KeepsOthers.setCell _ _ _
        have y1 := (hbx.kept HKm.out hvne).cell 1
        have yb := hb2.cell 1
        simp only [List.getElem?_toArray, List.getElem?_cons_zero, List.getElem?_cons_succ] at y1 yb
        have HR2 : Hid (Kr ⟨p, who, ls, some ⟨gw, ow, none⟩, wc, some ⟨gl, 0, none⟩, lc, lP, aP, cP, pP, lS, aS, cS, pS, lZ, aZ, cZ, pZ, bn⟩ (pre.length : Int) W2) := hR2
        obtain ⟨_, _, _, _, dn, gn⟩ := HR2.out.cells
        have HNb : Hid (Box W2 bn 3 #[.int .i64 (pre.length : Int)]) := HR2.out.n
        have HMb : Hid (Box W b 3 #[.int .i64 v, .int .i64 i]) := hb1
        obtain ⟨r, hr⟩ : ∃ r, r = pre.length := ⟨_, rfl⟩
        have HPl : Hid ((pre ++ [(⟨(x1, pr b), hx⟩ : { x : Int × P.Pr // x ∈ pP })]).length = r + 1) := by show _ = _; rw [hr]; simp
        have hrm : (r : Int) < 2000000000000 := by omega
        rw [← hr] at HR1 HR2 cn dn HNb
        have hjl : (j : Int) < (who.length : Int) := by omega
        have hjl2 : (j : Int) < (ls.length : Int) := by rw [HLL.out]; omega
        have hjn : ((j : Int) == (who.length : Int)) = false := by simp; omega
        rw [hW2] at y1 yb dn gn
        clear h1 h2 h4 hbx hb1 hb2 hR hR2 hbm hr hlen c4 f4 c5
        simp only
        gi_wp2
        gi_loopw [20] (fun vi wx => ∃ a : Nat, vi = .int .i64 a ∧ a ≤ j ∧ wx = W) (fun vi _ => j + 1 - (intOf vi).toNat)
        case atStart => exact ⟨0, by go_num, by omega, rfl⟩
        case round =>
          obtain ⟨a, rfl, haj, rfl⟩ := hrel
          by_cases hlt : a < j
          · have hne := HHi.out a hlt
            have hcell := HNw.out a (by omega)
            generalize who[a]?.getD 0 = y at hne hcell
            have hne' : (y != x1) = true := by simpa using hne
            have hal : (a : Int) < (who.length : Int) := by omega
            gi_wp2
            go_roundw
            case rel => exact ⟨a + 1, by go_num, by omega, by first | trivial | rfl⟩
            case measure => simp [intOf]; omega
          · obtain rfl : a = j := by omega
            have hcell := HNw.out a (by omega)
            generalize who[a]?.getD 0 = y at HHj hcell
            have hne' : (y != x1) = false := by rw [HHj.out]; simp
            gi_wp2
            have q0 := HR2.out.num HO.out ((r : Int) + 1)
            rw [← hW2]
            have er : ((r + 1 : Nat) : Int) = (r : Int) + 1 := by omega
            refine ⟨(HKo.out.trans (KeepsOthers.setCell _ _ _)).from _, (HR1.out.farP HMb.out rfl HKm.out).then (HR2.out.farP HNb.out rfl ((Kept.refl (Only bn) W2).setCell (p := ⟨bn, 0, none⟩) (fun _ => rfl) _)), ?_⟩
            show Kr _ (((pre ++ [_]).length : Nat) : Int) _
            rw [HPl.out, er]
            exact q0
      case done1 =>
        rintro D xs W hD hxs hR hK
        have hxl : xs.length = m := by
          have h1 := congrArg List.length hxs
          rw [List.length_map] at h1
          have h2 := HLP.out
          have h3 := HMm.out
          omega
        have HR1 : Hid (Kr ⟨p, who, ls, wa, wc, la, lc, lP, aP, cP, pP, lS, aS, cS, pS, lZ, aZ, cZ, pZ, bn⟩ (m : Int) W) := by
          have h : Kr ⟨p, who, ls, wa, wc, la, lc, lP, aP, cP, pP, lS, aS, cS, pS, lZ, aZ, cZ, pZ, bn⟩ (xs.length : Int) W := hR
          rw [hxl] at h
          exact h
        have HKD : Hid (W.heap[D]? = some (.deferred (some []))) := hK
        have hDl : D < W.heap.size := (Array.getElem?_eq_some_iff.1 hK).1
        have HDl : Hid (D < W.heap.size) := hDl
        have HDw : Hid (p.w.heap.size ≤ D) := by have := HB4.out; show _ ≤ _; omega
        have HBW : Hid (p.w.heap.size ≤ W.heap.size) := HR1.out.k.size
        clear hR hK hxs hxl hD hDl
        go_wp2
        refine (wpIn_wide (n := 8)).1 ?_
        refine' rf_H (F := Fence.wide) rfl (by omega) (gf := 29) (lb := #[.pointer (some ⟨lS, 0, none⟩)]) rfl trivial (enters_of Try.func29 (by kernel_rfl) rfl)
          (S.seq_mem Fence.wide (8 - 1) trivial rfl (by omega) lS cS m aS pS hmb (HLS.out.trans HMm.out) W HR1.out.sS) S.nb_t (S.nb_b HR1.out.sS (Nat.le_refl _)) (Below.refl _ _) (fun _ => rfl)
          (fun pre W => Kr ⟨p, who, ls, wa, wc, la, lc, lP, aP, cP, pP, lS, aS, cS, pS, lZ, aZ, cZ, pZ, bn⟩ ((m : Int) + (pre.length : Int)) W ∧ W.heap[D]? = some (.deferred (some [])))
          (fun _ _ _ => False) (OwnFrom.and (kr_own HBW.out _) (obj_own HDl.out)) (fun _ _ _ _ _ hs _ _ => hs) ⟨by simpa using HR1.out, HKD.out⟩ (fun W => Kept.refl _ W) _ ?assign2 ?body2 ?done2 ?stop2
        case assign2 =>
          intro l x W K hK
          gi_wp2
          exact hK
        case stop2 =>
          rintro D c pre W hD hpre h _
          exact h.elim
        case body2 =>
          rintro l pre ⟨⟨x1, x2⟩, hx⟩ V hl _ ⟨hR, hKd⟩ hlen
          obtain ⟨hm1, hs1⟩ := HSm.out _ hx
          have HD1 : Hid (decide (x1 ∈ who) = true) := decide_eq_true hm1
          have hs1 : x2.size = 1 := hs1
          obtain ⟨r, hr⟩ : ∃ r : Int, r = (m : Int) + (pre.length : Int) := ⟨_, rfl⟩
          have HPl : Hid ((m : Int) + ((pre ++ [(⟨(x1, x2), hx⟩ : { x : Int × ByteArray // x ∈ pS })]).length : Int) = r + 1) := by show _ = _; rw [hr]; simp; omega
          have hrm : r < 4000000000000 := by omega
          have hr0 : 0 ≤ r := by omega
          have HR2 : Hid (Kr ⟨p, who, ls, wa, wc, la, lc, lP, aP, cP, pP, lS, aS, cS, pS, lZ, aZ, cZ, pZ, bn⟩ r V) := by rw [hr]; exact hR
          have HKd : Hid (V.heap[D]? = some (.deferred (some []))) := hKd
          obtain ⟨_, _, c8, _, _, _⟩ := HR2.out.cells
          have HSt2 : Hid (Calls Try.prog 10 #[.slice wa who.length wc, .int .i64 x1] V (StandsOut V who x1)) := stands_any wa who.length wc who x1 V rfl (by omega) (HR2.out.ow.nums rfl)
          clear hR hKd hr hm1 hlen
          simp only
          gi_wp2_with (refine ⟨trivial, ?_⟩
                       gi_at_call 10
                       refine (CallsIn.inRound l (callsIn_wide.2 HSt2.out)).mono ?_
                       rintro e V3 ⟨rfl, hk3⟩
                       have HR3 : Hid (Kr ⟨p, who, ls, wa, wc, la, lc, lP, aP, cP, pP, lS, aS, cS, pS, lZ, aZ, cZ, pZ, bn⟩ r V3) := HR2.out.no hk3
                       have HK3 : Hid (Kept No V V3) := hk3
                       obtain ⟨_, _, _, _, dn, gn⟩ := HR3.out.cells
                       rw [HD1.out]
                       clear hk3 c8)
          have q0 := HR3.out.num HO.out (r + 1)
          have hD1 := (Array.getElem?_eq_some_iff.1 HKd.out).1
          have k3 : V3.heap[D]? = some (.deferred (some [])) := (HK3.out.block D hD1 (fun e => e)).trans HKd.out
          refine ⟨(kf_kept HK3.out (fun k e => e.elim)).trans ((KeepsOthers.setCell _ _ _).from _), (HK3.out.of_no : Kept (S.NB lS aS) V V3).then (HR3.out.farS HR3.out.n rfl ((Kept.refl (Only bn) V3).setCell (p := ⟨bn, 0, none⟩) (fun _ => rfl) _)), ?_, (KeepsOthers.setCell V3 ⟨bn, 0, none⟩ _).same D _ k3 rfl⟩
          show Kr _ ((m : Int) + (((pre ++ [_]).length : Nat) : Int)) _
          rw [HPl.out]
          exact q0
        case done2 =>
          rintro D2 xs W2 hD2 hxs ⟨hR, hKd⟩ hK
          have hxl : xs.length = m := by
            have h1 := congrArg List.length hxs
            rw [List.length_map] at h1
            have h2 := HLS.out
            have h3 := HMm.out
            omega
          have HR2 : Hid (Kr ⟨p, who, ls, wa, wc, la, lc, lP, aP, cP, pP, lS, aS, cS, pS, lZ, aZ, cZ, pZ, bn⟩ ((m : Int) + (m : Int)) W2) := by
            have h : Kr ⟨p, who, ls, wa, wc, la, lc, lP, aP, cP, pP, lS, aS, cS, pS, lZ, aZ, cZ, pZ, bn⟩ ((m : Int) + (xs.length : Int)) W2 := hR
            rw [hxl] at h
            exact h
          have HKD1 : Hid (W2.heap[D]? = some (.deferred (some []))) := hKd
          have HKD2 : Hid (W2.heap[D2]? = some (.deferred (some []))) := hK
          have hd1 : D < W2.heap.size := (Array.getElem?_eq_some_iff.1 hKd).1
          have hd2 : D2 < W2.heap.size := (Array.getElem?_eq_some_iff.1 hK).1
          have HDl2 : Hid (D < W2.heap.size ∧ D2 < W2.heap.size) := ⟨hd1, hd2⟩
          have HDw2 : Hid (p.w.heap.size ≤ D2 ∧ D < D2) := by have h1 := HBW.out; have h2 := HDl.out; exact ⟨by omega, by omega⟩
          have HBW2 : Hid (p.w.heap.size ≤ W2.heap.size) := HR2.out.k.size
          clear hR hK hKd hxs hxl hD2 hd1 hd2
          go_wp2
          refine (wpIn_wide (n := 8)).1 ?_
          refine' rf_H (F := Fence.wide) rfl (by omega) (gf := 30) (lb := #[.pointer (some ⟨lZ, 0, none⟩)]) rfl trivial (enters_of Try.func30 (by kernel_rfl) rfl)
            (Gt.Z.seq_mem Fence.wide (8 - 1) trivial rfl (by omega) lZ cZ m aZ pZ hmb (HLZ.out.trans HMm.out) W2 HR2.out.sZ) Gt.Z.nb_t (Gt.Z.nb_b HR2.out.sZ (Nat.le_refl _)) (Below.refl _ _) (fun _ => rfl)
            (fun pre W => Kr ⟨p, who, ls, wa, wc, la, lc, lP, aP, cP, pP, lS, aS, cS, pS, lZ, aZ, cZ, pZ, bn⟩ ((m : Int) + (m : Int) + (pre.length : Int)) W ∧ W.heap[D]? = some (.deferred (some [])) ∧ W.heap[D2]? = some (.deferred (some [])))
            (fun _ _ _ => False) (OwnFrom.and (kr_own HBW2.out _) (OwnFrom.and (obj_own HDl2.out.1) (obj_own HDl2.out.2))) (fun _ _ _ _ _ hs _ _ => hs) ⟨by simpa using HR2.out, HKD1.out, HKD2.out⟩ (fun W => Kept.refl _ W) _ ?assign3 ?body3 ?done3 ?stop3
          case assign3 =>
            intro l x W K hK
            gi_wp2
            exact hK
          case stop3 =>
            rintro D c pre W hD hpre h _
            exact h.elim
          case body3 =>
            rintro l pre ⟨⟨x1, x2⟩, hx⟩ V hl _ ⟨hR, hKd1, hKd2⟩ hlen
            have hm1 := HZm.out _ hx
            have hm1 : x2 = some ⟨p.ts, 0, none⟩ := hm1
            subst hm1
            obtain ⟨r, hr⟩ : ∃ r : Int, r = (m : Int) + (m : Int) + (pre.length : Int) := ⟨_, rfl⟩
            have HPl : Hid ((m : Int) + (m : Int) + ((pre ++ [(⟨(x1, some ⟨p.ts, 0, none⟩), hx⟩ : { x : Int × Option Addr // x ∈ pZ })]).length : Int) = r + 1) := by show _ = _; rw [hr]; simp; omega
            have hrm : r < 4000000000000 := by omega
            have hr0 : 0 ≤ r := by omega
            have HR3 : Hid (Kr ⟨p, who, ls, wa, wc, la, lc, lP, aP, cP, pP, lS, aS, cS, pS, lZ, aZ, cZ, pZ, bn⟩ r V) := by rw [hr]; exact hR
            have HKd : Hid (V.heap[D]? = some (.deferred (some [])) ∧ V.heap[D2]? = some (.deferred (some []))) := ⟨hKd1, hKd2⟩
            obtain ⟨_, c5, _, _, cn, fn⟩ := HR3.out.cells
            have hps := fun V : World => ptr_same V ⟨p.ts, 0, none⟩
            clear hR hKd1 hKd2 hr hlen
            simp only
            gi_wp2
            have q0 := HR3.out.num HO.out (r + 1)
            refine ⟨(KeepsOthers.setCell _ _ _).from _, HR3.out.farZ HR3.out.n rfl ((Kept.refl (Only bn) V).setCell (p := ⟨bn, 0, none⟩) (fun _ => rfl) _), ?_, (KeepsOthers.setCell V ⟨bn, 0, none⟩ _).same D _ HKd.out.1 rfl, (KeepsOthers.setCell V ⟨bn, 0, none⟩ _).same D2 _ HKd.out.2 rfl⟩
            show Kr _ ((m : Int) + (m : Int) + (((pre ++ [_]).length : Nat) : Int)) _
            rw [HPl.out]
            exact q0
          case done3 =>
            rintro D3 xs W3 hD3 hxs ⟨hR, hKd1, hKd2⟩ hK
            have hxl : xs.length = m := by
              have h1 := congrArg List.length hxs
              rw [List.length_map] at h1
              have h2 := HLZ.out
              have h3 := HMm.out
              omega
            obtain ⟨nn, hnn⟩ : ∃ nn : Int, nn = 3 * (who.length : Int) := ⟨_, rfl⟩
            have HR3 : Hid (Kr ⟨p, who, ls, wa, wc, la, lc, lP, aP, cP, pP, lS, aS, cS, pS, lZ, aZ, cZ, pZ, bn⟩ nn W3) := by
              have h : Kr ⟨p, who, ls, wa, wc, la, lc, lP, aP, cP, pP, lS, aS, cS, pS, lZ, aZ, cZ, pZ, bn⟩ ((m : Int) + (m : Int) + (xs.length : Int)) W3 := hR
              have e : (m : Int) + (m : Int) + (xs.length : Int) = nn := by have := HMm.out; omega
              rw [e] at h
              exact h
            have hne : (nn == 3 * (who.length : Int)) = true := by rw [hnn]; simp
            have HKa : Hid (W3.heap[D]? = some (.deferred (some []))) := hKd1
            have HKb : Hid (W3.heap[D2]? = some (.deferred (some []))) := hKd2
            have HKc : Hid (W3.heap[D3]? = some (.deferred (some []))) := hK
            have HDw3 : Hid (D < D3 ∧ D2 < D3) := ⟨by have := HDl2.out.1; omega, by have := HDl2.out.2; omega⟩
            obtain ⟨⟨c4, f4⟩, _, c8, _, cn, _⟩ := HR3.out.cells
            have hwb : (0 : Int) ≤ (who.length : Int) ∧ (who.length : Int) ≤ 1048576 := by omega
            clear hR hKd1 hKd2 hK hxs hxl hnn
            go_wp2
            have k6 : p.w.heap.size ≤ p.b4 := HD.out.o4.1
            have x6 : Box (W3.setCell ⟨p.b4, 0, none⟩ (.bool true)) p.b4 4 #[.bool true] := HR3.out.r.set 0 _
            have so : ∀ d : Nat, W3.heap[d]? = some (.deferred (some [])) → (W3.setCell ⟨p.b4, 0, none⟩ (.bool true)).heap[d]? = some (.deferred (some [])) := fun d h => (KeepsOthers.setCell W3 ⟨p.b4, 0, none⟩ (.bool true)).same d _ h rfl
            have t1 := so D3 HKc.out
            have t2 := so D2 HKb.out
            have t3 := so D HKa.out
            have kw : Kept No p.w (W3.setCell ⟨p.b4, 0, none⟩ (.bool true)) := HR3.out.k.setCell (p := ⟨p.b4, 0, none⟩) (fun e => absurd e (Nat.not_lt.2 k6)) _
            rw [HPW.out] at kw k6
            have hDw := HDw.out
            have hDw2 := HDw2.out
            have hDw3 := HDw3.out
            rw [HPW.out] at hDw hDw2
            obtain ⟨W4, hW4⟩ : ∃ W4, W4 = W3.setCell ⟨p.b4, 0, none⟩ (.bool true) := ⟨_, rfl⟩
            rw [← hW4] at x6 t1 t2 t3 kw
            first | rw [← hW4] | skip
            have t4 : (W4.putObj D3 (Obj.deferred none)).heap[D2]? = some (.deferred (some [])) := (World.putObj_heap_other (by omega)).trans t2
            have t5 : (W4.putObj D3 (Obj.deferred none)).heap[D]? = some (.deferred (some [])) := (World.putObj_heap_other (by omega)).trans t3
            have t6 : ((W4.putObj D3 (Obj.deferred none)).putObj D2 (Obj.deferred none)).heap[D]? = some (.deferred (some [])) := (World.putObj_heap_other (by omega)).trans t5
            have x7 := box_cells x6 (grownBy_putObj' W4 D3 (Obj.deferred none)) (fun r e => by cases e; exact ⟨_, t1, rfl⟩)
            have x8 := box_cells x7 (grownBy_putObj' (W4.putObj D3 (Obj.deferred none)) D2 (Obj.deferred none)) (fun r e => by cases e; exact ⟨_, t4, rfl⟩)
            have x9 := box_cells x8 (grownBy_putObj' ((W4.putObj D3 (Obj.deferred none)).putObj D2 (Obj.deferred none)) D (Obj.deferred none)) (fun r e => by cases e; exact ⟨_, t6, rfl⟩)
            have kz := ((kw.grown (grownBy_putObj' W4 D3 (Obj.deferred none)) (fun k e hk => by cases e; omega)).grown (grownBy_putObj' _ D2 (Obj.deferred none)) (fun k e hk => by cases e; omega)).grown (grownBy_putObj' _ D (Obj.deferred none)) (fun k e hk => by cases e; omega)
            have cz := x9.cell 0
            simp only [List.getElem?_toArray, List.getElem?_cons_zero] at cz
            refine ⟨by simp, .inl ⟨_, _, rfl, run_takeDeferred t1, ?_⟩⟩
            refine ⟨by simp, .inl ⟨_, _, rfl, run_takeDeferred t4, ?_⟩⟩
            refine ⟨by simp, .inl ⟨_, _, rfl, run_takeDeferred t6, ?_⟩⟩
            refine ⟨.bool true, ?_, rfl, kz.below (Nat.le_refl _) (fun k e => e.elim)⟩
            simp [results, Try.results3, go_sem, cz]
end Gt
end Go.Proofs.Ytmhjbkpojndhkab
