import Derived.Test.YtppkjebiiheljaaLd
namespace Go.Proofs.Ytppkjebiiheljaa
open Go.RowKit
set_option linter.unusedVariables false
set_option linter.unusedSimpArgs false

theorem Nums.dropAt {q : IntKind} {w : World} {g o : Nat} {xs : List Int} (h : Nums q w (some ⟨g, o, none⟩) xs) (k n : Nat) : Nums q w (some ⟨g, o + k, none⟩) ((xs.drop k).take n) := by
  intro i hi
  rw [List.length_take, List.length_drop] at hi
  obtain ⟨g', o', e, hc⟩ := h (k + i) (by omega)
  cases e
  refine ⟨g, o + k, rfl, ?_⟩
  rw [List.getElem?_take, if_pos (by omega), List.getElem?_drop, Nat.add_assoc]
  exact hc

section
variable {ops : Array Oper} {rest : List Oper} {o : Oper} {a : Act} {w : World} {Q : Exit → Act → World → Prop}
theorem wp_rem512 (hg : o.guard = none) (x : Operand) (ho : o.op = .binOp .rem 3 x (.const (.int .i64 512)) 3) (m : Nat) (hx : a.eval x = .int .i64 m)
    (h : wpList Try.prog ops Q rest (a.put o.dst (.int .i64 ((m % 512 : Nat) : Int))) w) : wpList Try.prog ops Q (o :: rest) a w := by
  refine wp_runTo hg _ w ?_ h
  have hc : a.eval (.const (.int .i64 512)) = .int .i64 512 := rfl
  have e : Int.tmod (m : Int) 512 = ((m % 512 : Nat) : Int) := by rw [Int.tmod_eq_emod_of_nonneg (by omega)]; omega
  simp [execOp, ho, hx, hc, eqGuard, binOp, Op.intDiv, asIntOf, e, Result.andThen]
theorem wp_quo512 (hg : o.guard = none) (x : Operand) (ho : o.op = .binOp .quo 3 x (.const (.int .i64 512)) 3) (m : Nat) (hx : a.eval x = .int .i64 m) (hm : m ≤ 4611686018427387904)
    (h : wpList Try.prog ops Q rest (a.put o.dst (.int .i64 ((m / 512 : Nat) : Int))) w) : wpList Try.prog ops Q (o :: rest) a w := by
  refine wp_runTo hg _ w ?_ h
  have hc : a.eval (.const (.int .i64 512)) = .int .i64 512 := rfl
  have e : Int.tdiv (m : Int) 512 = ((m / 512 : Nat) : Int) := by rw [Int.tdiv_eq_ediv_of_nonneg (by omega)]; omega
  have e2 : IntKind.i64.wrap ((m / 512 : Nat) : Int) = ((m / 512 : Nat) : Int) := by rw [IntKind.wrap_i64]; omega
  have hr : (binOp .quo 3 (.int .i64 m) (.int .i64 512)).run Try.prog w = .ok (.int .i64 ((m / 512 : Nat) : Int)) w := by
    simp only [binOp, Op.intDiv, asIntOf, Sem.run_bind, Sem.run_pure, Result.andThen_ok, e, e2]
    simp
  simp only [execOp, ho, hx, hc, eqGuard, Sem.run_bind, hr]
  simp [hr, Result.andThen]
theorem wp_sliceLH (hg : o.guard = none) (x lo hi : Operand) (ho : o.op = .slice 22 x (some lo) (some hi) none) (g of l cap P H : Nat) (hx : a.eval x = .slice (some ⟨g, of, none⟩) l cap) (hlo : a.eval lo = .int .i64 P) (hhi : a.eval hi = .int .i64 H) (h1 : P ≤ H) (h2 : H ≤ cap) (h3 : P < cap) (n c : Nat) (hn : H - P = n) (hcc : cap - P = c)
    (h : wpList Try.prog ops Q rest (a.put o.dst (.slice (some ⟨g, of + P, none⟩) n c)) w) : wpList Try.prog ops Q (o :: rest) a w := by
  subst hn hcc
  refine wp_runTo hg _ w ?_ h
  obtain ⟨i5, hi5, hs5⟩ : ∃ i5, Try.prog.info? 5 = some i5 ∧ i5.size = 1 := by
    obtain ⟨i0, hi, hz0, hz1, hz2⟩ := info_parts Try.info5
    exact ⟨i0, hi, hz1⟩
  have b1 : (Instr.sliceBound (.int .i64 H) cap .sliceAcap).run Try.prog w = .ok H w := by
    unfold Instr.sliceBound
    simp only [asIntOf, Sem.run_bind, Sem.run_pure, Result.andThen_ok]
    rw [if_pos ⟨by omega, by omega⟩]
    simp
  have b2 : (Instr.sliceBound (.int .i64 P) H .sliceB).run Try.prog w = .ok P w := by
    unfold Instr.sliceBound
    simp only [asIntOf, Sem.run_bind, Sem.run_pure, Result.andThen_ok]
    rw [if_pos ⟨by omega, by omega⟩]
    simp
  have hr : (Instr.sliceAt 22 (.slice (some ⟨g, of, none⟩) l cap) (some (.int .i64 P)) (some (.int .i64 H)) none).run Try.prog w = .ok (.slice (some ⟨g, of + P, none⟩) (H - P) (cap - P)) w := by
    simp only [Instr.sliceAt, Sem.run_bind, run_underlying Try.und22, Result.andThen_ok, Instr.slice, Instr.sliceBounds, Sem.run_pure, b1, b2, sizeOf, typeInfo, run_program, hi5, hs5, Option.isSome_none, Bool.false_eq_true, if_false, if_true]
    rw [if_neg (by omega)]
    simp [addr_add]
  simp [execOp, ho, hx, hlo, hhi, hr, Result.andThen]
end

set_option maxRecDepth 100000 in
set_option maxHeartbeats 2000000 in
theorem loadYes_any (g o cap N m : Nat) (img : List Int) (w : World) (hb : Nums .u8 w (some ⟨g, o, none⟩) img) (hl : img.length = N * 512) (hm : m = N * 512) (h1 : 1 ≤ N) (h2 : N ≤ 65536) (hc : m ≤ cap) (hc2 : cap ≤ 4611686018427387904) :
    Calls Try.prog 19 #[.slice (some ⟨g, o, none⟩) m cap] w fun e w' => e = .returned (.tuple #[.pointer (some ⟨w.heap.size + 1, 0, none⟩), .int .i64 0]) ∧ Dsk w' (w.heap.size + 1) w.heap.size (loadD img) ∧ Kept No w w' := by
  obtain ⟨d, hd⟩ : ∃ d, d = w.heap.size + 1 := ⟨_, rfl⟩
  obtain ⟨b, hbb⟩ : ∃ b, b = w.heap.size := ⟨_, rfl⟩
  have hN := newYes_any N w h1 h2
  rw [← hd, ← hbb] at hN ⊢
  have HN : Hid _ := hN
  have hLD : loadD img = ⟨N, secTo img N, none, false, 0, 0⟩ := by
    unfold loadD; rw [hl, Nat.mul_div_cancel _ (by omega)]
  rw [hLD]
  have HI : Hid (Nums .u8 w (some ⟨g, o, none⟩) img ∧ img.length = N * 512 ∧ N ≤ 65536 ∧ m = N * 512) := ⟨hb, hl, h2, hm⟩
  have HL : Hid (w.heap.size ≤ d ∧ w.heap.size ≤ b) := ⟨by omega, by omega⟩
  have hrem : m % 512 = 0 := by rw [hm]; exact Nat.mul_mod_left _ _
  have hquo : m / 512 = N := by rw [hm]; exact Nat.mul_div_cancel _ (by omega)
  have hm4 : m ≤ 4611686018427387904 := by omega
  have hN0 : ((N : Int) == 0) = false := by simp; omega
  have HM : Hid (m ≤ cap ∧ cap ≤ 4611686018427387904 ∧ m ≤ 4611686018427387904) := ⟨hc, hc2, hm4⟩
  clear hb hl hN hLD h1 h2 hd hbb hm hc hc2 hm4
  go_enter Try.func19, Try.ntmps19
  go_wp2_with (first
    | (refine wp_rem512 rfl _ rfl m rfl ?_; rw [hrem, show ((0 : Nat) : Int) = 0 from rfl]; clear hrem)
    | (refine wp_quo512 rfl _ rfl m rfl HM.out.2.2 ?_; rw [hquo]; clear hquo)
    | (go_at_call 10
       refine Calls.mono HN.out ?_
       rintro e w1 ⟨rfl, hd1, hk1⟩
       have HD1 : Hid (Dsk w1 d b ⟨N, fun _ => zs, none, false, 0, 0⟩) := hd1
       have HK1 : Hid (Kept No w w1) := hk1
       have c0 := hd1.cells.1
       clear hd1 hk1 HN))
  go_loopw [25] (fun i wr => ∃ k : Nat, i = .int .i64 k ∧ Hid (k ≤ N ∧ Dsk wr d b ⟨N, secTo img k, none, false, 0, 0⟩ ∧ Kept No w wr)) (fun i _ => N - (intOf i).toNat)
  case atStart => exact ⟨0, rfl, Nat.zero_le _, by rw [secTo_0]; exact HD1.out, HK1.out⟩
  case round =>
    obtain ⟨k, rfl, HR⟩ := hrel
    by_cases hk : (k : Int) < (N : Int)
    · have hk' : k < N := by omega
      obtain ⟨P, hP⟩ : ∃ P, P = k * 512 := ⟨_, rfl⟩
      have hmul := Nat.mul_le_mul_right 512 hk'
      rw [Nat.succ_mul] at hmul
      have HP : Hid (P = k * 512 ∧ P + 512 = (k + 1) * 512 ∧ k ≤ 65536 ∧ k + 1 ≤ 65536) := ⟨hP, by omega, by have := HI.out.2.2.1; omega, by have := HI.out.2.2.1; omega⟩
      have hp1 : Hid (P ≤ P + 512 ∧ P + 512 ≤ cap ∧ P < cap ∧ P + 512 - P = 512) := by have := HM.out.1; have := HI.out.2.2.2; exact ⟨by omega, by omega, by omega, by omega⟩
      have hsl := secOf_len HI.out.2.1 hk'
      have HSL : Hid ((secOf img k).length = 512) := hsl
      have hk6 : Hid ((k : Int) ≤ 65536) := by show (k : Int) ≤ 65536; have := HI.out.2.2.1; omega
      have hkk : (k : Int) < 65536 := by have := HI.out.2.2.1; omega
      clear hk' hP hmul hsl
      go_wp2_with (first
        | (refine wp_mul512 rfl (.tmp 31) rfl k P rfl HP.out.1.symm HP.out.2.2.1 ?_)
        | (refine wp_mul512 rfl (.tmp 34) rfl (k + 1) (P + 512) rfl HP.out.2.1.symm HP.out.2.2.2 ?_)
        | (refine wp_sliceLH rfl (.tmp 30) (.tmp 32) (.tmp 35) rfl g o m cap P (P + 512) rfl rfl rfl hp1.out.1 hp1.out.2.1 hp1.out.2.2.1 512 (cap - P) hp1.out.2.2.2 rfl ?_)
        | (refine wp_toArr rfl _ rfl (some ⟨g, o + P, none⟩) (cap - P) rfl ?_)
        | (refine wp_loadN rfl _ rfl g (o + P) (secOf img k) rfl HSL.out ?hnn ?_
           case hnn => have := (HI.out.1.no HR.out.2.2).dropAt (k * 512) 512; rw [← HP.out.1] at this; unfold secOf; rw [← HP.out.1]; exact this)
        | (go_at_call 32
           refine Calls.mono (put_any d b k (secOf img k) ⟨N, secTo img k, none, false, 0, 0⟩ _ HR.out.2.1 HSL.out) ?_
           rintro e w2 ⟨rfl, hd2, hk2⟩
           rw [show ({ (⟨N, secTo img k, none, false, 0, 0⟩ : DS) with c := updC (secTo img k) k (secOf img k) } : DS) = ⟨N, secTo img (k + 1), none, false, 0, 0⟩ by rw [secTo_step]] at hd2
           have HD2 : Hid (Dsk w2 d b ⟨N, secTo img (k + 1), none, false, 0, 0⟩) := hd2
           have HK2 : Hid (Kept No w w2) := HR.out.2.2.trans hk2 (fun _ e => e) (fun i hi e => by have : i = b := e; have := HL.out; omega)
           clear hd2 hk2))
      go_roundw
      case rel => exact ⟨k + 1, by go_num, by omega, HD2.out, HK2.out⟩
      case measure => simp [intOf]; omega
    · have hk' : k = N := by have := HR.out.1; omega
      subst hk'
      go_wp2
      go_ret2
      exact ⟨rfl, HR.out.2.1, HR.out.2.2⟩

end Go.Proofs.Ytppkjebiiheljaa
