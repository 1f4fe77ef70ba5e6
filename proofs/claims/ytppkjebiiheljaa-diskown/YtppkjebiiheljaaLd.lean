import Derived.Test.YtppkjebiiheljaaAp
namespace Go.Proofs.Ytppkjebiiheljaa
open Go.RowKit
set_option linter.unusedVariables false
set_option linter.unusedSimpArgs false

theorem run_loadN {w : World} {g o : Nat} {s : List Int} (hn : Nums .u8 w (some ⟨g, o, none⟩) s) (hl : s.length = 512) : (loadVar 72 ⟨g, o, none⟩).run Try.prog w = .ok (secV s) w := by
  obtain ⟨i0, hi, hz0, hz1, hz2⟩ := info_parts Try.info72
  have h1 := run_loadCells_list (P := Try.prog) (w := w) ⟨g, o, none⟩ (s.map (Value.int .u8)) (fun j v hv => by
    obtain ⟨ad, e, hc⟩ := hn.src (by rw [List.length_map, hl]; omega)
    cases e
    exact hc j v hv)
  rw [List.length_map, hl] at h1
  simp only [loadVar, isAgg, run_underlying Try.und72, Sem.run_bind, Result.andThen_ok, Sem.run_pure, if_true, sizeOf, typeInfo, hi, hz1]
  simp only [run_program, Result.andThen_ok, hi, Sem.run_pure, hz1, h1]
  rfl

section
variable {ops : Array Oper} {rest : List Oper} {o : Oper} {a : Act} {w : World} {Q : Exit → Act → World → Prop}
theorem wp_loadN (hg : o.guard = none) (x : Operand) (ho : o.op = .load 72 x) (g of : Nat) (s : List Int) (hx : a.eval x = .pointer (some ⟨g, of, none⟩)) (hl : s.length = 512) (hn : Nums .u8 w (some ⟨g, of, none⟩) s)
    (h : wpList Try.prog ops Q rest (a.put o.dst (secV s)) w) : wpList Try.prog ops Q (o :: rest) a w := by
  refine wp_runTo hg _ w ?_ h
  simp only [execOp, ho, hx, Instr.loadAt, Instr.sureAddr, Sem.run_bind, Sem.run_pure, Result.andThen_ok, run_loadN hn hl]
theorem wp_toArr (hg : o.guard = none) (x : Operand) (ho : o.op = .sliceToArrayPointer 72 x) (ad : Option Addr) (c : Nat) (hx : a.eval x = .slice ad 512 c)
    (h : wpList Try.prog ops Q rest (a.put o.dst (.pointer ad)) w) : wpList Try.prog ops Q (o :: rest) a w := by
  refine wp_runTo hg _ w ?_ h
  simp [execOp, ho, hx, Instr.arrayAt, run_underlying Try.und72, Result.andThen]
end

/-- A sector of an image. -/
def secOf (img : List Int) (n : Nat) : List Int := (img.drop (n * 512)).take 512
theorem secOf_len {img : List Int} {N n : Nat} (hl : img.length = N * 512) (hn : n < N) : (secOf img n).length = 512 := by
  unfold secOf
  rw [List.length_take, List.length_drop, hl]
  have := Nat.mul_le_mul_right 512 hn
  rw [Nat.succ_mul] at this
  omega
/-- The first k sectors of an image. -/
def secTo (img : List Int) (k : Nat) : Nat → List Int := fun m => if m < k then secOf img m else zs
theorem secTo_0 (img : List Int) : secTo img 0 = fun _ => zs := by funext m; simp [secTo]
theorem secTo_step (img : List Int) (k : Nat) : updC (secTo img k) k (secOf img k) = secTo img (k + 1) := by
  funext m
  unfold updC secTo
  by_cases e : m = k
  · subst e; simp
  · rw [if_neg e]
    by_cases h : m < k
    · rw [if_pos h, if_pos (by omega)]
    · rw [if_neg h, if_neg (by omega)]
theorem flat_secTo (img : List Int) : ∀ N, img.length = N * 512 → flatN N (secTo img N) = img := by
  have key : ∀ k N, k ≤ N → img.length = N * 512 → flatN k (secTo img N) = img.take (k * 512) := by
    intro k
    induction k with
    | zero => intro N _ _; simp [flatN]
    | succ k ih =>
      intro N hk hl
      rw [flatN, ih N (by omega) hl]
      have : secTo img N k = (img.drop (k * 512)).take 512 := by unfold secTo secOf; rw [if_pos (by omega)]
      rw [this, ← List.take_add, Nat.succ_mul]
  intro N hl
  rw [key N N (Nat.le_refl _) hl, ← hl, List.take_length]
def loadD (img : List Int) : DS := ⟨img.length / 512, secTo img (img.length / 512), none, false, 0, 0⟩
theorem loadD_ok {img : List Int} {N : Nat} (hl : img.length = N * 512) (h1 : 1 ≤ N) (h2 : N ≤ 65536) (h8 : U8 img) : Ok (loadD img) ∧ (loadD img).N = N ∧ flatN (loadD img).N (loadD img).c = img := by
  have hN : img.length / 512 = N := by rw [hl, Nat.mul_div_cancel _ (by omega)]
  unfold loadD
  rw [hN]
  refine ⟨⟨⟨h1, h2, fun m => ?_, fun m hm => ?_⟩, fun m => ?_, Int.le_refl _, Int.le_refl _, by show (0 : Int) < _; omega, by show (0 : Int) < _; omega, fun _ _ e => by cases e⟩, rfl, flat_secTo img N hl⟩
  · show (secTo img N m).length = 512
    unfold secTo
    split
    · rename_i h; exact secOf_len hl h
    · exact zs_len
  · show secTo img N m = zs
    unfold secTo
    rw [if_neg (by have : N ≤ m := hm; omega)]
  · show U8 (secTo img N m)
    unfold secTo secOf
    split
    · exact (h8.drop _).take _
    · exact zs_u8

end Go.Proofs.Ytppkjebiiheljaa
