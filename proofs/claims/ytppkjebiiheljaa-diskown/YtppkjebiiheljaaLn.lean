import Derived.Test.YtppkjebiiheljaaDm
import Derived.Laws.IdiomStrings
import Derived.Laws.BytesString
namespace Go.Proofs.Ytppkjebiiheljaa
open Go.RowKit
set_option linter.unusedVariables false
set_option linter.unusedSimpArgs false

def U8 (zs : List Int) : Prop := ∀ i : Nat, 0 ≤ zs[i]?.getD 0 ∧ zs[i]?.getD 0 ≤ 255
def strOf (ys : List Int) : ByteArray := ⟨(ys.map (fun n => UInt8.ofNat n.toNat)).toArray⟩
def numsOf (s : ByteArray) : List Int := s.data.toList.map (fun b => (b.toNat : Int))
theorem numsOf_strOf {ys : List Int} (h : U8 ys) : numsOf (strOf ys) = ys := by
  apply List.ext_getElem
  · simp [numsOf, strOf]
  · intro i h1 h2
    have := h i
    rw [List.getElem?_eq_getElem h2] at this
    simp only [Option.getD_some] at this
    simp [numsOf, strOf]
    omega
theorem U8.iff {zs : List Int} : U8 zs ↔ ∀ x ∈ zs, 0 ≤ x ∧ x ≤ 255 := by
  constructor
  · intro h x hx
    obtain ⟨i, hi⟩ := List.mem_iff_getElem?.1 hx
    have := h i
    rwa [hi] at this
  · intro h i
    cases hi : zs[i]? with
    | none => simp
    | some x => exact h x (List.mem_of_getElem? hi)
theorem U8.append {xs ys : List Int} (h : U8 xs) (k : U8 ys) : U8 (xs ++ ys) := by
  rw [U8.iff] at *
  intro x hx
  rcases List.mem_append.1 hx with e | e
  · exact h x e
  · exact k x e
theorem U8.take {xs : List Int} (h : U8 xs) (n : Nat) : U8 (xs.take n) := by
  rw [U8.iff] at *
  exact fun x hx => h x (List.mem_of_mem_take hx)
theorem U8.drop {xs : List Int} (h : U8 xs) (n : Nat) : U8 (xs.drop n) := by
  rw [U8.iff] at *
  exact fun x hx => h x (List.mem_of_mem_drop hx)
theorem U8.rep {n : Nat} {r : Int} (h : 0 ≤ r ∧ r ≤ 255) : U8 (List.replicate n r) := by
  rw [U8.iff]
  intro x hx
  rw [(List.mem_replicate.1 hx).2]; exact h
theorem zs_u8 : U8 zs := U8.rep ⟨by omega, by omega⟩
theorem strOf_inj {xs ys : List Int} (hx : U8 xs) (hy : U8 ys) : (strOf xs = strOf ys) ↔ xs = ys :=
  ⟨fun h => by rw [← numsOf_strOf hx, h, numsOf_strOf hy], fun h => by rw [h]⟩

theorem Try.und9 : Try.prog.underlying 9 = some .string := by kernel_rfl

theorem run_str {w : World} {xa : Option Addr} {xn xc : Nat} {ys : List Int} (hb : Nums .u8 w xa ys) (h8 : U8 ys) (hlen : ys.length = xn) :
    (convert 22 9 (.slice xa xn xc)).run Try.prog w = .ok (.string (strOf ys)) w := by
  subst hlen
  cases xa with
  | none =>
    have : ys = [] := by
      cases ys with
      | nil => rfl
      | cons y r => obtain ⟨b, off, e, _⟩ := hb 0 (by simp); cases e
    subst this
    rw [run_convert_bytes_string w 22 9 5 none _ xc Try.und22 Try.und5 Try.und9]
    rfl
  | some ad =>
    have := run_convert_bytes_back (P := Try.prog) w 22 9 5 ad xc (ys.map (fun n => UInt8.ofNat n.toNat)) Try.und22 Try.und5 Try.und9 (fun j hj => by
      simp only [List.length_map] at hj
      obtain ⟨b, off, e, hc⟩ := hb j hj
      cases e
      have := h8 j
      rw [List.getElem?_eq_getElem hj] at this hc
      simp only [Option.getD_some] at this hc
      rw [addr_add, hc]
      simp
      omega)
    rw [List.length_map] at this
    exact this

section
variable {ops : Array Oper} {rest : List Oper} {o : Oper} {a : Act} {w : World} {Q : Exit → Act → World → Prop}
theorem wp_conv (hg : o.guard = none) (x : Operand) (ho : o.op = .convert 22 9 x) (xa : Option Addr) (xn xc : Nat) (ys : List Int) (hx : a.eval x = .slice xa xn xc) (hb : Nums .u8 w xa ys) (h8 : U8 ys) (hl : ys.length = xn)
    (h : wpList Try.prog ops Q rest (a.put o.dst (.string (strOf ys))) w) : wpList Try.prog ops Q (o :: rest) a w := by
  refine wp_runTo hg _ w ?_ h
  simp [execOp, ho, hx, run_str hb h8 hl, Result.andThen]
theorem wp_eqStr (hg : o.guard = none) (x y : Operand) (ho : o.op = .binOp .eql 9 x y 9) (xs ys : List Int) (hx : a.eval x = .string (strOf xs)) (hy : a.eval y = .string (strOf ys)) (h8 : U8 xs) (k8 : U8 ys)
    (h : wpList Try.prog ops Q rest (a.put o.dst (.bool (decide (xs = ys)))) w) : wpList Try.prog ops Q (o :: rest) a w := by
  refine wp_runTo hg _ w ?_ h
  have hb : (strOf xs == strOf ys) = decide (xs = ys) := by
    rw [Bool.eq_iff_iff, MapKept.bytes_beq, strOf_inj h8 k8]
    simp
  have hr : (Op.equalIn 10000 9 (.string (strOf xs)) (.string (strOf ys))).run Try.prog w = .ok (decide (xs = ys)) w := by
    unfold Op.equalIn
    simp only [Sem.run_bind, run_underlying Try.und9, Result.andThen_ok, hb, Sem.run_pure]
  have hr2 : (binOp .eql 9 (.string (strOf xs)) (.string (strOf ys))).run Try.prog w = .ok (.bool (decide (xs = ys))) w := by
    simp [binOp, Op.stringOp]
    rw [← beq_toListBytes]
    exact hb
  simp only [execOp, ho, hx, hy, eqGuard, Sem.run_bind]
  simp [hr2, Result.andThen]
end

theorem same_any (a b : Option Addr) (ma mb ca cb : Nat) (xs ys : List Int) (w : World) (hx : Nums .u8 w a xs) (hy : Nums .u8 w b ys) (h8 : U8 xs) (k8 : U8 ys) (hxn : xs.length = ma) (hyn : ys.length = mb) :
    Calls Try.prog 14 #[.slice a ma ca, .slice b mb cb] w fun e w' => e = .returned (.bool (decide (xs = ys))) ∧ w' = w := by
  have HX : Hid (Nums .u8 w a xs) := hx
  have HY : Hid (Nums .u8 w b ys) := hy
  have H8 : Hid (U8 xs) := h8
  have K8 : Hid (U8 ys) := k8
  have HL : Hid (xs.length = ma ∧ ys.length = mb) := ⟨hxn, hyn⟩
  obtain ⟨z, hz⟩ : ∃ z, z = decide (xs = ys) := ⟨_, rfl⟩
  rw [← hz]
  clear hx hy h8 k8 hxn hyn
  go_enter Try.func14, Try.ntmps14
  go_wp2_with (first
    | (refine wp_conv rfl (.tmp 5) rfl a ma ca xs rfl HX.out H8.out HL.out.1 ?_)
    | (refine wp_conv rfl (.tmp 7) rfl b mb cb ys rfl HY.out K8.out HL.out.2 ?_)
    | (refine wp_eqStr rfl _ _ rfl xs ys rfl rfl H8.out K8.out ?_; rw [← hz]; clear hz))
  all_goals go_ret
  all_goals exact ⟨rfl, rfl⟩

/-- A number of 0 to n - 1. -/
def roundOf (x : Int) (n : Nat) : Nat := if x.tmod n < 0 then (x.tmod n + n).toNat else (x.tmod n).toNat
theorem roundOf_lt (x : Int) (n : Nat) (h : 0 < n) : roundOf x n < n := by
  have h1 : x.tmod n < n := Int.tmod_lt_of_pos x (by omega)
  unfold roundOf
  split <;> omega

theorem round_any (x : Int) (n : Nat) (w : World) (h : 0 < n) (hn : n ≤ 9223372036854775807) :
    Calls Try.prog 13 #[.int .i64 x, .int .i64 n] w fun e w' => e = .returned (.int .i64 (roundOf x n)) ∧ w' = w := by
  have h1 : x.tmod n < n := Int.tmod_lt_of_pos x (by omega)
  have h2 : -(n : Int) < x.tmod n := by have := Int.tmod_lt_of_pos (-x) (b := (n : Int)) (by omega); rw [Int.neg_tmod] at this; omega
  go_enter Try.func13, Try.ntmps13
  go_wp2
  all_goals go_ret
  · exact ⟨ret_int (by unfold roundOf; rw [if_pos ‹_›]; omega), rfl⟩
  · exact ⟨ret_int (by unfold roundOf; rw [if_neg (by omega)]; omega), rfl⟩

end Go.Proofs.Ytppkjebiiheljaa
