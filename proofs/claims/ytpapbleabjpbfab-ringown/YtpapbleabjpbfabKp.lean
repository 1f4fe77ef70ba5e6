import Derived.Test.YtpapbleabjpbfabSs
import Derived.Test.YtpapbleabjpbfabBu
import Derived.Test.YtpapbleabjpbfabGr
namespace Go.Proofs.Ytpapbleabjpbfab
open Go.RowKit
set_option linter.unusedVariables false

def ltI (x y : Int) : Bool := decide (x < y)
theorem swoI : Sort.SWO ltI where
  irrefl x := by simp [ltI]
  trans x y z h1 h2 := by simp [ltI] at *; omega
  ntrans x y z h1 h2 := by simp [ltI] at *; omega

theorem insI_sorts (d : Array Int) : (Sort.insertionSort ltI d 0 d.size).toList = sortI d.toList := by
  have h := Sort.insertionSort_holds (lt := ltI) swoI d 0 d.size (Nat.zero_le _) (Nat.le_refl _)
  rw [Sort.sorted_unique_holds swoI (fun x y h1 h2 => by simp [ltI] at h1 h2; omega) d _ h.1 h.2]
  unfold sortI
  congr 1
  funext x y
  simp only [ltI]
  by_cases e : x ≤ y
  · rw [decide_eq_true e, decide_eq_false (by omega)]; rfl
  · rw [decide_eq_false e, decide_eq_true (by omega)]; rfl

theorem insOuterI_step {lt : Int → Int → Bool} {a b i : Nat} {d : Array Int} (h : i < b) : Sort.insOuter lt a b i d = Sort.insOuter lt a b (i + 1) (Sort.insInner lt a i d) := by
  rw [Sort.insOuter, if_pos h]
theorem insOuterI_end {lt : Int → Int → Bool} {a b : Nat} {d : Array Int} : Sort.insOuter lt a b b d = d := by
  rw [Sort.insOuter, if_neg (by omega)]
theorem insOuter_end {lt : Int × Int → Int × Int → Bool} {a b : Nat} {d : Array (Int × Int)} : Sort.insOuter lt a b b d = d := by
  rw [Sort.insOuter, if_neg (by omega)]

theorem known_srv : sortI [30, 10, 20] = [10, 20, 30] := by
  have h := insI_sorts #[30, 10, 20]
  rw [Sort.insertionSort] at h
  have e : Sort.insOuter ltI 0 3 1 #[30, 10, 20] = #[10, 20, 30] := by
    rw [insOuterI_step (by decide), insOuterI_step (by decide), insOuterI_end]
    decide
  exact h.symm.trans (congrArg Array.toList e)

def knownP : List (Int × Int) := [(396021870, 10), (1962684303, 10), (2152846576, 20), (2347035514, 30), (3719509009, 20), (3913697947, 30)]

theorem known_made : ptsOf [10, 20, 30] 2 = [(1962684303, 10), (396021870, 10), (3719509009, 20), (2152846576, 20), (3913697947, 30), (2347035514, 30)] := by kernel_rfl

end Go.Proofs.Ytpapbleabjpbfab
