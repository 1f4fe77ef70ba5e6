import Derived.Test.YtpapbleabjpbfabFh
import Derived.Test.YtpapbleabjpbfabFj
import Derived.Test.YtpapbleabjpbfabFk
import Derived.Test.YtpapbleabjpbfabFl
import Derived.Sort.Walk13
import Derived.Sort.AssemblyPlain
import Derived.Sort.WalkB2
import Derived.Sort.WalkB12
import Derived.Deep.LoopGhost
namespace Go.Proofs.Ytpapbleabjpbfab
open Go.RowKit
set_option linter.unusedVariables false
set_option linter.unusedSimpArgs false


/-- The points stand at the front of block g as d, and nothing else that stood is changed. -/
def SW (w0 : World) (g : Nat) (sp : List Value) (d : Array (Int × Int)) (w : World) : Prop := Pts w g d sp ∧ Kept (Only g) w0 w

section
variable {w0 w : World} {g n cap a b : Nat} {sp : List Value} {d : Array (Int × Int)}
open Go.Sort
theorem SW.on {w' : World} {d' : Array (Int × Int)} (S : SW w0 g sp d w) (hp : Pts w' g d' sp) (hk : Kept (Only g) w w') : SW w0 g sp d' w' := ⟨hp, S.2.then hk⟩
theorem ins_w (S : SW w0 g sp d w) (hn : d.size = n) (hab : a ≤ b) (hb : b ≤ n) (hm : n ≤ 4096) :
    Calls Try.prog 69 #[.slice (some ⟨g, 0, none⟩) n cap, .int .i64 a, .int .i64 b, cmpV] w fun e w' => e = .returned (.tuple #[]) ∧ SW w0 g sp (insertionSort ltP d a b) w' :=
  (insertionG_any g cap a b n d sp w hn hab hb hm S.1).mono fun _ _ ⟨he, hp, hk⟩ => ⟨he, S.on hp hk⟩
theorem heap_w (S : SW w0 g sp d w) (hn : d.size = n) (hab : a + 2 ≤ b) (hb : b ≤ n) (hm : n ≤ 4096) :
    Calls Try.prog 70 #[.slice (some ⟨g, 0, none⟩) n cap, .int .i64 a, .int .i64 b, cmpV] w fun e w' => e = .returned (.tuple #[]) ∧ SW w0 g sp (heapSort ltP d a b) w' :=
  (heapSort_any g cap a (b - a) b n d sp w hn (by omega) (by omega) hb hm S.1).mono fun _ _ ⟨he, hp, hk⟩ => ⟨he, S.on hp hk⟩
theorem break_w (S : SW w0 g sp d w) (hn : d.size = n) (hab : a + 8 ≤ b) (hb : b ≤ n) (hm : n ≤ 4096) :
    Calls Try.prog 71 #[.slice (some ⟨g, 0, none⟩) n cap, .int .i64 a, .int .i64 b, cmpV] w fun e w' => e = .returned (.tuple #[]) ∧ SW w0 g sp (breakPatterns d a b) w' :=
  (breakPatterns_any g cap a (b - a) b n d sp w hn (by omega) (by omega) hb hm S.1).mono fun _ _ ⟨he, hp, hk⟩ => ⟨he, S.on hp hk⟩
theorem hintN_code (h : Hint) : ((hintN h : Nat) : Int) = hintCode h := by cases h <;> rfl
theorem pivot_w (S : SW w0 g sp d w) (hn : d.size = n) (hab : a + 13 ≤ b) (hb : b ≤ n) (hm : n ≤ 4096) :
    Calls Try.prog 72 #[.slice (some ⟨g, 0, none⟩) n cap, .int .i64 a, .int .i64 b, cmpV] w fun e w' => e = .returned (.tuple #[.int .i64 ((choosePivot ltP d a b).1 : Nat), .int .i64 (hintCode (choosePivot ltP d a b).2)]) ∧ SW w0 g sp d w' := by
  obtain ⟨l, rfl⟩ : ∃ l, b = a + l := ⟨b - a, by omega⟩
  refine (choosePivot_any g cap a l n d sp w hn (by omega) hb hm S.1).mono ?_
  rintro e w' ⟨he, hp, hk⟩
  rw [hintN_code] at he
  exact ⟨he, S.on hp hk.of_no⟩
theorem reverse_w (S : SW w0 g sp d w) (hn : d.size = n) (hab : a < b) (hb : b ≤ n) (hm : n ≤ 4096) :
    Calls Try.prog 73 #[.slice (some ⟨g, 0, none⟩) n cap, .int .i64 a, .int .i64 b, cmpV] w fun e w' => e = .returned (.tuple #[]) ∧ SW w0 g sp (reverseRange d a b) w' :=
  (reverse_any g cap a b n d sp w hn hab hb hm S.1).mono fun _ _ ⟨he, hp, hk⟩ => ⟨he, S.on hp hk⟩
theorem partial_w (S : SW w0 g sp d w) (hn : d.size = n) (hab : a < b) (hb : b ≤ n) (hm : n ≤ 4096) :
    Calls Try.prog 74 #[.slice (some ⟨g, 0, none⟩) n cap, .int .i64 a, .int .i64 b, cmpV] w fun e w' => e = .returned (.bool (partialInsertionSort ltP d a b).2) ∧ SW w0 g sp (partialInsertionSort ltP d a b).1 w' :=
  (partialIns_any g cap a b n d sp w hn hab hb hm S.1).mono fun _ _ ⟨he, hp, hk⟩ => ⟨he, S.on hp hk⟩
theorem parteq_w {q : Nat} (S : SW w0 g sp d w) (hn : d.size = n) (haq : a ≤ q) (hqb : q < b) (hb : b ≤ n) (hm : n ≤ 4096) :
    Calls Try.prog 75 #[.slice (some ⟨g, 0, none⟩) n cap, .int .i64 a, .int .i64 b, .int .i64 q, cmpV] w fun e w' => e = .returned (.int .i64 ((partitionEqual ltP d a b q).1 : Nat)) ∧ SW w0 g sp (partitionEqual ltP d a b q).2 w' :=
  (partitionEqual_any g cap a b q n d sp w hn (by omega) hb haq hqb hm S.1).mono fun _ _ ⟨he, hp, hk⟩ => ⟨he, S.on hp hk⟩
theorem part_w {q : Nat} (S : SW w0 g sp d w) (hn : d.size = n) (haq : a ≤ q) (hqb : q < b) (hb : b ≤ n) (hm : n ≤ 4096) :
    Calls Try.prog 76 #[.slice (some ⟨g, 0, none⟩) n cap, .int .i64 a, .int .i64 b, .int .i64 q, cmpV] w fun e w' => e = .returned (.tuple #[.int .i64 ((partition ltP d a b q).1 : Nat), .bool (partition ltP d a b q).2.1]) ∧ SW w0 g sp (partition ltP d a b q).2.2 w' :=
  (partition_any g cap a b q n d sp w hn (by omega) hb haq hqb hm S.1).mono fun _ _ ⟨he, hp, hk⟩ => ⟨he, S.on hp hk⟩
end

end Go.Proofs.Ytpapbleabjpbfab
