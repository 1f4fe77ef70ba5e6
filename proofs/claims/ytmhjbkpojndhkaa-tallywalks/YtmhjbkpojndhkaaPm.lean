import Derived.Test.YtmhjbkpojndhkaaOc
namespace Go.Proofs.Ytmhjbkpojndhkaa
open Go.RowKit
set_option linter.unusedVariables false
set_option linter.unusedSimpArgs false

theorem uq_app (l : List Int) : ∀ acc : List Int, (acc ++ l).Nodup → l.foldl (fun acc n => if n ∈ acc then acc else acc ++ [n]) acc = acc ++ l := by
  induction l with
  | nil => intro acc _; simp
  | cons n l ih =>
    intro acc h
    have hn : n ∉ acc := by
      intro hm
      rw [List.nodup_append] at h
      exact h.2.2 n hm n (by simp) rfl
    rw [List.foldl_cons, if_neg hn, ih (acc ++ [n]) (by simpa using h)]
    simp
theorem uq_id {l : List Int} (h : l.Nodup) : uq l = l := by have := uq_app l [] (by simpa using h); simpa [uq] using this
theorem tNew_uq (l : List Int) (need : Int) : tNew (uq l) need = ⟨uq l, need, fun _ => none⟩ := by unfold tNew; rw [uq_id (uq_nodup l)]

theorem take_g (x : TS) (s v : Int) : (takeS x s v).g = x.g := by unfold takeS; split <;> rfl
theorem take_need (x : TS) (s v : Int) : (takeS x s v).need = x.need := by unfold takeS; split <;> rfl
theorem mayB_true {x : TS} {s : Int} (h : mayB x s = true) : s ∈ x.g ∧ x.v s = none ∧ enB x = false := by
  unfold mayB at h
  simp only [Bool.and_eq_true, decide_eq_true_eq, Bool.not_eq_true', Option.isNone_iff_eq_none] at h
  exact ⟨h.1.1, h.1.2, h.2⟩
theorem take_cnt {x : TS} {s v : Int} (hn : x.g.Nodup) : cnt (takeS x s v) ≤ cnt x + 1 := by
  unfold takeS
  split
  · rename_i h
    obtain ⟨h1, h2, _⟩ := mayB_true h
    rw [cnt_put hn h1 h2]
    exact Nat.le_refl _
  · omega
theorem takeB_true {x : TS} {s v : Int} (hn : x.g.Nodup) (h : takeB x s = true) : enB x = false ∧ enB (takeS x s v) = true := by
  unfold takeB at h
  simp only [Bool.and_eq_true, decide_eq_true_eq] at h
  obtain ⟨h1, h2, h3⟩ := mayB_true h.1
  refine ⟨h3, ?_⟩
  unfold enB takeS
  rw [if_pos h.1, cnt_put hn h1 h2]
  exact decide_eq_true (by simp only [putS]; omega)
theorem gm_len (x : TS) : (gotL x).length + (missL x).length = x.g.length := by
  rw [gotL_len]
  unfold cnt missL
  induction x.g with
  | nil => rfl
  | cons n l ih =>
    rw [List.countP_cons, List.filter_cons]
    cases x.v n <;> simp <;> omega
theorem got_fst (x : TS) : (gotL x).map Prod.fst = x.g.filter (fun n => (x.v n).isSome) := by
  unfold gotL
  induction x.g with
  | nil => rfl
  | cons n l ih =>
    cases h : x.v n <;> simp [h, ih]
theorem mem_got {x : TS} {n : Int} : n ∈ (gotL x).map Prod.fst ↔ n ∈ x.g ∧ (x.v n).isSome = true := by
  rw [got_fst, List.mem_filter]
theorem mem_miss {x : TS} {n : Int} : n ∈ missL x ↔ n ∈ x.g ∧ (x.v n).isSome = false := by
  unfold missL
  rw [List.mem_filter]
  cases x.v n <;> simp
theorem dec_got {x : TS} {n : Int} (h : n ∈ x.g) : decide (n ∈ (gotL x).map Prod.fst) = (x.v n).isSome := by
  rw [Bool.eq_iff_iff, decide_eq_true_eq, mem_got]
  simp [h]
theorem dec_miss {x : TS} {n : Int} (h : n ∈ x.g) : decide (n ∈ missL x) = !(x.v n).isSome := by
  rw [Bool.eq_iff_iff, decide_eq_true_eq, mem_miss]
  simp [h]

def shK (X Y : TS) (k : Nat) : Nat := (X.g.take k).countP (fun n => (X.v n).isSome && (Y.v n).isSome)
theorem shK_succ {X Y : TS} {k : Nat} {z : Int} (ht : X.g.take (k + 1) = X.g.take k ++ [z]) : shK X Y (k + 1) = shK X Y k + (if ((X.v z).isSome && (Y.v z).isSome) = true then 1 else 0) := by
  unfold shK
  rw [ht, List.countP_append, List.countP_cons]
  simp
theorem shK_le (X Y : TS) (k : Nat) : shK X Y k ≤ k := by
  unfold shK
  exact Nat.le_trans List.countP_le_length (by rw [List.length_take]; omega)
theorem meet_count (p q : Int → Bool) (l : List Int) : l.countP p + l.countP q ≤ l.length + l.countP (fun n => p n && q n) := by
  induction l with
  | nil => simp
  | cons n l ih =>
    rw [List.countP_cons, List.countP_cons, List.countP_cons, List.length_cons]
    cases p n <;> cases q n <;> simp <;> omega
theorem meet {X Y : TS} (hg : Y.g = X.g) {m : Nat} (hm : X.g.length = m) (hX : X.need = (m : Int) / 2 + 1) (hY : Y.need = (m : Int) / 2 + 1) (eX : enB X = true) (eY : enB Y = true) : 0 < shK X Y m := by
  unfold enB at eX eY
  rw [decide_eq_true_eq, hX] at eX
  rw [decide_eq_true_eq, hY] at eY
  have := meet_count (fun n => (X.v n).isSome) (fun n => (Y.v n).isSome) X.g
  unfold shK
  rw [List.take_of_length_le (by omega)]
  unfold cnt at eX eY
  rw [hg] at eY
  omega

end Go.Proofs.Ytmhjbkpojndhkaa
