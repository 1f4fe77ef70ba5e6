import Derived.Test.YtphiokehcgbldaaOa
namespace Go.Proofs.Ytphiokehcgbldaa
open Go.RowKit Go.Shelf
set_option linter.unusedVariables false
set_option linter.unusedSimpArgs false

section
variable {I : Nat → Prop} {n : Nat} {s : Ns}
theorem lose_no (fc : Bool) (fi c : Int) (w : World) (h : NetM w n s I) (hf : s.L.find? (isN ((fc, fi), c)) = none) :
    Calls Try.prog 16 #[.pointer (some ⟨n, 0, none⟩), .agg #[.bool fc, .int .i64 fi], .int .i64 c] w (fun e w' => e = .returned (.int .i64 150) ∧ Kept No w w') := by
  refine (lose_any (fc, fi) c w h).mono ?_
  rintro e w' (⟨_, he, hk⟩ | ⟨q, hf', _⟩)
  · exact ⟨he, hk⟩
  · rw [hf] at hf'; cases hf'
theorem lose_yes (fc : Bool) (fi c : Int) (w : World) (h : NetM w n s I) {q : Pq} (hf : s.L.find? (isN ((fc, fi), c)) = some q) :
    Calls Try.prog 16 #[.pointer (some ⟨n, 0, none⟩), .agg #[.bool fc, .int .i64 fi], .int .i64 c] w (fun e w' => e = .returned (.int .i64 0) ∧ Kept (W5 w I) w w' ∧ NetM w' n ⟨s.sent, rmN ((fc, fi), c) s.L, s.came⟩ (fun j => I j ∨ w.heap.size ≤ j)) := by
  refine (lose_any (fc, fi) c w h).mono ?_
  rintro e w' (⟨hf', _⟩ | ⟨q', _, he, hk, hN⟩)
  · rw [hf] at hf'; cases hf'
  · exact ⟨he, hk, hN⟩
theorem double_no (fc : Bool) (fi c : Int) (w : World) (h : NetM w n s I) (hfew : s.came < 1000000000000) (hf : s.L.find? (isN ((fc, fi), c)) = none) :
    Calls Try.prog 18 #[.pointer (some ⟨n, 0, none⟩), .agg #[.bool fc, .int .i64 fi], .int .i64 c] w (fun e w' => e = .returned (.int .i64 150) ∧ Kept No w w') := by
  refine (double_any (fc, fi) c w h hfew).mono ?_
  rintro e w' (⟨_, he, hk⟩ | ⟨q, hf', _⟩)
  · exact ⟨he, hk⟩
  · rw [hf] at hf'; cases hf'
theorem double_yes (fc : Bool) (fi c : Int) (w : World) (h : NetM w n s I) (hfew : s.came < 1000000000000) {q : Pq} (hf : s.L.find? (isN ((fc, fi), c)) = some q) :
    Calls Try.prog 18 #[.pointer (some ⟨n, 0, none⟩), .agg #[.bool fc, .int .i64 fi], .int .i64 c] w (fun e w' => e = .returned (.int .i64 0) ∧ Kept (W5 w I) w w' ∧ NetM w' n (addS s { q with pl := s.came + 1 }) (fun j => I j ∨ w.heap.size ≤ j)) := by
  refine (double_any (fc, fi) c w h hfew).mono ?_
  rintro e w' (⟨hf', _⟩ | ⟨q', hf', he, hk, hN⟩)
  · rw [hf] at hf'; cases hf'
  · rw [hf] at hf'; cases hf'; exact ⟨he, hk, hN⟩
theorem deliver_no (fc : Bool) (fi c : Int) (w : World) (h : NetM w n s I) (hz : ∀ q ∈ s.L, q.zs.length ≤ 140737488355328) (hf : s.L.find? (isN ((fc, fi), c)) = none) :
    Calls Try.prog 15 #[.pointer (some ⟨n, 0, none⟩), .agg #[.bool fc, .int .i64 fi], .int .i64 c] w (fun e w' => e = .returned (.tuple #[.agg #[.bool false, .int .i64 0, .int .i64 0, .bool false, .int .i64 0, .slice none 0 0], .int .i64 150]) ∧ Kept No w w') := by
  refine (deliver_any (fc, fi) c w h hz).mono ?_
  rintro e w' (⟨_, he, hk⟩ | ⟨q, ra, rc, hf', _⟩)
  · exact ⟨he, hk⟩
  · rw [hf] at hf'; cases hf'
theorem deliver_yes (fc : Bool) (fi c : Int) (w : World) (h : NetM w n s I) (hz : ∀ q ∈ s.L, q.zs.length ≤ 140737488355328) {q : Pq} (hf : s.L.find? (isN ((fc, fi), c)) = some q) :
    Calls Try.prog 15 #[.pointer (some ⟨n, 0, none⟩), .agg #[.bool fc, .int .i64 fi], .int .i64 c] w (fun e w' => ∃ ra rc, e = .returned (.tuple #[.agg #[.bool fc, .int .i64 fi, .int .i64 c, .bool q.to'.1, .int .i64 q.to'.2, .slice ra q.zs.length rc], .int .i64 0]) ∧ OwnB w' w.heap.size ra rc q.zs ∧ Kept (W5 w I) w w' ∧ NetM w' n ⟨s.sent, rmN ((fc, fi), c) s.L, s.came⟩ (fun j => (I j ∨ w.heap.size ≤ j) ∧ ¬ At ra j)) := by
  refine (deliver_any (fc, fi) c w h hz).mono ?_
  rintro e w' (⟨hf', _⟩ | ⟨q', ra, rc, hf', he, hO, hk, hN⟩)
  · rw [hf] at hf'; cases hf'
  · rw [hf] at hf'; cases hf'
    have hn := (find_mem hf).2
    refine ⟨ra, rc, ?_, hO, hk, hN⟩
    rw [he]
    unfold pkC
    rw [hn]
theorem many_r (w : World) (hN : NetM w n s I) (hs : Sml s) (r : Nat) (hr : s.L.length = r) : Calls Try.prog 17 #[.pointer (some ⟨n, 0, none⟩)] w (fun e w' => e = .returned (.int .i64 (r : Nat)) ∧ Kept No w w') := by
  subst hr
  exact many_any w hN hs
theorem send_r (fc tc : Bool) (fi ti x : Int) (da : Option Addr) (l dc : Nat) (zs : List Int) (w : World) (h : NetM w n s I) (hz : zs.length = l) (hl : l ≤ 140737488355328) (hb : Bytes w da zs) (hdI : 0 < zs.length → ∀ k, At da k → ¬ I k ∧ k < w.heap.size) (hfew : s.came < 1000000000000) (sf cn : Nat) (b : Bool) (hsf : s.sent (fc, fi) = sf) (hcn : cnP s.L ((fc, fi), (tc, ti)) = cn) (hbb : decide (cn < 64) = b) (hfs : sf < 1000000000000) :
    Calls Try.prog 13 #[.pointer (some ⟨n, 0, none⟩), .agg #[.bool fc, .int .i64 fi, .int .i64 x, .bool tc, .int .i64 ti, .slice da l dc]] w (fun e w' => ∃ ra rc, e = .returned (.tuple #[.int .i64 ((sf + 1 : Nat) : Int), .bool b]) ∧ Kept (W5 w I) w w' ∧ NetM w' n (addS (sentS s (fc, fi)) ⟨((fc, fi), ((sf + 1 : Nat) : Int)), (tc, ti), ra, rc, zs, s.came + 1⟩) (fun j => I j ∨ w.heap.size ≤ j)) := by
  subst hsf hcn hbb
  exact send_any (fc, fi) (tc, ti) x da l dc zs w h hz hl hb hdI hfew hfs
theorem counted_r (a : Option Addr) (cap base l : Nat) (ss : List Ad) (fc : Bool) (fi : Int) (w : World) (h : Own 34 2 w base a cap ss.length (ss.flatMap adC)) (hm : ss.length ≤ 1000000) (hl : ss.length = l) (r : Nat) (hr : ss.count (fc, fi) = r) :
    Calls Try.prog 14 #[.slice a l cap, .agg #[.bool fc, .int .i64 fi]] w (fun e w' => e = .returned (.int .i64 (r : Nat)) ∧ Kept No w w') := by
  subst hr hl
  exact counted_any a cap base ss (fc, fi) w h hm
theorem rm_len {k : Nm} {q : Pq} (L : List Pq) (hf : L.find? (isN k) = some q) : (rmN k L).length + 1 = L.length := by
  obtain ⟨h1, h2⟩ := find_mem hf
  unfold rmN
  have := List.length_eraseP_of_mem h1 (isN_iff.2 h2)
  have := List.length_pos_of_mem h1
  omega
theorem rm_mem {k : Nm} {L : List Pq} {P : Pq → Prop} (h : ∀ q ∈ L, P q) : ∀ q ∈ rmN k L, P q := fun q hq => h q ((rm_sub k L).subset hq)
theorem add_mem {q : Pq} {P : Pq → Prop} (h : ∀ p ∈ s.L, P p) (hq : P q) : ∀ p ∈ (addS s q).L, P p := by
  unfold addS
  split
  · exact h
  · intro p hp
    rcases List.mem_append.1 hp with hp | hp
    · exact h p hp
    · rw [List.mem_singleton.1 hp]; exact hq
end
end Go.Proofs.Ytphiokehcgbldaa
