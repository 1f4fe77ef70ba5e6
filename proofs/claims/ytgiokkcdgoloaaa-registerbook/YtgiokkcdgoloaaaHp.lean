import Derived.Test.YtgiokkcdgoloaaaHn
namespace Go.Proofs.Ytgiokkcdgoloaaa
open Go.RowKit
set_option linter.unusedVariables false
set_option linter.unusedSimpArgs false

theorem Try.und81 : Try.prog.underlying 81 = some (.slice 25) := by kernel_rfl
theorem Try.info25' : (Try.prog.info? 25).map (fun i => (i.zero, i.size, i.bytes)) = some (some (.slice none 0 0), 1, 24) := by kernel_rfl
theorem msgsC_at (x : MS) (h : Qh) : ∀ (qs : List Qm) (k : Nat) (q : Qm), qs[k]? = some q → (msgsC x h qs)[k * 30 + 15]? = some (.slice q.ba h.l q.bc)
  | [], k, q, e => by simp at e
  | p :: l, 0, q, e => by
    simp only [List.getElem?_cons_zero, Option.some.injEq] at e
    subst e
    rw [msgsC, List.flatMap_cons, List.getElem?_append_left (by simp [msgC])]
    rfl
  | p :: l, k + 1, q, e => by
    rw [msgsC, List.flatMap_cons, List.getElem?_append_right (by simp [msgC]; omega)]
    have e2 : (k + 1) * 30 + 15 - (msgC x h p).length = k * 30 + 15 := by simp [msgC]; omega
    rw [e2]
    exact msgsC_at x h l k q (by simpa using e)
def bkC (h : Qh) (qs : List Qm) : List Value := qs.map (fun q => .slice q.ba h.l q.bc)

set_option maxRecDepth 100000 in
set_option maxHeartbeats 1000000 in
theorem blocks_any (la : Option Addr) (lc : Nat) (x : MS) (h : Qh) (qs : List Qm) (b0 : Nat) (w : World) (hQ : Own 52 30 w b0 la lc qs.length (msgsC x h qs)) (hl : qs.length ≤ 400000000000) :
    Calls Try.prog 26 #[.slice la qs.length lc] w (fun e w' => ∃ a' cap', e = .returned (.slice a' qs.length cap') ∧ Own 25 1 w' w.heap.size a' cap' qs.length (bkC h qs) ∧ Kept No w w') := by
  have HQ : Hid (Own 52 30 w b0 la lc qs.length (msgsC x h qs)) := hQ
  obtain ⟨n, hn⟩ : ∃ n, n = qs.length := ⟨_, rfl⟩
  have HN : Hid (qs.length = n) := hn.symm
  rw [← hn] at hl ⊢
  clear hQ hn
  go_enter Try.func26, Try.ntmps26
  go_wp2
  go_loopw [3, 4] (fun v vi wr => ∃ (k : Nat) (a' : Option Addr) (cap' : Nat), vi = .int .i64 k ∧ k ≤ n ∧ v = .slice a' k cap' ∧ Hid (Own 25 1 wr w.heap.size a' cap' k (bkC h (qs.take k))) ∧ Hid (Kept No w wr)) (fun _ i _ => n - (intOf i).toNat)
  case atStart => exact ⟨0, none, 0, by go_num, by omega, rfl, Own.nil 25 1 w w.heap.size, Kept.refl _ _⟩
  case round =>
    obtain ⟨k, a', cap', rfl, hk, rfl, HO, HK⟩ := hrel
    by_cases hlt : k < n
    · have hlt' : (k : Int) < (n : Int) := by omega
      have HJL : Hid (k < qs.length) := by show _ < _; rw [HN.out]; exact hlt
      obtain ⟨q, hq⟩ : ∃ q, qs[k]? = some q := ⟨_, List.getElem?_eq_getElem HJL.out⟩
      have HTk : Hid (qs.take (k + 1) = qs.take k ++ [q]) := by show _ = _; rw [List.take_add_one, hq]; rfl
      obtain ⟨G, rfl, hG⟩ := row_cell HQ.out (msgsC_len x h qs) (by have := HJL.out; omega)
      have hc : wr.cell? ⟨G, k * 30 + 15, none⟩ = some (.slice q.ba h.l q.bc) := by
        refine HK.out.cell ?_ (fun e => e)
        rw [hG _ (by rw [msgsC_len]; have := HJL.out; omega)]
        exact msgsC_at x h qs k q hq
      have HLk : Hid (k ≤ 400000000000) := by show _ ≤ _; omega
      have hsz : Hid (w.heap.size ≤ wr.heap.size) := HK.out.size
      clear hG hq
      go_wp2_with (first
          | (at_builtin
             refine wp_appV rfl _ _ 81 25 1 24 (.slice none 0 0) Try.und81 Try.info25' rfl (by omega) rfl w.heap.size _ cap' a' _ rfl (HO.out.no ((Kept.refl No wr).alloc _)) ⟨wr.heap.size, 0, none⟩ 1 1 [.slice q.ba h.l q.bc] rfl rfl (cell_new1 _ _ _) (by simp [Value.oneCell']) (by have := HLk.out; omega) (by have := HLk.out; omega) (by omega) (by have := hsz.out; simp; omega) (k + 1) rfl ?_
             intro g' cap'' w4 HO4 HK4
             have HKw : Hid (Kept No w w4) := (HK.out.alloc _).trans HK4.out (fun _ e => e) (fun i hi e => by have := HO.out.base e; omega)
             have HO5 : Hid (Own 25 1 w4 w.heap.size (some ⟨g', 0, none⟩) cap'' (k + 1) (bkC h (qs.take (k + 1)))) := by
               have := HO4.out
               show Own _ _ _ _ _ _ _ _
               rw [HTk.out, bkC, List.map_append]
               exact this
             clear HO4 HK4))
      go_roundw
      case rel => exact ⟨k + 1, some ⟨g', 0, none⟩, cap'', by go_num, by omega, rfl, HO5, HKw⟩
      case measure => simp [intOf]; omega
    · have hlt' : ¬ (k : Int) < (n : Int) := by omega
      obtain rfl : k = n := by omega
      have HA : Hid (qs.take k = qs) := by show _ = _; rw [← HN.out]; exact List.take_length
      go_wp2
      go_ret
      rw [HA.out] at HO
      exact ⟨a', cap', rfl, HO.out, HK.out⟩

end Go.Proofs.Ytgiokkcdgoloaaa
