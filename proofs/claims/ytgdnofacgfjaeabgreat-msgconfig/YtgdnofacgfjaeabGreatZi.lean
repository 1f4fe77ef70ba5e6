import Derived.Test.YtgdnofacgfjaeabGreatZh
import Derived.Test.YtgdnofacgfjaeabGreatC
import Derived.StillTailTactics
namespace Go.Proofs.YtgdnofacgfjaeabGreat
open Go.RowKit
set_option linter.unusedVariables false

theorem own_type {w : World} {base : Nat} {e : TypeId} {size : Nat} {a : Option Addr} {n c : Nat} {xs : List Value} (h : w.ownsRow base e size (.slice a n c) n xs) {k : Nat} (hk : At a k) : ∃ cur, w.heap[k]? = some (.cells cur e (0, 0)) := by
  obtain ⟨ad, rfl, rfl⟩ := hk
  rcases h.2 with ⟨hv, _⟩ | ⟨g, cap', cur, hv, hb, hg, _⟩
  · simp only [Value.slice.injEq] at hv; cases hv.1
  · simp only [Value.slice.injEq, Option.some.injEq] at hv; rw [hv.1]; exact ⟨cur, hg⟩
theorem Ws.typ {w : World} {base g : Nat} {a : Option Addr} {c : Nat} {st : Option (List Int)} (h : Ws w base g a c st) {k : Nat} (hk : WrAt g a k) : ∃ cur t, w.heap[k]? = some (.cells cur t (0, 0)) ∧ (t = 5 ∨ t = 128) := by
  obtain ⟨zs, bad, hw⟩ := h.wr
  rcases hk with rfl | hk
  · exact ⟨_, _, hw.cell, .inr rfl⟩
  · obtain ⟨cur, hc⟩ := own_type hw.own hk
    exact ⟨cur, 5, hc, .inl rfl⟩
/-- A block of another type is no Writer's. -/
theorem Ws.apart {w : World} {base g : Nat} {a : Option Addr} {c : Nat} {st : Option (List Int)} (h : Ws w base g a c st) {k : Nat} {t : TypeId} {cs : Array Value} (hb : Box w k t cs) (h5 : t ≠ 5) (h8 : t ≠ 128) : ¬ WrAt g a k := by
  intro hk
  obtain ⟨cur, t', h1, h2⟩ := h.typ hk
  have e : some (Obj.cells cs t (0, 0)) = some (Obj.cells cur t' (0, 0)) := hb.symm.trans h1
  injection e with e
  injection e with _ e2
  rcases h2 with rfl | rfl
  · exact h5 e2
  · exact h8 e2

/-- What the parts of one call on a Writer leave together. -/
theorem Puts.then {w w1 : World} {base g : Nat} {a a1 : Option Addr} {c1 : Nat} {st1 st2 : Option (List Int)} {e : Ending} {w2 : World} (hk : Kept (WrAt g a) w w1) (hm : Moved w a a1) (h : Puts w1 base g a1 st2 e w2) : Puts w base g a st2 e w2 := by
  obtain ⟨he, a2, c2, h1, h2, h3⟩ := h
  exact ⟨he, a2, c2, h1, hk.moved h2 hm, hm.trans h3 hk.size⟩

def flagI (b : Bool) : Int := if b then 1 else 0
def numsS (st : Option (List Int)) (ns : List Int) : Option (List Int) := ns.foldl putNum st
theorem putNum_len (st : Option (List Int)) {n : Int} (h1 : n ≤ 9223372036854775807) : stLen (putNum st n) ≤ stLen st + 10 := by
  unfold putNum
  split
  · simp [stLen]
  · cases st with
    | none => simp [stLen]
    | some zs => have := vint_len10 n.toNat (by omega); simp [stLen]; omega
theorem numsS_len (ns : List Int) : ∀ (st : Option (List Int)), (∀ n ∈ ns, n ≤ 9223372036854775807) → stLen (numsS st ns) ≤ stLen st + 10 * ns.length := by
  induction ns with
  | nil => intro st _; simp [numsS]
  | cons n r ih =>
    intro st h
    have h1 := putNum_len st (h n (List.mem_cons_self ..))
    have h2 := ih (putNum st n) (fun x hx => h x (List.mem_cons_of_mem _ hx))
    have : numsS st (n :: r) = numsS (putNum st n) r := rfl
    rw [this, List.length_cons]; omega
theorem numsS_snoc {ns : List Int} {k : Nat} (st : Option (List Int)) (h : k < ns.length) : numsS st (ns.take (k + 1)) = putNum (numsS st (ns.take k)) (ns[k]?.getD 0) := by
  rw [List.take_succ_eq_append_getElem h, numsS, List.foldl_append]
  simp [List.getElem?_eq_getElem h, numsS]

theorem flag_all (base g : Nat) (a : Option Addr) (c : Nat) (st : Option (List Int)) (b : Bool) (w : World) (h : Ws w base g a c st) (hlen : stLen st + 10 ≤ 140737488355328) (hbase : base ≤ w.heap.size) :
    Calls Tryz.prog 88 #[.pointer (some ⟨g, 0, none⟩), .bool b] w (Puts w base g a (putNum st (flagI b))) := by
  have HN : Hid (∀ n : Int, n ≤ 9223372036854775807 → Calls Tryz.prog 98 #[.pointer (some ⟨g, 0, none⟩), .int .i64 n] w (Puts w base g a (putNum st n))) := fun n hn => num_all base g a c st n w h hn hlen hbase
  clear h
  cases b with
  | true =>
    go_enter Tryz.func88, Tryz.ntmps88
    go_wp2_with fail
    refine (HN.out 1 (by omega)).mono ?_
    rintro e w1 ⟨rfl, hr⟩
    have HR : Hid _ := hr
    clear hr
    go_wp2
    go_end0
    exact ⟨rfl, HR.out⟩
  | false =>
    go_enter Tryz.func88, Tryz.ntmps88
    go_wp2_with fail
    refine (HN.out 0 (by omega)).mono ?_
    rintro e w1 ⟨rfl, hr⟩
    have HR : Hid _ := hr
    clear hr
    go_wp2
    go_end0
    exact ⟨rfl, HR.out⟩

def WsE (w wr : World) (base g : Nat) (a : Option Addr) (st : Option (List Int)) : Prop := ∃ a' c', Ws wr base g a' c' st ∧ Kept (WrAt g a) w wr ∧ Moved w a a'

set_option maxRecDepth 100000 in
set_option maxHeartbeats 1000000 in
theorem nums_all (base g : Nat) (a : Option Addr) (c : Nat) (st : Option (List Int)) (b n cap : Nat) (ns : List Int) (w : World) (h : Ws w base g a c st) (hb : Box w b 3 (ns.map (Value.int .i64)).toArray) (hn : ns.length = n) (hnb : ∀ x ∈ ns, x ≤ 9223372036854775807) (hlen : stLen st + 10 * n ≤ 140737488355328) (hbase : base ≤ w.heap.size) :
    Calls Tryz.prog 95 #[.pointer (some ⟨g, 0, none⟩), .slice (some ⟨b, 0, none⟩) n cap] w (Puts w base g a (numsS st ns)) := by
  have HW : Hid (Ws w base g a c st) := h
  have HB : Hid (Box w b 3 (ns.map (Value.int .i64)).toArray) := hb
  have HN : Hid (ns.length = n ∧ ∀ x ∈ ns, x ≤ 9223372036854775807) := ⟨hn, hnb⟩
  have HL : Hid (stLen st + 10 * n ≤ 140737488355328 ∧ base ≤ w.heap.size) := ⟨hlen, hbase⟩
  have hni : (n : Int) ≤ 140737488355328 := by omega
  clear h hb hn hnb hlen hbase
  go_enter Tryz.func95, Tryz.ntmps95
  go_wp2
  go_loopw [8] (fun i wr => ∃ k : Nat, k ≤ n ∧ i = .int .i64 (k : Int) ∧ Hid (WsE w wr base g a (numsS st (ns.take k)))) (fun i _ => n - (intOf i).toNat)
  case atStart => exact ⟨0, Nat.zero_le _, rfl, a, c, HW.out, Kept.refl _ _, Moved.refl _ _⟩
  case round =>
    obtain ⟨k, hk, rfl, HE⟩ := hrel
    by_cases hlt : k < n
    · have hlt' : (k : Int) < (n : Int) := by omega
      obtain ⟨a1, c1, hw1, hk1, hm1⟩ := HE.out
      have hbk : Box wr b 3 (ns.map (Value.int .i64)).toArray := HB.out.kept hk1 (HW.out.apart HB.out (by decide) (by decide))
      have hcell : wr.cell? ⟨b, k, none⟩ = some (.int .i64 (ns[k]?.getD 0)) := by
        rw [hbk.cell, List.getElem?_toArray, List.getElem?_map, List.getElem?_eq_getElem (by rw [HN.out.1]; exact hlt)]; rfl
      have HS : Hid (numsS st (ns.take (k + 1)) = putNum (numsS st (ns.take k)) (ns[k]?.getD 0)) := numsS_snoc st (by rw [HN.out.1]; exact hlt)
      have hx : ns[k]?.getD 0 ≤ 9223372036854775807 := HN.out.2 _ (by
        rw [List.getElem?_eq_getElem (by rw [HN.out.1]; exact hlt)]; exact List.getElem_mem _)
      have hl : stLen (numsS st (ns.take k)) + 10 ≤ 140737488355328 := by
        have h1 := numsS_len (ns.take k) st (fun x hx => HN.out.2 x (List.mem_of_mem_take hx))
        have h2 := List.length_take_le k ns
        have h3 := HL.out.1
        omega
      have HNu : Hid (Calls Tryz.prog 98 #[.pointer (some ⟨g, 0, none⟩), .int .i64 (ns[k]?.getD 0)] wr (Puts wr base g a1 (putNum (numsS st (ns.take k)) (ns[k]?.getD 0)))) := num_all base g a1 c1 _ _ wr hw1 hx hl (by have := HL.out.2; have := hk1.size; omega)
      have HK1 : Hid (Kept (WrAt g a) w wr ∧ Moved w a a1) := ⟨hk1, hm1⟩
      clear hw1 hk1 hm1 hbk hx hl HE
      generalize ns[k]?.getD 0 = z at hcell HS HNu
      go_wp2_with fail
      refine HNu.out.mono ?_
      rintro e w2 ⟨rfl, a2, c2, hw2, hk2, hm2⟩
      have HE2 : Hid (WsE w w2 base g a (numsS st (ns.take (k + 1)))) := by
        rw [HS.out]
        exact ⟨a2, c2, hw2, HK1.out.1.moved hk2 HK1.out.2, HK1.out.2.trans hm2 HK1.out.1.size⟩
      clear hw2 hk2 hm2 HNu HS HK1
      go_wp2
      go_roundw
      case rel => exact ⟨k + 1, by omega, by go_num, HE2⟩
      case measure => simp [intOf]; omega
    · have hlt' : ¬ (k : Int) < (n : Int) := by omega
      have HF : Hid (WsE w wr base g a (numsS st ns)) := by
        have := HE.out
        rw [List.take_of_length_le (by rw [HN.out.1]; omega)] at this
        exact this
      go_wp2
      go_end0
      exact ⟨rfl, HF.out⟩

set_option maxRecDepth 100000 in
set_option maxHeartbeats 1000000 in
theorem addr_all (base g : Nat) (a : Option Addr) (c : Nat) (st : Option (List Int)) (cl : Bool) (id : Int) (w : World) (h : Ws w base g a c st) (hid : id ≤ 9223372036854775807) (hlen : stLen st + 20 ≤ 140737488355328) (hbase : base ≤ w.heap.size) :
    Calls Tryz.prog 112 #[.pointer (some ⟨g, 0, none⟩), .agg #[.bool cl, .int .i64 id]] w (Puts w base g a (putNum (putNum st (flagI cl)) id)) := by
  obtain ⟨w0, hw0⟩ : ∃ w0, w0 = w.alloc (.cells #[.bool cl, .int .i64 id] 66) := ⟨_, rfl⟩
  have hk0 : Kept No w w0 := by rw [hw0]; exact (Kept.refl No w).alloc _
  have HB0 : Hid (Box w0 w.heap.size 66 #[.bool cl, .int .i64 id]) := by rw [hw0]; exact Box.new _ _ _
  have HW0 : Hid (Ws w0 base g a c st) := h.no hk0
  have HK0 : Hid (Kept No w w0) := hk0
  have HB : Hid (base ≤ w0.heap.size) := by have := hk0.size; show _ ≤ _; omega
  have q0 := HB0.out.cell 0
  have q1 := HB0.out.cell 1
  simp only [List.getElem?_toArray, List.getElem?_cons_zero, List.getElem?_cons_succ] at q0 q1
  rw [hw0] at q0 q1
  clear h hk0
  go_enter Tryz.func112, Tryz.ntmps112
  go_wp2_with fail
  rw [← hw0]
  clear hw0 q0 q1
  refine (flag_all base g a c st cl w0 HW0.out (by omega) HB.out).mono ?_
  rintro e w1 ⟨rfl, a1, c1, hw1, hk1, hm1⟩
  have hB1 : Box w1 w.heap.size 66 #[.bool cl, .int .i64 id] := HB0.out.kept hk1 (HW0.out.apart HB0.out (by decide) (by decide))
  have q1 := hB1.cell 1
  simp only [List.getElem?_toArray, List.getElem?_cons_zero, List.getElem?_cons_succ] at q1
  have HL : Hid (stLen (putNum st (flagI cl)) ≤ stLen st + 10) := putNum_len st (by unfold flagI; split <;> omega)
  have HNu : Hid (∀ n, Calls Tryz.prog 98 #[.pointer (some ⟨g, 0, none⟩), .int .i64 id] (w1.drewN n) (Puts (w1.drewN n) base g a1 (putNum (putNum st (flagI cl)) id))) := fun n => num_all base g a1 c1 _ id _ (hw1.no ((Kept.refl No _).drewN n)) hid (by have := HL.out; omega) (by have h1 := HB.out; have h2 := hk1.size; show base ≤ w1.heap.size; omega)
  have HK1 : Hid (Kept (WrAt g a) w w1 ∧ Moved w a a1) := ⟨HK0.out.of_no.then hk1, (Moved.refl w a).trans hm1 HK0.out.size⟩
  clear hw1 hk1 hm1 hB1
  go_upto_region 2 with fail
  refine wp_region_still_tail 5 (by kernel_rfl) (by kernel_rfl) ?_
  simp only [List.take_succ_cons, List.take_zero, List.drop_succ_cons, List.drop_zero]
  obtain ⟨w2, hw2⟩ : ∃ w2 : World, w2 = { w1 with drawn := w1.drawn + 1 } := ⟨_, rfl⟩
  rw [← hw2]
  have e2 : w2 = w1.drewN 1 := hw2
  have q2 : w2.cell? ⟨w.heap.size, 1, none⟩ = some (.int .i64 id) := by rw [e2]; exact q1
  have HN2 : Hid (Calls Tryz.prog 98 #[.pointer (some ⟨g, 0, none⟩), .int .i64 id] w2 (Puts w2 base g a1 (putNum (putNum st (flagI cl)) id))) := by rw [e2]; exact HNu.out 1
  have HK2 : Hid (Kept (WrAt g a) w w2 ∧ Moved w a a1) := by rw [e2]; exact ⟨HK1.out.1.drewN 1, HK1.out.2⟩
  clear hw2 e2 HNu HK1 q1
  still_step
  still_step
  still_step
  still_step
  still_step
  refine wpStill_nil ?_
  go_wp2_with fail
  refine HN2.out.mono ?_
  rintro e w3 ⟨rfl, a3, c3, hw3, hk3, hm3⟩
  have HF : Hid (∃ a' c', Ws w3 base g a' c' (putNum (putNum st (flagI cl)) id) ∧ Kept (WrAt g a) w w3 ∧ Moved w a a') := ⟨a3, c3, hw3, HK2.out.1.moved hk3 HK2.out.2, HK2.out.2.trans hm3 HK2.out.1.size⟩
  clear hw3 hk3 hm3
  go_wp2
  go_end0
  exact ⟨rfl, HF.out⟩

end Go.Proofs.YtgdnofacgfjaeabGreat
