import Derived.Test.YtgdnofacgfjaeabGreatZi
namespace Go.Proofs.YtgdnofacgfjaeabGreat
open Go.RowKit
set_option linter.unusedVariables false

/-- The head of a message. -/
def headS (st : Option (List Int)) (m : MsgD) : Option (List Int) := numsS (putNum (putNum (putNum (putNum (numsS st [m.kind]) (flagI m.fc)) m.fi) (flagI m.tc)) m.ti) [m.op, m.rd, m.kk, m.ka, m.kb, m.kc]
/-- No number of the head is past what there is. -/
structure HeadOkM (m : MsgD) : Prop where
  kind : m.kind ≤ 9223372036854775807
  fi : m.fi ≤ 9223372036854775807
  ti : m.ti ≤ 9223372036854775807
  op : m.op ≤ 9223372036854775807
  rd : m.rd ≤ 9223372036854775807
  kk : m.kk ≤ 9223372036854775807
  ka : m.ka ≤ 9223372036854775807
  kb : m.kb ≤ 9223372036854775807
  kc : m.kc ≤ 9223372036854775807

theorem flagI_le (b : Bool) : flagI b ≤ 9223372036854775807 := by unfold flagI; split <;> omega

set_option maxRecDepth 100000 in
set_option maxHeartbeats 2000000 in
/-- .. of a kind without fields. -/
theorem putMsg_nil (base g : Nat) (a : Option Addr) (c : Nat) (st : Option (List Int)) (m : MsgD) (hf : fieldsL m.kind = []) (ho : HeadOkM m) (w : World) (h : Ws w base g a c st) (hlen : stLen st + 200 ≤ 140737488355328) (hbase : base ≤ w.heap.size) :
    Calls Tryz.prog 56 #[.pointer (some ⟨g, 0, none⟩), .agg m.cells] w (Puts w base g a (headS st m)) := by
  have HO : Hid (HeadOkM m) := ho
  have HF0 : Hid (fieldsL m.kind = []) := hf
  obtain ⟨w0, hw0⟩ : ∃ w0, w0 = w.alloc (.cells m.cells 71) := ⟨_, rfl⟩
  have hk0 : Kept No w w0 := by rw [hw0]; exact (Kept.refl No w).alloc _
  have HM0 : Hid (MsgAt w0 w.heap.size m) := by rw [hw0]; exact MsgAt.new w m
  have HW0 : Hid (Ws w0 base g a c st) := h.no hk0
  have HK0 : Hid (Kept (WrAt g a) w w0 ∧ Moved w a a) := ⟨hk0.of_no, Moved.refl _ _⟩
  have HBs : Hid (∀ W : World, Kept (WrAt g a) w W → base ≤ W.heap.size) := fun W hW => by have := hW.size; omega
  have TB : Hid (1 = 1) := rfl
  have HSt : Hid (headS st m = numsS (putNum (putNum (putNum (putNum (numsS st [m.kind]) (flagI m.fc)) m.fi) (flagI m.tc)) m.ti) [m.op, m.rd, m.kk, m.ka, m.kb, m.kc]) := rfl
  clear h hk0 ho hf
  go_enter Tryz.func56, Tryz.ntmps56
  go_upto_region 1 with (have hguard := TB; clear hguard; refine wp_boxV rfl 71 _ rfl m.cells rfl w.heap.size rfl ?_; rw [← hw0]; clear hw0 TB)
  have q0 := HM0.out.ends.1
  -- the kind
  obtain ⟨w1, hw1⟩ : ∃ w1, w1 = w0.alloc (.cells #[.int .i64 m.kind] 3) := ⟨_, rfl⟩
  have hk1 : Kept No w0 w1 := by rw [hw1]; exact (Kept.refl No w0).alloc _
  have hB1 : Box w1 w0.heap.size 3 ([m.kind].map (Value.int .i64)).toArray := by rw [hw1]; exact Box.new _ _ _
  have HC1 : Hid (Calls Tryz.prog 95 #[.pointer (some ⟨g, 0, none⟩), .slice (some ⟨w0.heap.size, 0, none⟩) 1 1] w1 (Puts w1 base g a (numsS st [m.kind]))) := nums_all base g a c st w0.heap.size 1 1 [m.kind] w1 (HW0.out.no hk1) hB1 rfl (fun x hx => by rw [List.mem_singleton.1 hx]; exact HO.out.kind) (by omega) (HBs.out w1 (HK0.out.1.then hk1.of_no))
  have HM1 : Hid (MsgAt w1 w.heap.size m) := HM0.out.no hk1
  have HW1 : Hid (Ws w1 base g a c st) := HW0.out.no hk1
  have HK1 : Hid (Kept (WrAt g a) w w1) := HK0.out.1.then hk1.of_no
  have HL1 : Hid (stLen (numsS st [m.kind]) ≤ stLen st + 10) := by
    have h1 := numsS_len [m.kind] st (fun x hx => by rw [List.mem_singleton.1 hx]; exact HO.out.kind)
    have h2 : [m.kind].length = 1 := rfl
    rw [h2] at h1
    show _ ≤ _
    omega
  clear hk1 hB1 HM0 HW0
  go_wp2_with fail
  rw [← hw1]
  clear hw1 q0
  refine HC1.out.mono ?_
  rintro e w2 ⟨rfl, a2, c2, hw2, hk2, hm2⟩
  have HM2 : Hid (MsgAt w2 w.heap.size m) := HM1.out.kept hk2 (HW1.out.apart HM1.out.box (by decide) (by decide))
  have HW2 : Hid (Ws w2 base g a2 c2 (numsS st [m.kind])) := hw2
  have HK2 : Hid (Kept (WrAt g a) w w2 ∧ Moved w a a2) := ⟨HK1.out.then hk2, (Moved.refl w a).trans hm2 HK1.out.size⟩
  clear hw2 hk2 hm2 HM1 HW1 HC1 HK1
  -- from
  obtain ⟨-, q1, q2, -⟩ := HM2.out.ends
  have HA2 : Hid (Calls Tryz.prog 112 #[.pointer (some ⟨g, 0, none⟩), .agg #[.bool m.fc, .int .i64 m.fi]] w2 (Puts w2 base g a2 (putNum (putNum (numsS st [m.kind]) (flagI m.fc)) m.fi))) := addr_all base g a2 c2 _ m.fc m.fi w2 HW2.out HO.out.fi (by have := HL1.out; omega) (HBs.out w2 HK2.out.1)
  have HL2 : Hid (stLen (putNum (putNum (numsS st [m.kind]) (flagI m.fc)) m.fi) ≤ stLen st + 30) := by
    have h1 := putNum_len (numsS st [m.kind]) (flagI_le m.fc)
    have h2 := putNum_len (putNum (numsS st [m.kind]) (flagI m.fc)) HO.out.fi
    have h3 := HL1.out
    show _ ≤ _; omega
  go_wp2_with fail
  refine HA2.out.mono ?_
  rintro e w3 ⟨rfl, a3, c3, hw3, hk3, hm3⟩
  have HM3 : Hid (MsgAt w3 w.heap.size m) := HM2.out.kept hk3 (HW2.out.apart HM2.out.box (by decide) (by decide))
  have HW3 : Hid (Ws w3 base g a3 c3 (putNum (putNum (numsS st [m.kind]) (flagI m.fc)) m.fi)) := hw3
  have HK3 : Hid (Kept (WrAt g a) w w3 ∧ Moved w a a3) := ⟨HK2.out.1.moved hk3 HK2.out.2, HK2.out.2.trans hm3 HK2.out.1.size⟩
  clear hw3 hk3 hm3 HM2 HW2 HA2 HK2 q1 q2
  -- to
  obtain ⟨-, -, -, q3, q4, -⟩ := HM3.out.ends
  have HA3 : Hid (Calls Tryz.prog 112 #[.pointer (some ⟨g, 0, none⟩), .agg #[.bool m.tc, .int .i64 m.ti]] w3 (Puts w3 base g a3 (putNum (putNum (putNum (putNum (numsS st [m.kind]) (flagI m.fc)) m.fi) (flagI m.tc)) m.ti))) := addr_all base g a3 c3 _ m.tc m.ti w3 HW3.out HO.out.ti (by have := HL2.out; omega) (HBs.out w3 HK3.out.1)
  have HL3 : Hid (stLen (putNum (putNum (putNum (putNum (numsS st [m.kind]) (flagI m.fc)) m.fi) (flagI m.tc)) m.ti) ≤ stLen st + 50) := by
    have h1 := putNum_len (putNum (putNum (numsS st [m.kind]) (flagI m.fc)) m.fi) (flagI_le m.tc)
    have h2 := putNum_len (putNum (putNum (putNum (numsS st [m.kind]) (flagI m.fc)) m.fi) (flagI m.tc)) HO.out.ti
    have h3 := HL2.out
    show _ ≤ _; omega
  go_wp2_with fail
  refine HA3.out.mono ?_
  rintro e w4 ⟨rfl, a4, c4, hw4, hk4, hm4⟩
  have HM4 : Hid (MsgAt w4 w.heap.size m) := HM3.out.kept hk4 (HW3.out.apart HM3.out.box (by decide) (by decide))
  have HK4 : Hid (Kept (WrAt g a) w w4 ∧ Moved w a a4) := ⟨HK3.out.1.moved hk4 HK3.out.2, HK3.out.2.trans hm4 HK3.out.1.size⟩
  have HW4 : Hid (Ws w4 base g a4 c4 (putNum (putNum (putNum (putNum (numsS st [m.kind]) (flagI m.fc)) m.fi) (flagI m.tc)) m.ti)) := hw4
  clear hw4 hk4 hm4 HM3 HW3 HA3 HK3 q3 q4
  -- the rest
  obtain ⟨-, -, -, -, -, q5, q6⟩ := HM4.out.ends
  obtain ⟨q7, q8, q9, q10⟩ := HM4.out.key
  obtain ⟨w5, hw5⟩ : ∃ w5, w5 = w4.alloc (.cells #[.int .i64 m.op, .int .i64 m.rd, .int .i64 m.kk, .int .i64 m.ka, .int .i64 m.kb, .int .i64 m.kc] 3) := ⟨_, rfl⟩
  have hk5 : Kept No w4 w5 := by rw [hw5]; exact (Kept.refl No w4).alloc _
  have hB5 : Box w5 w4.heap.size 3 ([m.op, m.rd, m.kk, m.ka, m.kb, m.kc].map (Value.int .i64)).toArray := by rw [hw5]; exact Box.new _ _ _
  have HC5 : Hid (Calls Tryz.prog 95 #[.pointer (some ⟨g, 0, none⟩), .slice (some ⟨w4.heap.size, 0, none⟩) 6 6] w5 (Puts w5 base g a4 (numsS (putNum (putNum (putNum (putNum (numsS st [m.kind]) (flagI m.fc)) m.fi) (flagI m.tc)) m.ti) [m.op, m.rd, m.kk, m.ka, m.kb, m.kc]))) := nums_all base g a4 c4 _ w4.heap.size 6 6 [m.op, m.rd, m.kk, m.ka, m.kb, m.kc] w5 (HW4.out.no hk5) hB5 rfl (fun x hx => by
    have h := HO.out
    simp only [List.mem_cons, List.not_mem_nil, or_false] at hx
    rcases hx with rfl | rfl | rfl | rfl | rfl | rfl
    · exact h.op
    · exact h.rd
    · exact h.kk
    · exact h.ka
    · exact h.kb
    · exact h.kc) (by have := HL3.out; omega) (HBs.out w5 (HK4.out.1.then hk5.of_no))
  have HM5 : Hid (MsgAt w5 w.heap.size m) := HM4.out.no hk5
  have HW5 : Hid (Ws w5 base g a4 c4 (putNum (putNum (putNum (putNum (numsS st [m.kind]) (flagI m.fc)) m.fi) (flagI m.tc)) m.ti)) := HW4.out.no hk5
  have HK5 : Hid (Kept (WrAt g a) w w5 ∧ Moved w a a4) := ⟨HK4.out.1.then hk5.of_no, HK4.out.2⟩
  clear hk5 hB5 HM4 HW4 HK4
  go_wp2_with fail
  rw [← hw5]
  clear hw5 q5 q6 q7 q8 q9 q10
  refine HC5.out.mono ?_
  rw [← HSt.out]
  rintro e w6 ⟨rfl, a6, c6, hw6, hk6, hm6⟩
  have HM6 : Hid (MsgAt w6 w.heap.size m) := HM5.out.kept hk6 (HW5.out.apart HM5.out.box (by decide) (by decide))
  have HF6 : Hid (∀ W, Kept No w6 W → ∃ a' c', Ws W base g a' c' (headS st m) ∧ Kept (WrAt g a) w W ∧ Moved w a a') := fun W hW => ⟨a6, c6, hw6.no hW, (HK5.out.1.moved hk6 HK5.out.2).then hW.of_no, HK5.out.2.trans hm6 HK5.out.1.size⟩
  clear hw6 hk6 hm6 HM5 HW5 HC5 HK5
  have q0 := HM6.out.ends.1
  go_wp2_with fail
  refine (fieldsOf_nil m.kind HF0.out w6).mono ?_
  rintro e w7 ⟨rfl, hk7⟩
  have HF7 : Hid (∃ a' c', Ws w7 base g a' c' (headS st m) ∧ Kept (WrAt g a) w w7 ∧ Moved w a a') := HF6.out w7 hk7
  clear hk7 q0 HF6 HM6
  go_wp2
  go_loopw [42] (fun i wr => i = .int .i64 0 ∧ wr = w7) (fun _ _ => 0)
  case atStart => exact ⟨rfl, rfl⟩
  case round =>
    obtain ⟨rfl, rfl⟩ := hrel
    go_wp2
    go_end0
    exact ⟨rfl, HF7.out⟩

end Go.Proofs.YtgdnofacgfjaeabGreat
