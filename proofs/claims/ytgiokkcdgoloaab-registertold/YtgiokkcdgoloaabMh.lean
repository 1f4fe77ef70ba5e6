import Derived.Test.YtgiokkcdgoloaabMg
namespace Go.Proofs.Ytgiokkcdgoloaab
open Go.RowKit
set_option linter.unusedVariables false
set_option linter.unusedSimpArgs false

def BeginOut (w : World) (m : Nat) (a : Option Addr) (cap : Nat) (x : MS) (ai : TypeId) (av : Value) (e : Ending) (w' : World) : Prop :=
  ∃ a' cap' qs tb bb at' ct, e = .returned (.slice a' qs.length cap') ∧ qs.map Qm.sv = x.g ∧ Msgs w' w.heap.size a' cap' x ⟨1, 0, 0, 0⟩ [] qs ∧ Mach w' m a cap x 150 (.agg #[.iface ai av, .pointer (some ⟨tb, 0, none⟩)]) ∧ Tal 153 ansB w' tb bb at' ct (tNew Bk x.g (needI x)) ∧ (∀ k, TB tb bb at' k → w.heap.size ≤ k) ∧ Kept (Only m) w w'

set_option maxRecDepth 100000 in
set_option maxHeartbeats 4000000 in
theorem begin0_any (m : Nat) (a : Option Addr) (cap : Nat) (x : MS) (t : TypeId) (v : Value) (ai : TypeId) (av : Value) (w : World) (hM : Mach w m a cap x t v) (hr0 : 1 ≤ x.rd) (hr1 : x.rd ≤ 1099511627776) (hl : x.g.length ≤ 400000000000) :
    Calls Try.prog 74 #[.agg #[.iface ai av], .pointer (some ⟨m, 0, none⟩)] w (BeginOut w m a cap x ai av) := by
  obtain ⟨w1, hw1⟩ : ∃ w1, w1 = w.alloc (.cells #[.iface ai av] 109) := ⟨_, rfl⟩
  have HK1 : Hid (Kept No w w1) := by rw [hw1]; exact (Kept.refl No w).alloc _
  obtain ⟨N, hN⟩ : ∃ N, N = w.heap.size := ⟨_, rfl⟩
  have HX1 : Hid (∀ wr, Kept No w1 wr → wr.cell? ⟨N, 0, none⟩ = some (.iface ai av)) := fun wr hk => by
    have hX : Box w1 w.heap.size 109 #[.iface ai av] := by rw [hw1]; exact Box.new _ _ _
    have hX := hX.kept hk (fun e => e)
    rw [hN]
    exact hX.cell 0
  have HM : Hid (∀ wr, Kept No w1 wr → Mach wr m a cap x t v) := fun wr hk => hM.no (HK1.out.then hk)
  have HL : Hid (x.g.length ≤ 400000000000) := hl
  have HNd : Hid x.g.Nodup := hM.nd
  have HMl : Hid (m < w.heap.size) := hM.box.lt
  have HMc : Hid (∀ wr, Kept No w1 wr → wr.cell? ⟨m, 7, none⟩ = some (.slice a x.g.length cap) ∧ wr.cell? ⟨m, 8, none⟩ = some (.int .i64 x.rd)) := fun wr hk => by
    have hB := (HM.out wr hk).box
    exact ⟨hB.cell 7, hB.cell 8⟩
  obtain ⟨c7, c8⟩ := HMc.out w1 (Kept.refl _ _)
  have x0 := HX1.out w1 (Kept.refl _ _)
  obtain ⟨r, hr⟩ : ∃ r, r = x.rd := ⟨_, rfl⟩
  have HR : Hid (r = x.rd) := hr
  rw [← hr] at c8 hr0 hr1
  rw [hw1] at c7 c8
  have h0 : ¬ (r < 1) := by omega
  have h1 : ¬ (r > 1099511627776) := by omega
  clear hM hl hr
  go_enter Try.func74, Try.ntmps74
  go_upto_region 3 with fail
  rw [← hw1, ← hN]
  rw [← hw1] at c7 c8
  have HNN : Hid (N = w.heap.size) := hN
  clear hw1 hN
  have HKr : Hid (Kept No w1 w1.drew) := (Kept.refl No w1).drew
  go_region_held3 (fun w' => w'.cell? ⟨N, 0, none⟩ = some (.iface ai av) ∧ w'.cell? ⟨m, 7, none⟩ = some (.slice a x.g.length cap)) (go_keep) (first
    | (go_at_call 78
       refine Calls.mono (need_any m a cap x t v w1.drew (HM.out _ HKr.out)) ?_
       rintro e w2 ⟨rfl, rfl⟩)
    | (go_at_call 77
       refine Calls.mono (new_anyB a x.g.length cap x.g (needI x) w1.drew rfl (by have := HL.out; omega) ((HM.out _ HKr.out).row.nums rfl)) ?_
       rintro e w2 ⟨at', ct, rfl, hT2, hf2, hk2⟩
       have hf2' : ∀ k, TB (w1.drew.heap.size + 1) w1.drew.heap.size at' k → w1.drew.heap.size ≤ k := by
         rintro k (rfl | rfl | hk)
         · omega
         · omega
         · exact hf2 k hk
       clear hf2
       have hsz : w1.drew.heap.size = w1.heap.size := rfl
       generalize w1.drew.heap.size + 1 = tb at hT2 hf2' ⊢
       generalize w1.drew.heap.size = bb at hT2 hf2' hsz ⊢
       have HT2 : Hid (Tal 153 ansB w2 tb bb at' ct (tNew Bk x.g (needI x))) := hT2
       have HF2 : Hid (∀ k, TB tb bb at' k → w1.heap.size ≤ k) := by rw [← hsz]; exact hf2'
       have HK2 : Hid (Kept No w1 w2) := HKr.out.then hk2
       have y0 := HX1.out w2 HK2.out
       obtain ⟨d7, d8⟩ := HMc.out w2 HK2.out
       clear hT2 hf2' hk2 hsz d8)
    | (go_at_call 75
       refine Calls.mono (enterA_any m a cap x t v ai av tb bb ct at' (tNew Bk x.g (needI x)) w2 (HM.out _ HK2.out) HT2.out (by show (uq x.g).length ≤ _; have := uq_len x.g; have := HL.out; omega) (fun e => by have := HF2.out m e; have := HMl.out; have := HK1.out.size; omega)) ?_
       rw [missL_new, uq_self HNd.out]
       rintro e w3 ⟨a3, c3, qs, rfl, hq, hm3, hM3, hk3⟩
       have HQ : Hid (qs.map Qm.sv = x.g) := hq
       have HQ3 : Hid (Msgs w3 w.heap.size a3 c3 x ⟨1, 0, 0, 0⟩ [] qs) := hm3.lower (HK1.out.then HK2.out).size
       have HM3 : Hid (Mach w3 m a cap x 150 (.agg #[.iface ai av, .pointer (some ⟨tb, 0, none⟩)])) := hM3
       have HT3 : Hid (Tal 153 ansB w3 tb bb at' ct (tNew Bk x.g (needI x))) := HT2.out.kept hk3 (fun k hk e => by have := HF2.out k hk; have := HMl.out; have := HK1.out.size; have : k = m := e; omega)
       have HK3 : Hid (Kept (Only m) w w3) := (HK1.out.then HK2.out).of_no.then hk3
       have z0 : w3.cell? ⟨N, 0, none⟩ = some (.iface ai av) := hk3.cell y0 (fun e => by have : N = m := e; have := HNN.out; have := HMl.out; omega)
       have z7 : w3.cell? ⟨m, 7, none⟩ = some (.slice a x.g.length cap) := hM3.box.cell 7
       clear hq hm3 hM3 hk3))
  go_wp2
  go_ret
  exact ⟨a3, c3, qs, tb, bb, at', ct, rfl, HQ.out, HQ3.out, HM3.out, HT3.out, fun k hk => Nat.le_trans HK1.out.size (HF2.out k hk), HK3.out⟩

theorem meth_begin0 (a1 : Value) (w : World) : (method 280 109 (.agg #[a1]) "cairn/register.begin").run Try.prog w = .ok (74, .agg #[a1]) w := by kernel_rfl
theorem meth_doneA (a1 a2 : Value) (w : World) : (method 280 150 (.agg #[a1, a2]) "cairn/register.done").run Try.prog w = .ok (71, .agg #[]) w := by kernel_rfl
theorem meth_Begin (p : Option Addr) (w : World) : (method 280 90 (.pointer p) "Begin").run Try.prog w = .ok (61, .pointer p) w := by kernel_rfl
theorem meth_Done (p : Option Addr) (w : World) : (method 280 90 (.pointer p) "Done").run Try.prog w = .ok (62, .pointer p) w := by kernel_rfl
theorem meth_Round (p : Option Addr) (w : World) : (method 280 90 (.pointer p) "Round").run Try.prog w = .ok (63, .pointer p) w := by kernel_rfl
theorem meth_Take (p : Option Addr) (w : World) : (method 280 90 (.pointer p) "Take").run Try.prog w = .ok (64, .pointer p) w := by kernel_rfl
theorem meth_Tick (p : Option Addr) (w : World) : (method 280 90 (.pointer p) "Tick").run Try.prog w = .ok (65, .pointer p) w := by kernel_rfl

set_option maxRecDepth 100000 in
set_option maxHeartbeats 2000000 in
theorem begin_any (m : Nat) (a : Option Addr) (cap : Nat) (x : MS) (ai : TypeId) (av : Value) (w : World) (hM : Mach w m a cap x 109 (.agg #[.iface ai av])) (hr0 : 1 ≤ x.rd) (hr1 : x.rd ≤ 1099511627776) (hl : x.g.length ≤ 400000000000) :
    Calls Try.prog 61 #[.pointer (some ⟨m, 0, none⟩)] w (BeginOut w m a cap x ai av) := by
  have HM : Hid (Mach w m a cap x 109 (.agg #[.iface ai av])) := hM
  have c9 := hM.box.cell 9
  simp only [mC, List.getElem?_toArray, List.getElem?_cons_zero, List.getElem?_cons_succ] at c9
  have HR : Hid (1 ≤ x.rd ∧ x.rd ≤ 1099511627776) := ⟨hr0, hr1⟩
  have HL : Hid (x.g.length ≤ 400000000000) := hl
  clear hM hr0 hr1 hl
  have hm := meth_begin0
  go_enter Try.func61, Try.ntmps61
  go_wp2_with (go_at_call 74
               refine Calls.mono (begin0_any m a cap x _ _ ai av w HM.out HR.out.1 HR.out.2 HL.out) ?_
               rintro e w3 ⟨a3, c3, qs, tb, bb, at', ct, rfl, hO⟩
               have HO : Hid _ := hO
               clear hO)
  go_ret
  exact ⟨a3, c3, qs, tb, bb, at', ct, rfl, HO.out⟩

end Go.Proofs.Ytgiokkcdgoloaab
