import Derived.Test.YtgiokkcdgoloaabMc
namespace Go.Proofs.Ytgiokkcdgoloaab
open Go.RowKit
set_option linter.unusedVariables false
set_option linter.unusedSimpArgs false

def WriteOut (w : World) (x : MS) (zs : List Int) (e : Ending) (w' : World) : Prop :=
  ∃ m a cap da dc, e = .returned (.iface 90 (.pointer (some ⟨m, 0, none⟩))) ∧ Mach w' m a cap x 109 (.agg #[.iface 96 (.agg #[.int .i64 x.cl, .slice da zs.length dc])]) ∧ OwnB w' w.heap.size da dc zs ∧ (∀ k, MB m a k → w.heap.size ≤ k) ∧ (∀ k, At da k → ∀ j, MB m a j → k < j) ∧ Kept No w w'

set_option maxRecDepth 100000 in
set_option maxHeartbeats 2000000 in
theorem write_any (cl op k0 k1 k2 k3 rd : Int) (a0 : Option Addr) (n0 cap0 : Nat) (gs : List Int) (da0 : Option Addr) (dn dc0 : Nat) (zs : List Int) (w : World) (hz : gs.length = n0) (hn : n0 ≤ 17592186043904) (hb : Nums .i64 w a0 gs)
    (hd : zs.length = dn) (hdn : dn ≤ 140737488355328) (hdb : Bytes w da0 zs) :
    Calls Try.prog 23 #[.int .i64 cl, .int .i64 op, .agg #[.int .i64 k0, .int .i64 k1, .int .i64 k2, .int .i64 k3], .slice a0 n0 cap0, .int .i64 rd, .slice da0 dn dc0] w (WriteOut w ⟨cl, op, k0, k1, k2, k3, uq gs, rd⟩ zs) := by
  have HB : Hid (Nums .i64 w a0 gs) := hb
  have HZ : Hid (gs.length = n0) := hz
  have HDB : Hid (Bytes w da0 zs) := hdb
  have HD : Hid (zs.length = dn) := hd
  clear hb hz hdb hd
  obtain ⟨w1, hw1⟩ : ∃ w1, w1 = w.alloc (.cells #[.int .i64 k0, .int .i64 k1, .int .i64 k2, .int .i64 k3] 49) := ⟨_, rfl⟩
  have HK1 : Hid (Kept No w w1) := by rw [hw1]; exact (Kept.refl No w).alloc _
  have HX1 : Hid (∀ wr, Kept No w1 wr → wr.cell? ⟨w.heap.size, 0, none⟩ = some (.int .i64 k0) ∧ wr.cell? ⟨w.heap.size, 1, none⟩ = some (.int .i64 k1) ∧ wr.cell? ⟨w.heap.size, 2, none⟩ = some (.int .i64 k2) ∧ wr.cell? ⟨w.heap.size, 3, none⟩ = some (.int .i64 k3)) := fun wr hk => by
    have hX : Box w1 w.heap.size 49 #[.int .i64 k0, .int .i64 k1, .int .i64 k2, .int .i64 k3] := by rw [hw1]; exact Box.new _ _ _
    have hX := hX.kept hk (fun e => e)
    exact ⟨hX.cell 0, hX.cell 1, hX.cell 2, hX.cell 3⟩
  obtain ⟨x0, x1, x2, x3⟩ := HX1.out w1 (Kept.refl _ _)
  go_enter Try.func23, Try.ntmps23
  go_upto_region 1 with fail
  rw [← hw1]
  clear hw1
  have HKr : Hid (Kept No w1 w1.drew) := (Kept.refl No w1).drew
  go_region_held3 (fun w' => w'.cell? ⟨w.heap.size, 0, none⟩ = some (.int .i64 k0) ∧ w'.cell? ⟨w.heap.size, 1, none⟩ = some (.int .i64 k1) ∧ w'.cell? ⟨w.heap.size, 2, none⟩ = some (.int .i64 k2) ∧ w'.cell? ⟨w.heap.size, 3, none⟩ = some (.int .i64 k3)) (go_keep) (first
    | (go_at_call 21
       refine Calls.mono (clone_any da0 dn dc0 zs w1.drew HD.out hdn (HDB.out.no (HK1.out.then HKr.out))) ?_
       rintro e w2 ⟨da, dc, rfl, hO2, hk2, _, _⟩
       have HO2 : Hid (OwnB w2 w1.heap.size da dc zs) := hO2
       have HK2 : Hid (Kept No w1 w2) := HKr.out.then hk2
       have HDl : Hid (∀ k, At da k → k < w2.heap.size) := fun k hk => by
         rcases hO2.cases (by simp) with ⟨rfl, _⟩ | ⟨g, rfl, _, hlt, _⟩
         · exact absurd hk At.none
         · obtain ⟨ad, e, rfl⟩ := hk
           cases e; exact hlt
       obtain ⟨y0, y1, y2, y3⟩ := HX1.out w2 HK2.out
       clear hO2 hk2)
    | (go_at_call 36
       refine Calls.mono (newM_any cl op k0 k1 k2 k3 rd a0 n0 cap0 gs 96 (.agg #[.int .i64 cl, .slice da zs.length dc]) w2 HZ.out hn (HB.out.no (HK1.out.then HK2.out))) ?_
       rintro e w3 ⟨m, a, cap, rfl, hM, hf, hk3⟩
       have HM3 : Hid (Mach w3 m a cap ⟨cl, op, k0, k1, k2, k3, uq gs, rd⟩ 109 (.agg #[.iface 96 (.agg #[.int .i64 cl, .slice da zs.length dc])])) := hM
       have HF3 : Hid (∀ k, MB m a k → w2.heap.size ≤ k) := hf
       have HO3 : Hid (OwnB w3 w1.heap.size da dc zs) := HO2.out.no hk3
       have HK3 : Hid (Kept No w1 w3) := HK2.out.then hk3
       obtain ⟨z0, z1, z2, z3⟩ := HX1.out w3 HK3.out
       clear hM hf hk3))
  go_wp2
  go_ret
  have hk := HK1.out.then HK3.out
  exact ⟨m, a, cap, da, dc, rfl, HM3.out, Own.lower HO3.out HK1.out.size, fun k h => Nat.le_trans (HK1.out.then HK2.out).size (HF3.out k h), fun k h j hj => Nat.lt_of_lt_of_le (HDl.out k h) (HF3.out j hj), hk⟩

end Go.Proofs.Ytgiokkcdgoloaab
