import Derived.Test.YtgiokkcdgoloaabHa
namespace Go.Proofs.Ytgiokkcdgoloaab
open Go.RowKit
set_option linter.unusedVariables false
set_option linter.unusedSimpArgs false

set_option maxRecDepth 100000 in
set_option maxHeartbeats 4000000 in
theorem tickL_any (m : Nat) (a : Option Addr) (cap : Nat) (x : MS) (t : TypeId) (v : Value) (n c : Int) (pa : Option Addr) (l k : Nat) (err sn sc : Int) (da : Option Addr) (dl dc : Nat) (ub bb ct : Nat) (at' : Option Addr) (X : TS Unit) (pz : List Int) (w : World) (hM : Mach w m a cap x t v) (hT : Tal 117 ansU w ub bb at' ct X) (hl : X.g.length ≤ 400000000000) (hz : pz.length = l) (hzl : l ≤ 140737488355328) (hzb : Bytes w pa pz) :
    Calls Try.prog 97 #[layV n c pa l k err sn sc da dl dc ub, .pointer (some ⟨m, 0, none⟩)] w (AskOut w x ⟨2, n, c, l⟩ pz (missL X)) := by
  have HM : Hid (Mach w m a cap x t v) := hM
  have HT : Hid (Tal 117 ansU w ub bb at' ct X) := hT
  have HL : Hid (X.g.length ≤ 400000000000) := hl
  have HZ : Hid (pz.length = l) := hz
  have HZB : Hid (Bytes w pa pz) := hzb
  clear hM hT hl hz hzb
  obtain ⟨w1, hw1⟩ : ∃ w1, w1 = w.alloc (.cells #[.int .i64 n, .int .i64 c, .slice pa l k, .int .i64 err, .string ⟨#[]⟩, .int .i64 0, .int .i64 0, .int .i64 0, .slice none 0 0, .slice da dl dc, .int .i64 0, .int .i64 sn, .int .i64 sc, .int .i64 0, .pointer (some ⟨ub, 0, none⟩)] 163) := ⟨_, rfl⟩
  obtain ⟨N, hN⟩ : ∃ N, N = w.heap.size := ⟨_, rfl⟩
  have HK1 : Hid (Kept No w w1) := by rw [hw1]; exact (Kept.refl No w).alloc _
  have HX : Hid (Box w1 N 163 #[.int .i64 n, .int .i64 c, .slice pa l k, .int .i64 err, .string ⟨#[]⟩, .int .i64 0, .int .i64 0, .int .i64 0, .slice none 0 0, .slice da dl dc, .int .i64 0, .int .i64 sn, .int .i64 sc, .int .i64 0, .pointer (some ⟨ub, 0, none⟩)]) := by rw [hw1, hN]; exact Box.new _ _ _
  have HXc : Hid (∀ wr, Kept No w1 wr → wr.cell? ⟨N, 0, none⟩ = some (.int .i64 n) ∧ wr.cell? ⟨N, 1, none⟩ = some (.int .i64 c) ∧ wr.cell? ⟨N, 2, none⟩ = some (.slice pa l k) ∧ wr.cell? ⟨N, 14, none⟩ = some (.pointer (some ⟨ub, 0, none⟩))) := fun wr hk => by
    have h := HX.out.kept hk (fun e => e)
    exact ⟨h.cell 0, h.cell 1, h.cell 2, h.cell 14⟩
  unfold layV
  go_enter Try.func97, Try.ntmps97
  go_upto_region 1 with fail
  rw [← hw1, ← hN]
  clear hw1 hN
  obtain ⟨x0, x1, x2, x3⟩ := HXc.out w1 (Kept.refl _ _)
  have HKr : Hid (Kept No w1 w1.drew) := (Kept.refl No w1).drew
  go_region_held3 (fun w' => w'.cell? ⟨N, 0, none⟩ = some (.int .i64 n) ∧ w'.cell? ⟨N, 1, none⟩ = some (.int .i64 c) ∧ w'.cell? ⟨N, 2, none⟩ = some (.slice pa l k) ∧ w'.cell? ⟨N, 14, none⟩ = some (.pointer (some ⟨ub, 0, none⟩))) (go_keep) (first
    | (go_at_call 43
       refine Calls.mono (missing_anyU ub bb ct at' X w1.drew (HT.out.no (HK1.out.then HKr.out))) ?_
       rintro e w2 ⟨a2, c2, rfl, hO2, hk2⟩
       have HO2 : Hid (Own 3 1 w2 w1.heap.size a2 c2 (missL X).length ((missL X).map (Value.int .i64))) := hO2
       have HK2 : Hid (Kept No w1 w2) := HKr.out.then hk2
       have HL2 : Hid ((missL X).length ≤ 400000000000) := Nat.le_trans (missL_len X) HL.out
       obtain ⟨y0, y1, y2, y3⟩ := HXc.out w2 HK2.out
       clear hO2 hk2)
    | (go_at_call 88
       refine Calls.mono (ask_any m a cap x t v 2 n c pa l k pz a2 (missL X).length c2 (missL X) w2 (HM.out.no (HK1.out.then HK2.out)) HZ.out hzl (HZB.out.no (HK1.out.then HK2.out)) rfl HL2.out (HO2.out.nums rfl)) ?_
       rintro e w3 ⟨a3, c3, qs, rfl, hq, hm3, hk3⟩
       have HQ : Hid (qs.map Qm.sv = missL X) := hq
       have HM3 : Hid (Msgs w3 w2.heap.size a3 c3 x ⟨2, n, c, l⟩ pz qs) := hm3
       have HK3 : Hid (Kept No w1 w3) := HK2.out.then hk3
       obtain ⟨z0, z1, z2, z3⟩ := HXc.out w3 HK3.out
       clear hq hm3 hk3))
  go_wp2
  go_ret
  exact ⟨a3, c3, qs, rfl, HQ.out, HM3.out.lower (HK1.out.then HK2.out).size, HK1.out.then HK3.out⟩

set_option maxRecDepth 100000 in
set_option maxHeartbeats 2000000 in
theorem enterL_any (m : Nat) (a : Option Addr) (cap : Nat) (x : MS) (t : TypeId) (v : Value) (n c : Int) (pa : Option Addr) (l k : Nat) (err sn sc : Int) (da : Option Addr) (dl dc : Nat) (ub bb ct : Nat) (at' : Option Addr) (X : TS Unit) (pz : List Int) (w : World) (hM : Mach w m a cap x t v) (hT : Tal 117 ansU w ub bb at' ct X) (hl : X.g.length ≤ 400000000000) (hz : pz.length = l) (hzl : l ≤ 140737488355328) (hzb : Bytes w pa pz) (hd : ¬ TB ub bb at' m) (hpm : ¬ At pa m) :
    Calls Try.prog 75 #[.pointer (some ⟨m, 0, none⟩), .iface 163 (layV n c pa l k err sn sc da dl dc ub)] w (EnterOut w m a cap x 163 (layV n c pa l k err sn sc da dl dc ub) ⟨2, n, c, l⟩ pz (missL X)) := by
  have c9 := hM.box.cell 9
  have f9 := hM.box.frozen 9
  simp only [mC, List.getElem?_toArray, List.getElem?_cons_zero, List.getElem?_cons_succ] at c9
  have hm := meth_tickL n c pa l k err sn sc da dl dc ub
  have HTk : Hid (∀ w1, Mach w1 m a cap x 163 (layV n c pa l k err sn sc da dl dc ub) → Tal 117 ansU w1 ub bb at' ct X → Bytes w1 pa pz → Calls Try.prog 97 #[layV n c pa l k err sn sc da dl dc ub, .pointer (some ⟨m, 0, none⟩)] w1 (AskOut w1 x ⟨2, n, c, l⟩ pz (missL X))) := fun w1 h1 h2 h3 => tickL_any m a cap x _ _ n c pa l k err sn sc da dl dc ub bb ct at' X pz w1 h1 h2 hl hz hzl h3
  generalize layV n c pa l k err sn sc da dl dc ub = LVV at hm HTk ⊢
  obtain ⟨w1, hw1⟩ : ∃ w1, w1 = w.setCell ⟨m, 9, none⟩ (.iface 163 LVV) := ⟨_, rfl⟩
  have HM1 : Hid (Mach w1 m a cap x 163 LVV) := by rw [hw1]; exact hM.setPhase _ _
  have HK1 : Hid (Kept (Only m) w w1) := by rw [hw1]; exact (Kept.refl (Only m) w).setCell (p := ⟨m, 9, none⟩) (fun _ => rfl) _
  have HT1 : Hid (Tal 117 ansU w1 ub bb at' ct X) := hT.kept HK1.out (fun k hk e => hd (by have : k = m := e; rw [← this]; exact hk))
  have HB1 : Hid (Bytes w1 pa pz) := hzb.kept HK1.out (fun b off e h => hpm ⟨_, e, h⟩)
  clear hM hT hl hd hz hzb hpm
  go_enter Try.func75, Try.ntmps75
  go_wp2_with (go_at_call 97
               rw [← hw1]
               refine Calls.mono (HTk.out w1 HM1.out HT1.out HB1.out) ?_
               rintro e w3 ⟨a3, c3, qs, rfl, hq, hm3, hk3⟩
               have HQ : Hid (qs.map Qm.sv = missL X) := hq
               have HQ3 : Hid (Msgs w3 w.heap.size a3 c3 x ⟨2, n, c, l⟩ pz qs) := hm3.lower HK1.out.size
               have HM3 : Hid (Mach w3 m a cap x 163 LVV) := HM1.out.no hk3
               have HK3 : Hid (Kept (Only m) w w3) := HK1.out.then hk3.of_no
               clear hq hm3 hk3 hw1)
  go_ret
  exact ⟨a3, c3, qs, rfl, HQ.out, HQ3.out, HM3.out, HK3.out⟩

set_option maxRecDepth 100000 in
set_option maxHeartbeats 2000000 in
theorem machTickA_any (m : Nat) (a : Option Addr) (cap : Nat) (x : MS) (ai : TypeId) (av : Value) (tb bb ct : Nat) (at' : Option Addr) (X : TS Bk) (w : World) (hM : Mach w m a cap x 150 (.agg #[.iface ai av, .pointer (some ⟨tb, 0, none⟩)])) (hT : Tal 153 ansB w tb bb at' ct X) (hl : X.g.length ≤ 400000000000) :
    Calls Try.prog 65 #[.pointer (some ⟨m, 0, none⟩)] w (AskOut w x ⟨1, 0, 0, 0⟩ [] (missL X)) := by
  have c9 := hM.box.cell 9
  simp only [mC, List.getElem?_toArray, List.getElem?_cons_zero, List.getElem?_cons_succ] at c9
  have HC : Hid _ := tickA_any m a cap x _ _ ai av tb bb ct at' X w hM hT hl
  have hm := meth_tickA
  clear hM hT
  go_enter Try.func65, Try.ntmps65
  go_wp2_with (go_at_call 85
               refine Calls.mono HC.out ?_
               rintro e w3 ⟨a3, c3, qs, rfl, hO⟩
               have HO : Hid _ := hO
               clear hO)
  go_ret
  exact ⟨a3, c3, qs, rfl, HO.out⟩

set_option maxRecDepth 100000 in
set_option maxHeartbeats 2000000 in
theorem machTickL_any (m : Nat) (a : Option Addr) (cap : Nat) (x : MS) (n c : Int) (pa : Option Addr) (l k : Nat) (err sn sc : Int) (da : Option Addr) (dl dc : Nat) (ub bb ct : Nat) (at' : Option Addr) (X : TS Unit) (pz : List Int) (w : World) (hM : Mach w m a cap x 163 (layV n c pa l k err sn sc da dl dc ub)) (hT : Tal 117 ansU w ub bb at' ct X) (hl : X.g.length ≤ 400000000000) (hz : pz.length = l) (hzl : l ≤ 140737488355328) (hzb : Bytes w pa pz) :
    Calls Try.prog 65 #[.pointer (some ⟨m, 0, none⟩)] w (AskOut w x ⟨2, n, c, l⟩ pz (missL X)) := by
  have c9 := hM.box.cell 9
  simp only [mC, List.getElem?_toArray, List.getElem?_cons_zero, List.getElem?_cons_succ] at c9
  have HC : Hid _ := tickL_any m a cap x _ _ n c pa l k err sn sc da dl dc ub bb ct at' X pz w hM hT hl hz hzl hzb
  have hm := meth_tickL n c pa l k err sn sc da dl dc ub
  clear hM hT hzb
  generalize layV n c pa l k err sn sc da dl dc ub = LVV at hm HC c9
  go_enter Try.func65, Try.ntmps65
  go_wp2_with (go_at_call 97
               refine Calls.mono HC.out ?_
               rintro e w3 ⟨a3, c3, qs, rfl, hO⟩
               have HO : Hid _ := hO
               clear hO)
  go_ret
  exact ⟨a3, c3, qs, rfl, HO.out⟩

set_option maxRecDepth 100000 in
set_option maxHeartbeats 2000000 in
theorem machTickE_any (m : Nat) (a : Option Addr) (cap : Nat) (x : MS) (err sn sc : Int) (da : Option Addr) (dl dc : Nat) (w : World) (hM : Mach w m a cap x 145 (endV err sn sc da dl dc)) :
    Calls Try.prog 65 #[.pointer (some ⟨m, 0, none⟩)] w (fun e w' => e = .returned (.slice none 0 0) ∧ Kept No w w') := by
  have c9 := hM.box.cell 9
  simp only [mC, List.getElem?_toArray, List.getElem?_cons_zero, List.getElem?_cons_succ] at c9
  have hm := meth_tickE err sn sc da dl dc
  generalize endV err sn sc da dl dc = EV at hm c9
  clear hM
  go_enter Try.func65, Try.ntmps65
  go_wp2_with (go_at_call 73
               refine Calls.mono (tick0_any _ w) ?_
               rintro e w3 ⟨rfl, hk⟩
               have HK : Hid (Kept No w w3) := hk
               clear hk)
  go_ret
  exact ⟨rfl, HK.out⟩

end Go.Proofs.Ytgiokkcdgoloaab
