import Derived.Test.YtgiokkcdgoloaabMf
namespace Go.Proofs.Ytgiokkcdgoloaab
open Go.RowKit
set_option linter.unusedVariables false
set_option linter.unusedSimpArgs false

theorem uq_gen2 (l : List Int) : ∀ acc : List Int, (acc ++ l).Nodup → l.foldl (fun acc n => if n ∈ acc then acc else acc ++ [n]) acc = acc ++ l := by
  induction l with
  | nil => intro acc _; simp
  | cons n l ih =>
    intro acc h
    rw [List.foldl_cons]
    have hn : n ∉ acc := fun e => by
      rw [List.nodup_append] at h
      exact h.2.2 n e n (by simp) rfl
    rw [if_neg hn, ih (acc ++ [n]) (by simpa using h)]
    simp
theorem uq_self {l : List Int} (h : l.Nodup) : uq l = l := by
  have := uq_gen2 l [] (by simpa using h)
  simpa [uq] using this

theorem missL_len {α : Type} (x : TS α) : (missL x).length ≤ x.g.length := List.length_filter_le _ _

set_option maxRecDepth 100000 in
set_option maxHeartbeats 2000000 in
theorem tickA_any (m : Nat) (a : Option Addr) (cap : Nat) (x : MS) (t : TypeId) (v : Value) (ai : TypeId) (av : Value) (tb bb ct : Nat) (at' : Option Addr) (X : TS Bk) (w : World) (hM : Mach w m a cap x t v) (hT : Tal 153 ansB w tb bb at' ct X) (hl : X.g.length ≤ 400000000000) :
    Calls Try.prog 85 #[.agg #[.iface ai av, .pointer (some ⟨tb, 0, none⟩)], .pointer (some ⟨m, 0, none⟩)] w (AskOut w x ⟨1, 0, 0, 0⟩ [] (missL X)) := by
  have HM : Hid (Mach w m a cap x t v) := hM
  have HT : Hid (Tal 153 ansB w tb bb at' ct X) := hT
  have HL : Hid (X.g.length ≤ 400000000000) := hl
  clear hM hT hl
  obtain ⟨w1, hw1⟩ : ∃ w1, w1 = w.alloc (.cells #[.iface ai av, .pointer (some ⟨tb, 0, none⟩)] 150) := ⟨_, rfl⟩
  have HK1 : Hid (Kept No w w1) := by rw [hw1]; exact (Kept.refl No w).alloc _
  go_enter Try.func85, Try.ntmps85
  go_wp2_with (first
    | (go_at_call 82
       rw [← hw1]
       refine Calls.mono (missing_anyB tb bb ct at' X w1 (HT.out.no HK1.out)) ?_
       rintro e w2 ⟨a2, c2, rfl, hO2, hk2⟩
       have HO2 : Hid (Own 3 1 w2 w1.heap.size a2 c2 (missL X).length ((missL X).map (Value.int .i64))) := hO2
       have HK2 : Hid (Kept No w w2) := HK1.out.then hk2
       have HL2 : Hid ((missL X).length ≤ 400000000000) := Nat.le_trans (missL_len X) HL.out
       clear hO2 hk2 hw1)
    | (go_at_call 88
       refine Calls.mono (ask_any m a cap x t v 1 0 0 none 0 0 [] a2 (missL X).length c2 (missL X) w2 (HM.out.no HK2.out) rfl (by omega) (Nums.nil _ _ _) rfl HL2.out (HO2.out.nums rfl)) ?_
       rintro e w3 ⟨a3, c3, qs, rfl, hq, hm3, hk3⟩
       have HQ : Hid (qs.map Qm.sv = missL X) := hq
       have HM3 : Hid (Msgs w3 w2.heap.size a3 c3 x ⟨1, 0, 0, 0⟩ [] qs) := hm3
       have HK3 : Hid (Kept No w w3) := HK2.out.then hk3
       clear hq hm3 hk3))
  go_ret
  exact ⟨a3, c3, qs, rfl, HQ.out, HM3.out.lower HK2.out.size, HK3.out⟩

theorem Mach.setPhase {w : World} {m cap : Nat} {a : Option Addr} {x : MS} {t : TypeId} {v : Value} (h : Mach w m a cap x t v) (t' : TypeId) (v' : Value) : Mach (w.setCell ⟨m, 9, none⟩ (.iface t' v')) m a cap x t' v' := by
  refine ⟨?_, h.row.kept ((Kept.refl (Only m) w).setCell (p := ⟨m, 9, none⟩) (fun _ => rfl) _) (fun k hk e => h.off hk e), h.nd, h.len⟩
  have := h.box.set 9 (.iface t' v')
  exact this

theorem meth_tickA (a1 a2 : Value) (w : World) : (method 280 150 (.agg #[a1, a2]) "cairn/register.tick").run Try.prog w = .ok (85, .agg #[a1, a2]) w := by kernel_rfl

def EnterOut (w : World) (m : Nat) (a : Option Addr) (cap : Nat) (x : MS) (t : TypeId) (v : Value) (h : Qh) (zs ss : List Int) (e : Ending) (w' : World) : Prop :=
  ∃ a' cap' qs, e = .returned (.slice a' qs.length cap') ∧ qs.map Qm.sv = ss ∧ Msgs w' w.heap.size a' cap' x h zs qs ∧ Mach w' m a cap x t v ∧ Kept (Only m) w w'

set_option maxRecDepth 100000 in
set_option maxHeartbeats 2000000 in
theorem enterA_any (m : Nat) (a : Option Addr) (cap : Nat) (x : MS) (t : TypeId) (v : Value) (ai : TypeId) (av : Value) (tb bb ct : Nat) (at' : Option Addr) (X : TS Bk) (w : World) (hM : Mach w m a cap x t v) (hT : Tal 153 ansB w tb bb at' ct X) (hl : X.g.length ≤ 400000000000) (hd : ¬ TB tb bb at' m) :
    Calls Try.prog 75 #[.pointer (some ⟨m, 0, none⟩), .iface 150 (.agg #[.iface ai av, .pointer (some ⟨tb, 0, none⟩)])] w (EnterOut w m a cap x 150 (.agg #[.iface ai av, .pointer (some ⟨tb, 0, none⟩)]) ⟨1, 0, 0, 0⟩ [] (missL X)) := by
  have c9 := hM.box.cell 9
  have f9 := hM.box.frozen 9
  simp only [mC, List.getElem?_toArray, List.getElem?_cons_zero, List.getElem?_cons_succ] at c9
  obtain ⟨w1, hw1⟩ : ∃ w1, w1 = w.setCell ⟨m, 9, none⟩ (.iface 150 (.agg #[.iface ai av, .pointer (some ⟨tb, 0, none⟩)])) := ⟨_, rfl⟩
  have HM1 : Hid (Mach w1 m a cap x 150 (.agg #[.iface ai av, .pointer (some ⟨tb, 0, none⟩)])) := by rw [hw1]; exact hM.setPhase _ _
  have HK1 : Hid (Kept (Only m) w w1) := by rw [hw1]; exact (Kept.refl (Only m) w).setCell (p := ⟨m, 9, none⟩) (fun _ => rfl) _
  have HT1 : Hid (Tal 153 ansB w1 tb bb at' ct X) := hT.kept HK1.out (fun k hk e => hd (by have : k = m := e; rw [← this]; exact hk))
  have HL : Hid (X.g.length ≤ 400000000000) := hl
  clear hM hT hl hd
  have hm := meth_tickA
  go_enter Try.func75, Try.ntmps75
  go_wp2_with (go_at_call 85
               rw [← hw1]
               refine Calls.mono (tickA_any m a cap x _ _ ai av tb bb ct at' X w1 HM1.out HT1.out HL.out) ?_
               rintro e w3 ⟨a3, c3, qs, rfl, hq, hm3, hk3⟩
               have HQ : Hid (qs.map Qm.sv = missL X) := hq
               have HQ3 : Hid (Msgs w3 w.heap.size a3 c3 x ⟨1, 0, 0, 0⟩ [] qs) := hm3.lower HK1.out.size
               have HM3 : Hid (Mach w3 m a cap x 150 (.agg #[.iface ai av, .pointer (some ⟨tb, 0, none⟩)])) := HM1.out.no hk3
               have HK3 : Hid (Kept (Only m) w w3) := HK1.out.then hk3.of_no
               clear hq hm3 hk3 hw1)
  go_ret
  exact ⟨a3, c3, qs, rfl, HQ.out, HQ3.out, HM3.out, HK3.out⟩

def needI (x : MS) : Int := (x.g.length : Int) / 2 + 1

set_option maxRecDepth 100000 in
theorem need_any (m : Nat) (a : Option Addr) (cap : Nat) (x : MS) (t : TypeId) (v : Value) (w : World) (hM : Mach w m a cap x t v) :
    Calls Try.prog 78 #[.pointer (some ⟨m, 0, none⟩)] w (fun e w' => e = .returned (.int .i64 (needI x)) ∧ w' = w) := by
  have c7 := hM.box.cell 7
  simp only [mC, List.getElem?_toArray, List.getElem?_cons_zero, List.getElem?_cons_succ] at c7
  have hl := hM.len
  have HN : Hid (needI x = (x.g.length : Int) / 2 + 1) := rfl
  generalize needI x = N at HN
  generalize x.g.length = n at c7 hl HN
  clear hM
  go_enter Try.func78, Try.ntmps78
  go_wp2
  go_ret
  refine ⟨ret_int ?_, rfl⟩
  rw [HN.out]
end Go.Proofs.Ytgiokkcdgoloaab
