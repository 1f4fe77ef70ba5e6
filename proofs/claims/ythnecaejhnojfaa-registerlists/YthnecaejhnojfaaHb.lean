import Derived.Test.YthnecaejhnojfaaRf
import Derived.Test.YthnecaejhnojfaaHa
namespace Go.Proofs.Ythnecaejhnojfaa.Md
open Go.RowKit
set_option linter.unusedVariables false
set_option linter.unusedSimpArgs false

theorem OwI.nil (w : World) (base : Nat) : OwI w base slZ [] := ⟨Own.nil _ _ _ _, rfl⟩
theorem take_mem {l : List Int} {k : Nat} {z y : Int} (hk : k < l.length) (hy : l[k]?.getD 0 = y) : (z ∈ l.take (k + 1)) ↔ (z ∈ l.take k ∨ y = z) := by
  rw [take_snoc hk, hy, List.mem_append, List.mem_singleton, eq_comm (a := z)]
structure RdI (w : World) (s : Sl) (zs : List Int) : Prop where
  row : Nums .i64 w s.a zs
  len : zs.length = s.l
set_option maxRecDepth 100000 in
set_option maxHeartbeats 4000000 in
theorem rUnlike (sa : Option Addr) (n sk : Nat) (zs : List Int) (w : World) (hs : RdI w ⟨sa, n, sk⟩ zs) (hn : n ≤ 1000) : Calls Try.prog 34 #[.slice sa n sk] w (fun e w' => ∃ t : Sl, e = .returned t.v ∧ OwI w' w.heap.size t (uq zs) ∧ Kept No w w') := by
  obtain ⟨C, hC⟩ : ∃ C : Ending → World → Prop, C = (fun e w' => ∃ t : Sl, e = .returned t.v ∧ OwI w' w.heap.size t (uq zs) ∧ Kept No w w') := ⟨_, rfl⟩
  have HC : Hid (C = (fun e w' => ∃ t : Sl, e = .returned t.v ∧ OwI w' w.heap.size t (uq zs) ∧ Kept No w w')) := hC
  rw [← hC]
  clear hC
  have HS : Hid (Nums .i64 w sa zs) := hs.row
  have hle : zs.length = n := hs.len
  clear hs
  have HF : Hid (Fq No w w []) := Fq.start _ _
  go_enter Try.func34, Try.ntmps34
  go_upto_region 0 with fail
  refine WL.start <| uK (.slice none 0 0) <| WL.nil <| ?_
  try simp only [pS]
  go_upto_region 1 with fail
  refine WL.start <| uK (.slice none 0 0) <| WL.nil <| ?_
  try simp only [pS]
  go_upto_region 2 with fail
  refine WL.start <| uK (.int .i64 0) <| WL.nil <| ?_
  try simp only [pS]
  go_wp2
  go_loopw [3, 4] (fun v3 v4 wr => ∃ (i : Nat) (oa : Option Addr) (on oc : Nat), v3 = .slice oa on oc ∧ v4 = .int .i64 ((i : Nat) : Int) ∧ i ≤ n ∧ on ≤ i ∧ Hid (OwI wr w.heap.size ⟨oa, on, oc⟩ (uq (zs.take i))) ∧ Hid (Fq No w wr [])) (fun _ i _ => n - (intOf i).toNat)
  case atStart => exact ⟨0, none, 0, 0, rfl, by go_num, by omega, by omega, OwI.nil _ _, HF⟩
  case round =>
    rename World => wo
    clear HF
    obtain ⟨i, oa, on, oc, rfl, rfl, hi, hon, HO, HF⟩ := hrel
    by_cases hlt : i < n
    · skip
      obtain ⟨ab, aoff, rfl, hac⟩ := HS.out i (by omega)
      obtain ⟨z, hz⟩ : ∃ z, z = zs[i]?.getD 0 := ⟨_, rfl⟩
      rw [← hz] at hac
      have HAc : Hid (w.cell? ⟨ab, aoff + i * 1, none⟩ = some (.int .i64 z)) := by rw [Nat.mul_one]; exact hac
      have HZ : Hid (z = zs[i]?.getD 0) := hz
      have HUq : Hid (uq (zs.take (i + 1)) = if z ∈ uq (zs.take i) then uq (zs.take i) else uq (zs.take i) ++ [z]) := by show _ = _; rw [take_snoc (by omega), uq_snoc, ← hz]
      clear hac hz
      go_upto_region 3 with fail
      refine WL.start <| uK (.int .i64 ((i : Nat) : Int)) <| uK (.slice (some ⟨ab, aoff, none⟩) n sk) <| uK (.int .i64 ((n : Nat) : Int)) <| uB .lss 3 (.int .i64 ((i : Nat) : Int)) (.int .i64 ((n : Nat) : Int)) (.bool true) (by rw [b_lss, decide_eq_true (by omega)]) <| WL.nil <| ?_
      try simp only [pS]
      go_upto_region 5 with fail
      refine WL.start <| uK (.bool false) <| WL.nil <| ?_
      try simp only [pS]
      go_upto_region 6 with fail
      refine WL.start <| uK (.int .i64 0) <| WL.nil <| ?_
      try simp only [pS]
      go_wp2
      go_loopw [5, 6] (fun v5 v6 wq => ∃ (k : Nat) (b : Bool), v5 = .bool b ∧ v6 = .int .i64 ((k : Nat) : Int) ∧ k ≤ on ∧ Hid (b = decide (z ∈ (uq (zs.take i)).take k)) ∧ Hid (Kept No wo wq)) (fun _ k _ => on - (intOf k).toNat)
      case atStart => exact ⟨0, false, rfl, by go_num, by omega, show false = decide (z ∈ (uq (zs.take i)).take 0) by simp, Kept.refl No _⟩
      case round =>
        obtain ⟨k, b, rfl, rfl, hk, HP, HKq⟩ := hrel
        have HO1 : Hid (OwI wr w.heap.size ⟨oa, on, oc⟩ (uq (zs.take i))) := HO.out.no HKq.out
        have HF1 : Hid (Fq No w wr []) := HF.out.no HKq.out
        have hol : (uq (zs.take i)).length = on := HO.out.len
        clear HF HO
        have HF := HF1
        have HO := HO1
        clear HF1 HO1
        by_cases hlk : k < on
        · skip
          obtain ⟨ob, rfl, hoc⟩ : ∃ g, oa = some ⟨g, 0, none⟩ ∧ wr.cell? ⟨g, 0 + k * 1, none⟩ = some (.int .i64 ((uq (zs.take i))[k]?.getD 0)) := HO.out.at (i := k) hlk
          obtain ⟨y, hy⟩ : ∃ y, y = (uq (zs.take i))[k]?.getD 0 := ⟨_, rfl⟩
          rw [← hy] at hoc
          have HOc : Hid (wr.cell? ⟨ob, 0 + k * 1, none⟩ = some (.int .i64 y)) := hoc
          have HTm := take_mem (z := z) (by rw [hol]; exact hlk) hy.symm
          clear hoc
          go_upto_region 7 with fail
          refine WL.start <| uK (.int .i64 ((k : Nat) : Int)) <| uK (.slice (some ⟨ob, 0, none⟩) on oc) <| uK (.int .i64 ((on : Nat) : Int)) <| uB .lss 3 (.int .i64 ((k : Nat) : Int)) (.int .i64 ((on : Nat) : Int)) (.bool true) (by rw [b_lss, decide_eq_true (by omega)]) <| WL.nil <| ?_
          try simp only [pS]
          cases q1 : (b)
          ·skip
           try simp only [q1]
           have HF0 := HF
           go_upto_region 9 with fail
           refine wp_region_held_drew (S := fun w' => Kept No wr w') rfl (Kept.refl No _).drew (fun hH => ?_)
           have HKq2 : Hid (Kept No wo (wr.drew)) := HKq.out.drew
           have HF : Hid (Fq No w (wr.drew) []) := HF.out.drew
           generalize wr.drew = wk1 at HF HKq2 hH ⊢
           refine xV 0 19 (.bool false) hH <| xV 1 20 (.bool false) hH <| xV 2 21 (.slice (some ⟨ob, 0, none⟩) on oc) hH <| xV 3 22 (.int .i64 ((k : Nat) : Int)) hH <| xU 4 23 (.pointer (some ⟨ob, 0 + k * 1, none⟩)) (fun w' hw => exec_ixA 24 1 E24 F24 _ _ rfl ob 0 on oc k (by kernel_rfl) (by kernel_rfl) (by omega)) hH <| xL 5 24 3 ⟨ob, 0 + k * 1, none⟩ (.int .i64 y) (fun _ hw => load_one (hw.cell HOc.out (fun e => e)) U3 rfl) hH <| ?_
           try simp only [pS]
           refine xV 6 25 (.slice (some ⟨ab, aoff, none⟩) n sk) hH <| xV 7 26 (.int .i64 ((i : Nat) : Int)) hH <| xU 8 27 (.pointer (some ⟨ab, aoff + i * 1, none⟩)) (fun w' hw => exec_ixA 24 1 E24 F24 _ _ rfl ab aoff n sk i (by kernel_rfl) (by kernel_rfl) (by omega)) hH <| xL 9 28 3 ⟨ab, aoff + i * 1, none⟩ (.int .i64 z) (fun _ hw => load_one ((HF0.out.kept.then hw).cell HAc.out (fun e => e)) U3 rfl) hH <| ?_
           try simp only [pS]
           cases q2 : (y == z)
           ·skip
            refine xB 10 29 .eql 3 (.int .i64 y) (.int .i64 z) (.bool false) (fun _ _ => by rw [b_eql, q2]; try rfl) hH <| xV 11 30 (.bool false) hH <| xV 12 5 (.bool false) hH <| ?_
            try simp only [pS]
            refine wpAnyH_done (by kernel_rfl) ?_ _
            try simp only [pS]
            clear hH
            clear HF0
            have HP2 : Hid (false = decide (z ∈ (uq (zs.take i)).take (k + 1))) := by show false = _; rw [eq_comm, decide_eq_false_iff_not, HTm]; exact fun h => h.elim (fun h => absurd h (of_decide_eq_false (HP.out.symm.trans q1))) (fun h => by rw [h, beq_self_eq_true] at q2; cases q2)
            go_upto_region 8 with fail
            refine WL.start <| uK (.int .i64 ((k : Nat) : Int)) <| uB .add 3 (.int .i64 ((k : Nat) : Int)) (.int .i64 1) (.int .i64 (((k + 1) : Nat) : Int)) (b_addw _ _ _ (by rw [IntKind.wrap_i64]; omega) _) <| uK (.int .i64 (((k + 1) : Nat) : Int)) <| WL.nil <| ?_
            try simp only [pS]
            go_wp2
            go_roundw
            case rel => exact ⟨k + 1, _, rfl, by go_num, by omega, HP2, HKq2⟩
            case measure => simp [intOf]; omega
           ·skip
            refine xB 10 29 .eql 3 (.int .i64 y) (.int .i64 z) (.bool true) (fun _ _ => by rw [b_eql, q2]; try rfl) hH <| xV 11 30 (.bool true) hH <| xV 12 5 (.bool true) hH <| ?_
            try simp only [pS]
            refine wpAnyH_done (by kernel_rfl) ?_ _
            try simp only [pS]
            clear hH
            clear HF0
            have HP2 : Hid (true = decide (z ∈ (uq (zs.take i)).take (k + 1))) := by show true = _; rw [eq_comm, decide_eq_true_eq, HTm]; exact .inr (beq_iff_eq.1 q2)
            go_upto_region 8 with fail
            refine WL.start <| uK (.int .i64 ((k : Nat) : Int)) <| uB .add 3 (.int .i64 ((k : Nat) : Int)) (.int .i64 1) (.int .i64 (((k + 1) : Nat) : Int)) (b_addw _ _ _ (by rw [IntKind.wrap_i64]; omega) _) <| uK (.int .i64 (((k + 1) : Nat) : Int)) <| WL.nil <| ?_
            try simp only [pS]
            go_wp2
            go_roundw
            case rel => exact ⟨k + 1, _, rfl, by go_num, by omega, HP2, HKq2⟩
            case measure => simp [intOf]; omega
          ·skip
           try simp only [q1]
           have HF0 := HF
           go_upto_region 9 with fail
           refine wp_region_held_drew (S := fun w' => Kept No wr w') rfl (Kept.refl No _).drew (fun hH => ?_)
           have HKq2 : Hid (Kept No wo (wr.drew)) := HKq.out.drew
           have HF : Hid (Fq No w (wr.drew) []) := HF.out.drew
           generalize wr.drew = wk2 at HF HKq2 hH ⊢
           refine xV 0 19 (.bool true) hH <| xV 1 20 (.bool true) hH <| xZ 2 21 hH <| xZ 3 22 hH <| xZ 4 23 hH <| xZ 5 24 hH <| ?_
           try simp only [pS]
           refine xZ 6 25 hH <| xZ 7 26 hH <| xZ 8 27 hH <| xZ 9 28 hH <| xZ 10 29 hH <| xV 11 30 (.bool true) hH <| ?_
           try simp only [pS]
           refine xV 12 5 (.bool true) hH ?_
           try simp only [pS]
           refine wpAnyH_done (by kernel_rfl) ?_ _
           try simp only [pS]
           clear hH
           clear HF0
           have HP2 : Hid (true = decide (z ∈ (uq (zs.take i)).take (k + 1))) := by show true = _; rw [eq_comm, decide_eq_true_eq, HTm]; exact .inl (of_decide_eq_true (HP.out.symm.trans q1))
           go_upto_region 8 with fail
           refine WL.start <| uK (.int .i64 ((k : Nat) : Int)) <| uB .add 3 (.int .i64 ((k : Nat) : Int)) (.int .i64 1) (.int .i64 (((k + 1) : Nat) : Int)) (b_addw _ _ _ (by rw [IntKind.wrap_i64]; omega) _) <| uK (.int .i64 (((k + 1) : Nat) : Int)) <| WL.nil <| ?_
           try simp only [pS]
           go_wp2
           go_roundw
           case rel => exact ⟨k + 1, _, rfl, by go_num, by omega, HP2, HKq2⟩
           case measure => simp [intOf]; omega
        · skip
          have hb : b = decide (z ∈ uq (zs.take i)) := by have h := HP.out; rw [List.take_of_length_le (by omega)] at h; exact h
          go_upto_region 7 with fail
          refine WL.start <| uK (.int .i64 ((k : Nat) : Int)) <| uK (.slice oa on oc) <| uK (.int .i64 ((on : Nat) : Int)) <| uB .lss 3 (.int .i64 ((k : Nat) : Int)) (.int .i64 ((on : Nat) : Int)) (.bool false) (by rw [b_lss, decide_eq_false (by omega)]) <| WL.nil <| ?_
          try simp only [pS]
          cases q3 : (b)
          ·skip
           try simp only [q3]
           go_upto_region 10 with fail
           refine WL.start <| uK (.bool false) <| uK (.bool true) <| WL.nil <| ?_
           try simp only [pS]
           have HU : Hid (uq (zs.take (i + 1)) = uq (zs.take i) ++ [z]) := by rw [HUq.out, if_neg (of_decide_eq_false (hb.symm.trans q3))]; exact rfl
           go_upto_region 11 with fail
           refine WL.start <| uK (.slice oa on oc) <| uK (.slice (some ⟨ab, aoff, none⟩) n sk) <| uK (.int .i64 ((i : Nat) : Int)) <| uW (.pointer (some ⟨ab, aoff + i * 1, none⟩)) (exec_ixA 24 1 E24 F24 _ _ rfl ab aoff n sk i (by kernel_rfl) (by kernel_rfl) (by omega)) <| uL 3 ⟨ab, aoff + i * 1, none⟩ (.int .i64 z) (load_one (HF.out.kept.cell HAc.out (fun e => e)) U3 rfl) <| ?_
           try simp only [pS]
           refine uR (.slice (some ⟨wr.heap.size, 0, none⟩) 1 1) (wr.alloc (.cells (#[.int .i64 z]) 3)) (exec_slice2 24 3 _ rfl (#[.int .i64 z]) (.int .i64 z) (by kernel_rfl) (by kernel_rfl)) ?_
           try simp only [pS]
           have HO : Hid (OwI (wr.alloc (.cells (#[.int .i64 z]) 3)) w.heap.size ⟨oa, on, oc⟩ (uq (zs.take i))) := HO.out.no ((Kept.refl No _).alloc _)
           have HF : Hid (Fq No w (wr.alloc (.cells (#[.int .i64 z]) 3)) [(wr.heap.size, 3, #[.int .i64 z])]) := HF.out.alloc _ _
           generalize wr.alloc (.cells (#[.int .i64 z]) 3) = wk4 at HF HO ⊢
           generalize wr.heap.size = gk3 at HF ⊢
           obtain ⟨oa2, cap2, w2, hrun, hown, hk2, hat2⟩ := run_appN (w := wk4) 24 24 3 1 8 (.int .i64 0) U24 I3 rfl (by omega) w.heap.size on oc oa (List.map (Value.int .i64) (uq (zs.take i))) HO.out.own (some ⟨gk3, 0, none⟩) 1 1 [.int .i64 z] rfl (fun e => by cases e) (fun j u hj => ⟨_, rfl, by rw [addr_add, Nat.zero_add, (HF.out.box 0 _ _ _ rfl).cell]; simpa using hj⟩) (by simp [Value.oneCell']) (by omega) (by omega) (by have := HF.out.kept.size; omega)
           refine uR (.slice oa2 (on + 1) cap2) w2 (exec_appN _ _ 24 24 rfl _ _ (by kernel_rfl) (by kernel_rfl) hrun) ?_
           try simp only [pS]
           have HO2 : Hid (OwI w2 w.heap.size ⟨oa2, on + 1, cap2⟩ (uq (zs.take (i + 1)))) := ⟨by rw [HU.out, List.map_append]; exact hown, by rw [HU.out, List.length_append]; exact congrArg (· + 1) HO.out.len⟩
           have HF0 : Hid (Fq No w w2 []) := (show Fq No w wk4 ([] ++ [(gk3, 3, #[.int .i64 z])]) from HF.out).front.app HO.out.own hk2 (by simp)
           clear hown hk2 hat2 hrun
           refine uK (.slice oa2 (on + 1) cap2) <| WL.nil <| ?_
           try simp only [pS]
           have HF := HF0
           go_upto_region 4 with fail
           refine WL.start <| uK (.int .i64 ((i : Nat) : Int)) <| uB .add 3 (.int .i64 ((i : Nat) : Int)) (.int .i64 1) (.int .i64 (((i + 1) : Nat) : Int)) (b_addw _ _ _ (by rw [IntKind.wrap_i64]; omega) _) <| uK (.int .i64 (((i + 1) : Nat) : Int)) <| WL.nil <| ?_
           try simp only [pS]
           go_wp2
           go_roundw
           case rel => exact ⟨i + 1, oa2, on + 1, cap2, rfl, by go_num, by omega, by omega, HO2, HF0⟩
           case measure => simp [intOf]; omega
          ·skip
           try simp only [q3]
           go_upto_region 10 with fail
           refine WL.start <| uK (.bool true) <| uK (.bool false) <| WL.nil <| ?_
           try simp only [pS]
           have HO2 : Hid (OwI wr w.heap.size ⟨oa, on, oc⟩ (uq (zs.take (i + 1)))) := by rw [HUq.out, if_pos (of_decide_eq_true (hb.symm.trans q3))]; exact HO
           go_upto_region 4 with fail
           refine WL.start <| uK (.int .i64 ((i : Nat) : Int)) <| uB .add 3 (.int .i64 ((i : Nat) : Int)) (.int .i64 1) (.int .i64 (((i + 1) : Nat) : Int)) (b_addw _ _ _ (by rw [IntKind.wrap_i64]; omega) _) <| uK (.int .i64 (((i + 1) : Nat) : Int)) <| WL.nil <| ?_
           try simp only [pS]
           go_wp2
           go_roundw
           case rel => exact ⟨i + 1, oa, on, oc, rfl, by go_num, by omega, by omega, HO2, HF⟩
           case measure => simp [intOf]; omega
    · skip
      go_upto_region 3 with fail
      refine WL.start <| uK (.int .i64 ((i : Nat) : Int)) <| uK (.slice sa n sk) <| uK (.int .i64 ((n : Nat) : Int)) <| uB .lss 3 (.int .i64 ((i : Nat) : Int)) (.int .i64 ((n : Nat) : Int)) (.bool false) (by rw [b_lss, decide_eq_false (by omega)]) <| WL.nil <| ?_
      try simp only [pS]
      go_upto_region 12 with fail
      refine WL.start <| uK (.slice oa on oc) <| uK (.slice oa on oc) <| WL.nil <| ?_
      try simp only [pS]
      go_wp2
      rw [HC.out]
      exact ⟨⟨oa, on, oc⟩, rfl, by have h := HO.out; rw [show i = zs.length by omega, List.take_length] at h; exact h, HF.out.kept⟩

end Go.Proofs.Ythnecaejhnojfaa.Md
namespace Go.Proofs.Ythnecaejhnojfaa.Md
open Go.RowKit
set_option linter.unusedVariables false
set_option linter.unusedSimpArgs false

def szR (sz : Int) : Int := if sz < 0 then 0 else if 4096 < sz then 4096 else sz
theorem szR_lo (sz : Int) : 0 ≤ szR sz := by unfold szR; split <;> (try split) <;> omega
theorem szR_hi (sz : Int) : szR sz ≤ 4096 := by unfold szR; split <;> (try split) <;> omega
def newR (wr : Bool) (cl op : Int) (ky : Ky) (zs : List Int) (rd sz : Int) (bl : Sl) : Rx := ⟨wr, cl, op, ky, uq zs, rd, szR sz, bl, 0, [], [], spZ, 0⟩
set_option maxRecDepth 100000 in
set_option maxHeartbeats 4000000 in
theorem rNew (wr : Bool) (cl op : Int) (ky : Ky) (sa : Option Addr) (n sk : Nat) (zs : List Int) (rd sz : Int) (bl : Sl) (w : World) (hs : RdI w ⟨sa, n, sk⟩ zs) (hn : n ≤ 100) : Calls Try.prog 19 #[.bool wr, .int .i64 cl, .int .i64 op, .agg (Ky.cells ky), .slice sa n sk, .int .i64 rd, .int .i64 sz, bl.v] w (fun e w' => ∃ (r : Nat) (g : Sl), e = .returned (.pointer (some ⟨r, 0, none⟩)) ∧ RfG w' r (newR wr cl op ky zs rd sz bl) g slZ slZ ∧ w.heap.size ≤ r ∧ (∀ k, At g.a k → w.heap.size ≤ k) ∧ Kept No w w') := by
  obtain ⟨C, hC⟩ : ∃ C : Ending → World → Prop, C = (fun e w' => ∃ (r : Nat) (g : Sl), e = .returned (.pointer (some ⟨r, 0, none⟩)) ∧ RfG w' r (newR wr cl op ky zs rd sz bl) g slZ slZ ∧ w.heap.size ≤ r ∧ (∀ k, At g.a k → w.heap.size ≤ k) ∧ Kept No w w') := ⟨_, rfl⟩
  have HC : Hid (C = (fun e w' => ∃ (r : Nat) (g : Sl), e = .returned (.pointer (some ⟨r, 0, none⟩)) ∧ RfG w' r (newR wr cl op ky zs rd sz bl) g slZ slZ ∧ w.heap.size ≤ r ∧ (∀ k, At g.a k → w.heap.size ≤ k) ∧ Kept No w w')) := hC
  rw [← hC]
  clear hC
  have HS : Hid (RdI w ⟨sa, n, sk⟩ zs) := hs
  have hle : zs.length = n := hs.len
  clear hs
  have HF : Hid (Fq No w w []) := Fq.start _ _
  go_enter Try.func19, Try.ntmps19
  go_upto_region 0 with fail
  refine WL.start ?_
  refine uR (.pointer (some ⟨w.heap.size, 0, none⟩)) (w.alloc (.cells (Ky.cells ky) 23)) (exec_box 23 _ rfl (Ky.cells ky) (by kernel_rfl)) ?_
  try simp only [pS]
  have HF : Hid (Fq No w (w.alloc (.cells (Ky.cells ky) 23)) [(w.heap.size, 23, Ky.cells ky)]) := HF.out.alloc _ _
  generalize w.alloc (.cells (Ky.cells ky) 23) = wk2 at HF ⊢
  generalize w.heap.size = gk1 at HF ⊢
  refine uK (.pointer none) <| WL.nil <| ?_
  try simp only [pS]
  go_upto_region 1 with fail
  refine wp_region_held_drew (S := fun w' => Fq No w w' [(gk1, 23, Ky.cells ky)]) rfl (HF.out.drew) (fun hH => ?_)
  have HF : Hid (Fq No w (wk2.drew) [(gk1, 23, Ky.cells ky)]) := HF.out.drew
  generalize wk2.drew = wk3 at HF hH ⊢
  refine xV 0 18 (.bool wr) hH <| xV 1 19 (.int .i64 cl) hH <| xV 2 20 (.int .i64 op) hH <| xL 3 21 23 ⟨gk1, 0, none⟩ (.agg (Ky.cells ky)) (fun _ hw => run_load_part (cs := Ky.cs ky) (sub := Ky.cs ky) (hw.box 0 _ _ _ rfl) (Part.all _) U23 rfl S23) hH <| xV 4 22 (.slice sa n sk) hH <| xV 6 24 (.int .i64 rd) hH <| ?_
  try simp only [pS]
  refine xV 7 25 (.int .i64 sz) hH <| xV 8 26 bl.v hH <| ?_
  try simp only [pS]
  refine xC 5 23 34 #[.slice sa n sk] (rUnlike sa n sk zs _ ⟨Nums.kept HS.out.row HF.out.kept (fun _ _ _ e => e), hle⟩ (by omega)) ?_
  rintro e wk4 ⟨g, rfl, hO, hk⟩
  have hH2 : Fq No w wk4 [(gk1, 23, Ky.cells ky)] := hH.no hk
  have HG : Hid (OwI wk4 w.heap.size g (uq zs)) := ⟨hO.own.lower HF.out.kept.size, hO.len⟩
  have hgl : g.l ≤ 100 := by have h1 := hO.len; have h2 := uq_len zs; omega
  have HF : Hid (Fq No w (wk4) [(gk1, 23, Ky.cells ky)]) := HF.out.no hk
  clear hk hO
  refine ⟨g.v, rfl, hH2, fun hH => ?_⟩
  clear hH2
  try simp only [pS]
  refine xU 9 27 (.agg (Rv.cells ⟨wr, cl, op, ky, g, rd, sz, bl, 0, slZ, slZ, spZ, 0⟩)) (fun w' hw => exec_build 62 _ rfl (Rv.cells ⟨wr, cl, op, ky, g, rd, sz, bl, 0, slZ, slZ, spZ, 0⟩) (by kernel_rfl)) hH ?_
  try simp only [pS]
  refine any_step (i := 10) (o := { dst := some 28, op := Op.box 62 (Operand.tmp 27), type := 32, pos := "ref.go:65", after := #[{ on := 9, ground := Ground.data }], guard := none }) rfl (by kernel_rfl) (by kernel_rfl) (exec_box 62 _ rfl (Rv.cells ⟨wr, cl, op, ky, g, rd, sz, bl, 0, slZ, slZ, spZ, 0⟩) (by kernel_rfl)) (Fq.front (l := [(gk1, 23, Ky.cells ky)]) (m := [_]) (hH.alloc _ _)) (fun hH => ?_)
  try simp only [pS]
  have HG : Hid (OwI (wk4.alloc (.cells (Rv.cells ⟨wr, cl, op, ky, g, rd, sz, bl, 0, slZ, slZ, spZ, 0⟩) 62)) w.heap.size g (uq zs)) := HG.out.no ((Kept.refl No _).alloc _)
  have HF : Hid (Fq No w (wk4.alloc (.cells (Rv.cells ⟨wr, cl, op, ky, g, rd, sz, bl, 0, slZ, slZ, spZ, 0⟩) 62)) [(gk1, 23, Ky.cells ky), (wk4.heap.size, 62, Rv.cells ⟨wr, cl, op, ky, g, rd, sz, bl, 0, slZ, slZ, spZ, 0⟩)]) := HF.out.alloc _ _
  generalize wk4.alloc (.cells (Rv.cells ⟨wr, cl, op, ky, g, rd, sz, bl, 0, slZ, slZ, spZ, 0⟩) 62) = wk6 at HF HG hH ⊢
  generalize wk4.heap.size = gk5 at HF ⊢
  refine xV 11 17 (.pointer (some ⟨gk5, 0, none⟩)) hH ?_
  try simp only [pS]
  refine wpAnyH_done (by kernel_rfl) ?_ _
  try simp only [pS]
  clear hH
  go_upto_region 2 with fail
  refine WL.start <| uK (.int .i64 sz) <| ?_
  try simp only [pS]
  cases q1 : (decide (sz < 0))
  ·skip
   refine uB .lss 3 (.int .i64 sz) (.int .i64 0) (.bool false) (by rw [b_lss, q1]; try rfl) <| WL.nil <| ?_
   try simp only [pS]
   go_upto_region 4 with fail
   refine WL.start <| uK (.int .i64 sz) <| ?_
   try simp only [pS]
   cases q2 : (decide (4096 < sz))
   ·skip
    refine uB .gtr 3 (.int .i64 sz) (.int .i64 4096) (.bool false) (by rw [b_gtr, q2]; try rfl) <| WL.nil <| ?_
    try simp only [pS]
    go_upto_region 6 with fail
    refine WL.start <| uK (.pointer (some ⟨gk5, 0, none⟩)) <| uK (.pointer (some ⟨gk5, 0, none⟩)) <| WL.nil <| ?_
    try simp only [pS]
    go_wp2
    rw [HC.out]
    have hz : szR sz = sz := by simp [szR, of_decide_eq_false q1, of_decide_eq_false q2]
    refine ⟨gk5, g, rfl, ⟨?_, ⟨HG.out.own.lower (Nat.zero_le _), HG.out.len⟩, hgl⟩, (HF.out.low 1 _ _ _ rfl).elim id (fun e => e.elim), fun k h => HG.out.own.base h, HF.out.kept⟩
    have hb := HF.out.box 1 _ _ _ rfl
    have e2 : rvG (newR wr cl op ky zs rd sz bl) g slZ slZ = ⟨wr, cl, op, ky, g, rd, sz, bl, 0, slZ, slZ, spZ, 0⟩ := by simp [rvG, newR, hz]
    rw [e2]
    exact hb
   ·skip
    refine uB .gtr 3 (.int .i64 sz) (.int .i64 4096) (.bool true) (by rw [b_gtr, q2]; try rfl) <| WL.nil <| ?_
    try simp only [pS]
    go_upto_region 5 with fail
    refine WL.start <| uK (.pointer (some ⟨gk5, 0, none⟩)) <| uK (.pointer (some ⟨gk5, 0, none⟩)) <| uK (.pointer (some ⟨gk5, 9, none⟩)) <| ?_
    try simp only [pS]
    refine uT 3 ⟨gk5, 9, none⟩ (.int .i64 4096) (wk6.setRow gk5 (Rv.cells ⟨wr, cl, op, ky, g, rd, 4096, bl, 0, slZ, slZ, spZ, 0⟩)) (rs (Rv.cs ⟨wr, cl, op, ky, g, rd, sz, bl, 0, slZ, slZ, spZ, 0⟩) ([.int .i64 4096]) (Rv.cs ⟨wr, cl, op, ky, g, rd, 4096, bl, 0, slZ, slZ, spZ, 0⟩) (HF.out.box 1 _ _ _ rfl) S3 (by simp [Value.oneCell', Sl.v])) ?_
    try simp only [pS]
    have HG : Hid (OwI (wk6.setRow gk5 (Rv.cells ⟨wr, cl, op, ky, g, rd, 4096, bl, 0, slZ, slZ, spZ, 0⟩)) w.heap.size g (uq zs)) := HG.out.kept (Kept.setRow _ _ _) (fun k h e => (HG.out.own.notBox (HF.out.box 1 _ _ _ rfl) (by decide)) ((show k = gk5 from e) ▸ h))
    have HF : Hid (Fq No w (wk6.setRow gk5 (Rv.cells ⟨wr, cl, op, ky, g, rd, 4096, bl, 0, slZ, slZ, spZ, 0⟩)) [(gk1, 23, Ky.cells ky), (gk5, 62, Rv.cells ⟨wr, cl, op, ky, g, rd, 4096, bl, 0, slZ, slZ, spZ, 0⟩)]) := HF.out.set 1 rfl _
    generalize wk6.setRow gk5 (Rv.cells ⟨wr, cl, op, ky, g, rd, 4096, bl, 0, slZ, slZ, spZ, 0⟩) = wk7 at HF HG ⊢
    refine WL.nil ?_
    try simp only [pS]
    go_upto_region 6 with fail
    refine WL.start <| uK (.pointer (some ⟨gk5, 0, none⟩)) <| uK (.pointer (some ⟨gk5, 0, none⟩)) <| WL.nil <| ?_
    try simp only [pS]
    go_wp2
    rw [HC.out]
    have hz : szR sz = 4096 := by simp [szR, of_decide_eq_false q1, of_decide_eq_true q2]
    refine ⟨gk5, g, rfl, ⟨?_, ⟨HG.out.own.lower (Nat.zero_le _), HG.out.len⟩, hgl⟩, (HF.out.low 1 _ _ _ rfl).elim id (fun e => e.elim), fun k h => HG.out.own.base h, HF.out.kept⟩
    have hb := HF.out.box 1 _ _ _ rfl
    have e2 : rvG (newR wr cl op ky zs rd sz bl) g slZ slZ = ⟨wr, cl, op, ky, g, rd, 4096, bl, 0, slZ, slZ, spZ, 0⟩ := by simp [rvG, newR, hz]
    rw [e2]
    exact hb
  ·skip
   refine uB .lss 3 (.int .i64 sz) (.int .i64 0) (.bool true) (by rw [b_lss, q1]; try rfl) <| WL.nil <| ?_
   try simp only [pS]
   go_upto_region 3 with fail
   refine WL.start <| uK (.pointer (some ⟨gk5, 0, none⟩)) <| uK (.pointer (some ⟨gk5, 0, none⟩)) <| uK (.pointer (some ⟨gk5, 9, none⟩)) <| ?_
   try simp only [pS]
   refine uT 3 ⟨gk5, 9, none⟩ (.int .i64 0) (wk6.setRow gk5 (Rv.cells ⟨wr, cl, op, ky, g, rd, 0, bl, 0, slZ, slZ, spZ, 0⟩)) (rs (Rv.cs ⟨wr, cl, op, ky, g, rd, sz, bl, 0, slZ, slZ, spZ, 0⟩) ([.int .i64 0]) (Rv.cs ⟨wr, cl, op, ky, g, rd, 0, bl, 0, slZ, slZ, spZ, 0⟩) (HF.out.box 1 _ _ _ rfl) S3 (by simp [Value.oneCell', Sl.v])) ?_
   try simp only [pS]
   have HG : Hid (OwI (wk6.setRow gk5 (Rv.cells ⟨wr, cl, op, ky, g, rd, 0, bl, 0, slZ, slZ, spZ, 0⟩)) w.heap.size g (uq zs)) := HG.out.kept (Kept.setRow _ _ _) (fun k h e => (HG.out.own.notBox (HF.out.box 1 _ _ _ rfl) (by decide)) ((show k = gk5 from e) ▸ h))
   have HF : Hid (Fq No w (wk6.setRow gk5 (Rv.cells ⟨wr, cl, op, ky, g, rd, 0, bl, 0, slZ, slZ, spZ, 0⟩)) [(gk1, 23, Ky.cells ky), (gk5, 62, Rv.cells ⟨wr, cl, op, ky, g, rd, 0, bl, 0, slZ, slZ, spZ, 0⟩)]) := HF.out.set 1 rfl _
   generalize wk6.setRow gk5 (Rv.cells ⟨wr, cl, op, ky, g, rd, 0, bl, 0, slZ, slZ, spZ, 0⟩) = wk8 at HF HG ⊢
   refine WL.nil ?_
   try simp only [pS]
   go_upto_region 4 with fail
   refine WL.start <| uK (.int .i64 sz) <| ?_
   try simp only [pS]
   cases q3 : (decide (4096 < sz))
   ·skip
    refine uB .gtr 3 (.int .i64 sz) (.int .i64 4096) (.bool false) (by rw [b_gtr, q3]; try rfl) <| WL.nil <| ?_
    try simp only [pS]
    go_upto_region 6 with fail
    refine WL.start <| uK (.pointer (some ⟨gk5, 0, none⟩)) <| uK (.pointer (some ⟨gk5, 0, none⟩)) <| WL.nil <| ?_
    try simp only [pS]
    go_wp2
    rw [HC.out]
    have hz : szR sz = 0 := by simp [szR, of_decide_eq_true q1, of_decide_eq_false q3]
    refine ⟨gk5, g, rfl, ⟨?_, ⟨HG.out.own.lower (Nat.zero_le _), HG.out.len⟩, hgl⟩, (HF.out.low 1 _ _ _ rfl).elim id (fun e => e.elim), fun k h => HG.out.own.base h, HF.out.kept⟩
    have hb := HF.out.box 1 _ _ _ rfl
    have e2 : rvG (newR wr cl op ky zs rd sz bl) g slZ slZ = ⟨wr, cl, op, ky, g, rd, 0, bl, 0, slZ, slZ, spZ, 0⟩ := by simp [rvG, newR, hz]
    rw [e2]
    exact hb
   · have := of_decide_eq_true q3; have := of_decide_eq_true q1; omega

end Go.Proofs.Ythnecaejhnojfaa.Md
namespace Go.Proofs.Ythnecaejhnojfaa
open Go.RowKit
set_option linter.unusedVariables false
set_option linter.unusedSimpArgs false

set_option maxRecDepth 100000 in
set_option maxHeartbeats 4000000 in
theorem tickL_any (m : Nat) (a : Option Addr) (cap : Nat) (x : MS) (t : TypeId) (v : Value) (n c : Int) (pa : Option Addr) (l k : Nat) (err sn sc : Int) (da : Option Addr) (dl dc : Nat) (ub bb ct : Nat) (at' : Option Addr) (X : TS Unit) (pz : List Int) (w : World) (hM : Mach w m a cap x t v) (hT : Tal 113 ansU w ub bb at' ct X) (hl : X.g.length ≤ 400000000000) (hz : pz.length = l) (hzl : l ≤ 140737488355328) (hzb : Bytes w pa pz) :
    Calls Try.prog 95 #[layV n c pa l k err sn sc da dl dc ub, .pointer (some ⟨m, 0, none⟩)] w (AskOut w x ⟨2, n, c, l⟩ pz (missL X)) := by
  have HM : Hid (Mach w m a cap x t v) := hM
  have HT : Hid (Tal 113 ansU w ub bb at' ct X) := hT
  have HL : Hid (X.g.length ≤ 400000000000) := hl
  have HZ : Hid (pz.length = l) := hz
  have HZB : Hid (Bytes w pa pz) := hzb
  clear hM hT hl hz hzb
  obtain ⟨w1, hw1⟩ : ∃ w1, w1 = w.alloc (.cells #[.int .i64 n, .int .i64 c, .slice pa l k, .int .i64 err, .string ⟨#[]⟩, .int .i64 0, .int .i64 0, .int .i64 0, .slice none 0 0, .slice da dl dc, .int .i64 0, .int .i64 sn, .int .i64 sc, .int .i64 0, .pointer (some ⟨ub, 0, none⟩)] 160) := ⟨_, rfl⟩
  obtain ⟨N, hN⟩ : ∃ N, N = w.heap.size := ⟨_, rfl⟩
  have HK1 : Hid (Kept No w w1) := by rw [hw1]; exact (Kept.refl No w).alloc _
  have HX : Hid (Box w1 N 160 #[.int .i64 n, .int .i64 c, .slice pa l k, .int .i64 err, .string ⟨#[]⟩, .int .i64 0, .int .i64 0, .int .i64 0, .slice none 0 0, .slice da dl dc, .int .i64 0, .int .i64 sn, .int .i64 sc, .int .i64 0, .pointer (some ⟨ub, 0, none⟩)]) := by rw [hw1, hN]; exact Box.new _ _ _
  have HXc : Hid (∀ wr, Kept No w1 wr → wr.cell? ⟨N, 0, none⟩ = some (.int .i64 n) ∧ wr.cell? ⟨N, 1, none⟩ = some (.int .i64 c) ∧ wr.cell? ⟨N, 2, none⟩ = some (.slice pa l k) ∧ wr.cell? ⟨N, 14, none⟩ = some (.pointer (some ⟨ub, 0, none⟩))) := fun wr hk => by
    have h := HX.out.kept hk (fun e => e)
    exact ⟨h.cell 0, h.cell 1, h.cell 2, h.cell 14⟩
  unfold layV
  go_enter Try.func95, Try.ntmps95
  go_upto_region 1 with fail
  rw [← hw1, ← hN]
  clear hw1 hN
  obtain ⟨x0, x1, x2, x3⟩ := HXc.out w1 (Kept.refl _ _)
  have HKr : Hid (Kept No w1 w1.drew) := (Kept.refl No w1).drew
  go_region_held3 (fun w' => w'.cell? ⟨N, 0, none⟩ = some (.int .i64 n) ∧ w'.cell? ⟨N, 1, none⟩ = some (.int .i64 c) ∧ w'.cell? ⟨N, 2, none⟩ = some (.slice pa l k) ∧ w'.cell? ⟨N, 14, none⟩ = some (.pointer (some ⟨ub, 0, none⟩))) (go_keep) (first
    | (go_at_call 40
       refine Calls.mono (missing_anyU ub bb ct at' X w1.drew (HT.out.no (HK1.out.then HKr.out))) ?_
       rintro e w2 ⟨a2, c2, rfl, hO2, hk2⟩
       have HO2 : Hid (Own 3 1 w2 w1.heap.size a2 c2 (missL X).length ((missL X).map (Value.int .i64))) := hO2
       have HK2 : Hid (Kept No w1 w2) := HKr.out.then hk2
       have HL2 : Hid ((missL X).length ≤ 400000000000) := Nat.le_trans (missL_len X) HL.out
       obtain ⟨y0, y1, y2, y3⟩ := HXc.out w2 HK2.out
       clear hO2 hk2)
    | (go_at_call 85
       refine Calls.mono (ask_any m a cap x t v 2 n c pa l k pz a2 (missL X).length c2 (missL X) w2 (HM.out.no (HK1.out.then HK2.out)) HZ.out hzl (HZB.out.no (HK1.out.then HK2.out)) rfl HL2.out (HO2.out.nums rfl)) ?_
       rintro e w3 ⟨a3, c3, qs, rfl, hq, hm3, hk3⟩
       have HQ : Hid (qs.map Qm.sv = missL X) := hq
       have HM3 : Hid (Msgs w3 w2.heap.size a3 c3 x ⟨2, n, c, l⟩ pz qs) := hm3
       have HK3 : Hid (Kept No w1 w3) := HK2.out.then hk3
       obtain ⟨z0, z1, z2, z3⟩ := HXc.out w3 HK3.out
       clear hq hm3 hk3))
  go_wp2
  go_ret
  exact ⟨a3, c3, qs, rfl, HQ.out, HM3.out.lower (HK1.out.then HK2.out).size, HK1.out.then HK3.out⟩

set_option maxRecDepth 100000 in
set_option maxHeartbeats 2000000 in
theorem enterL_any (m : Nat) (a : Option Addr) (cap : Nat) (x : MS) (t : TypeId) (v : Value) (n c : Int) (pa : Option Addr) (l k : Nat) (err sn sc : Int) (da : Option Addr) (dl dc : Nat) (ub bb ct : Nat) (at' : Option Addr) (X : TS Unit) (pz : List Int) (w : World) (hM : Mach w m a cap x t v) (hT : Tal 113 ansU w ub bb at' ct X) (hl : X.g.length ≤ 400000000000) (hz : pz.length = l) (hzl : l ≤ 140737488355328) (hzb : Bytes w pa pz) (hd : ¬ TB ub bb at' m) (hpm : ¬ At pa m) :
    Calls Try.prog 72 #[.pointer (some ⟨m, 0, none⟩), .iface 160 (layV n c pa l k err sn sc da dl dc ub)] w (EnterOut w m a cap x 160 (layV n c pa l k err sn sc da dl dc ub) ⟨2, n, c, l⟩ pz (missL X)) := by
  have c9 := hM.box.cell 9
  have f9 := hM.box.frozen 9
  simp only [mC, List.getElem?_toArray, List.getElem?_cons_zero, List.getElem?_cons_succ] at c9
  have hm := meth_tickL n c pa l k err sn sc da dl dc ub
  have HTk : Hid (∀ w1, Mach w1 m a cap x 160 (layV n c pa l k err sn sc da dl dc ub) → Tal 113 ansU w1 ub bb at' ct X → Bytes w1 pa pz → Calls Try.prog 95 #[layV n c pa l k err sn sc da dl dc ub, .pointer (some ⟨m, 0, none⟩)] w1 (AskOut w1 x ⟨2, n, c, l⟩ pz (missL X))) := fun w1 h1 h2 h3 => tickL_any m a cap x _ _ n c pa l k err sn sc da dl dc ub bb ct at' X pz w1 h1 h2 hl hz hzl h3
  generalize layV n c pa l k err sn sc da dl dc ub = LVV at hm HTk ⊢
  obtain ⟨w1, hw1⟩ : ∃ w1, w1 = w.setCell ⟨m, 9, none⟩ (.iface 160 LVV) := ⟨_, rfl⟩
  have HM1 : Hid (Mach w1 m a cap x 160 LVV) := by rw [hw1]; exact hM.setPhase _ _
  have HK1 : Hid (Kept (Only m) w w1) := by rw [hw1]; exact (Kept.refl (Only m) w).setCell (p := ⟨m, 9, none⟩) (fun _ => rfl) _
  have HT1 : Hid (Tal 113 ansU w1 ub bb at' ct X) := hT.kept HK1.out (fun k hk e => hd (by have : k = m := e; rw [← this]; exact hk))
  have HB1 : Hid (Bytes w1 pa pz) := hzb.kept HK1.out (fun b off e h => hpm ⟨_, e, h⟩)
  clear hM hT hl hd hz hzb hpm
  go_enter Try.func72, Try.ntmps72
  go_wp2_with (go_at_call 95
               rw [← hw1]
               refine Calls.mono (HTk.out w1 HM1.out HT1.out HB1.out) ?_
               rintro e w3 ⟨a3, c3, qs, rfl, hq, hm3, hk3⟩
               have HQ : Hid (qs.map Qm.sv = missL X) := hq
               have HQ3 : Hid (Msgs w3 w.heap.size a3 c3 x ⟨2, n, c, l⟩ pz qs) := hm3.lower HK1.out.size
               have HM3 : Hid (Mach w3 m a cap x 160 LVV) := HM1.out.no hk3
               have HK3 : Hid (Kept (Only m) w w3) := HK1.out.then hk3.of_no
               clear hq hm3 hk3 hw1)
  go_ret
  exact ⟨a3, c3, qs, rfl, HQ.out, HQ3.out, HM3.out, HK3.out⟩

set_option maxRecDepth 100000 in
set_option maxHeartbeats 2000000 in
theorem machTickA_any (m : Nat) (a : Option Addr) (cap : Nat) (x : MS) (ai : TypeId) (av : Value) (tb bb ct : Nat) (at' : Option Addr) (X : TS Bk) (w : World) (hM : Mach w m a cap x 146 (.agg #[.iface ai av, .pointer (some ⟨tb, 0, none⟩)])) (hT : Tal 149 ansB w tb bb at' ct X) (hl : X.g.length ≤ 400000000000) :
    Calls Try.prog 62 #[.pointer (some ⟨m, 0, none⟩)] w (AskOut w x ⟨1, 0, 0, 0⟩ [] (missL X)) := by
  have c9 := hM.box.cell 9
  simp only [mC, List.getElem?_toArray, List.getElem?_cons_zero, List.getElem?_cons_succ] at c9
  have HC : Hid _ := tickA_any m a cap x _ _ ai av tb bb ct at' X w hM hT hl
  have hm := meth_tickA
  clear hM hT
  go_enter Try.func62, Try.ntmps62
  go_wp2_with (go_at_call 82
               refine Calls.mono HC.out ?_
               rintro e w3 ⟨a3, c3, qs, rfl, hO⟩
               have HO : Hid _ := hO
               clear hO)
  go_ret
  exact ⟨a3, c3, qs, rfl, HO.out⟩

set_option maxRecDepth 100000 in
set_option maxHeartbeats 2000000 in
theorem machTickL_any (m : Nat) (a : Option Addr) (cap : Nat) (x : MS) (n c : Int) (pa : Option Addr) (l k : Nat) (err sn sc : Int) (da : Option Addr) (dl dc : Nat) (ub bb ct : Nat) (at' : Option Addr) (X : TS Unit) (pz : List Int) (w : World) (hM : Mach w m a cap x 160 (layV n c pa l k err sn sc da dl dc ub)) (hT : Tal 113 ansU w ub bb at' ct X) (hl : X.g.length ≤ 400000000000) (hz : pz.length = l) (hzl : l ≤ 140737488355328) (hzb : Bytes w pa pz) :
    Calls Try.prog 62 #[.pointer (some ⟨m, 0, none⟩)] w (AskOut w x ⟨2, n, c, l⟩ pz (missL X)) := by
  have c9 := hM.box.cell 9
  simp only [mC, List.getElem?_toArray, List.getElem?_cons_zero, List.getElem?_cons_succ] at c9
  have HC : Hid _ := tickL_any m a cap x _ _ n c pa l k err sn sc da dl dc ub bb ct at' X pz w hM hT hl hz hzl hzb
  have hm := meth_tickL n c pa l k err sn sc da dl dc ub
  clear hM hT hzb
  generalize layV n c pa l k err sn sc da dl dc ub = LVV at hm HC c9
  go_enter Try.func62, Try.ntmps62
  go_wp2_with (go_at_call 95
               refine Calls.mono HC.out ?_
               rintro e w3 ⟨a3, c3, qs, rfl, hO⟩
               have HO : Hid _ := hO
               clear hO)
  go_ret
  exact ⟨a3, c3, qs, rfl, HO.out⟩

set_option maxRecDepth 100000 in
set_option maxHeartbeats 2000000 in
theorem machTickE_any (m : Nat) (a : Option Addr) (cap : Nat) (x : MS) (err sn sc : Int) (da : Option Addr) (dl dc : Nat) (w : World) (hM : Mach w m a cap x 139 (endV err sn sc da dl dc)) :
    Calls Try.prog 62 #[.pointer (some ⟨m, 0, none⟩)] w (fun e w' => e = .returned (.slice none 0 0) ∧ Kept No w w') := by
  have c9 := hM.box.cell 9
  simp only [mC, List.getElem?_toArray, List.getElem?_cons_zero, List.getElem?_cons_succ] at c9
  have hm := meth_tickE err sn sc da dl dc
  generalize endV err sn sc da dl dc = EV at hm c9
  clear hM
  go_enter Try.func62, Try.ntmps62
  go_wp2_with (go_at_call 70
               refine Calls.mono (tick0_any _ w) ?_
               rintro e w3 ⟨rfl, hk⟩
               have HK : Hid (Kept No w w3) := hk
               clear hk)
  go_ret
  exact ⟨rfl, HK.out⟩

end Go.Proofs.Ythnecaejhnojfaa
