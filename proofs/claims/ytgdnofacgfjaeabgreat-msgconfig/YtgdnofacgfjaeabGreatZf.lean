import Derived.Test.YtgdnofacgfjaeabGreatZe
namespace Go.Proofs.YtgdnofacgfjaeabGreat
open Go.RowKit
set_option linter.unusedVariables false

theorem isNone_any (n c : Int) (w : World) : Calls Tryz.prog 74 #[.agg #[.int .i64 n, .int .i64 c]] w fun e w' => e = .returned (.bool (n == 0 && c == 0)) ∧ Kept No w w' := by
  go_enter Tryz.func74, Tryz.ntmps74
  go_wp2
  all_goals go_ret
  all_goals exact ⟨ret_bool (by simp_all), (Kept.refl No w).alloc _⟩
theorem emptyBucket_any (up : Int) (ea : Option Addr) (el ep : Nat) (la : Option Addr) (ll lp : Nat) (w : World) : Calls Tryz.prog 91 #[.agg #[.int .i64 up, .slice ea el ep, .slice la ll lp]] w fun e w' => e = .returned (.bool (up == 0 && ((el : Int) == 0 && (ll : Int) == 0))) ∧ Kept No w w' := by
  go_enter Tryz.func91, Tryz.ntmps91
  go_wp2
  all_goals go_ret
  all_goals exact ⟨ret_bool (by simp_all; try omega), (Kept.refl No w).alloc _⟩

/-- The fields of a kind. -/
def fieldsL (k : Int) : List Int :=
  if k = 2 ∨ k = 11 then [0, 2] else if k = 3 ∨ k = 14 ∨ k = 15 ∨ k = 21 then [0] else if k = 4 then [0, 3] else if k = 5 ∨ k = 16 then [3] else if k = 13 then [0, 1, 3] else if k = 17 then [4] else if k = 22 then [0, 2, 4, 5, 6] else []
def FieldsP (w : World) (k : Int) (e : Ending) (w' : World) : Prop := ∃ a' c', e = .returned (.slice a' (fieldsL k).length c') ∧ Nums .i64 w' a' (fieldsL k) ∧ Kept No w w'
theorem nums_lit (w : World) (zs : List Int) (t : TypeId) : Nums .i64 (w.alloc (.cells (zs.map (Value.int .i64)).toArray t)) (some ⟨w.heap.size, 0, none⟩) zs := by
  have := (Box.new w t (zs.map (Value.int .i64)).toArray).nums zs.length
  rwa [List.take_length] at this
theorem fieldsP_lit {w : World} {k : Int} {zs : List Int} (h : fieldsL k = zs) {n c : Nat} (hn : n = zs.length) {t : TypeId} {cs : Array Value} (hc : cs = (zs.map (Value.int .i64)).toArray) : FieldsP w k (.returned (.slice (some ⟨w.heap.size, 0, none⟩) n c)) (w.alloc (.cells cs t)) := by
  subst hn hc
  refine ⟨_, c, by rw [h], ?_, (Kept.refl No w).alloc _⟩
  rw [h]; exact nums_lit w zs t
theorem fieldsP_nil {w : World} {k : Int} (h : fieldsL k = []) : FieldsP w k (.returned (.slice none 0 0)) w := ⟨none, 0, by rw [h]; rfl, by rw [h]; exact Nums.nil _ _ _, Kept.refl _ _⟩

set_option maxRecDepth 100000 in
set_option maxHeartbeats 2000000 in
theorem fieldsOf_any (k : Int) (w : World) : Calls Tryz.prog 110 #[.int .i64 k] w (FieldsP w k) := by
  go_enter Tryz.func110, Tryz.ntmps110
  go_wp2
  all_goals go_ret
  all_goals first
    | exact fieldsP_lit (zs := [0, 2]) (by simp_all [fieldsL]) rfl rfl
    | exact fieldsP_lit (zs := [0]) (by simp_all [fieldsL]) rfl rfl
    | exact fieldsP_lit (zs := [0, 3]) (by simp_all [fieldsL]) rfl rfl
    | exact fieldsP_lit (zs := [3]) (by simp_all [fieldsL]) rfl rfl
    | exact fieldsP_lit (zs := [0, 1, 3]) (by simp_all [fieldsL]) rfl rfl
    | exact fieldsP_lit (zs := [4]) (by simp_all [fieldsL]) rfl rfl
    | exact fieldsP_lit (zs := [0, 2, 4, 5, 6]) (by simp_all [fieldsL]) rfl rfl
    | exact fieldsP_nil (by simp_all [fieldsL])

/-- Is a field empty? -/
def emptyF (m : MsgD) (f : Nat) : Bool :=
  if f = 0 then m.sn == 0 && m.sc == 0 else if f = 1 then m.hn == 0 && m.hc == 0 else if f = 2 then (m.bl : Int) == 0
  else if f = 3 then decide (m.ck = 0 ∧ m.cc = 0 ∧ m.co = 0 ∧ m.cn.toList = [] ∧ m.fc1 = 0 ∧ m.fo1 = 0 ∧ m.fc2 = 0 ∧ m.fo2 = 0 ∧ m.cz = 0)
  else if f = 4 then m.up == 0 && ((m.el : Int) == 0 && (m.ll : Int) == 0) else if f = 5 then (m.xl : Int) == 0 else !m.more

set_option maxRecDepth 100000 in
set_option maxHeartbeats 2000000 in
theorem empty_any (m : MsgD) (fd : Nat) (hf : fd < 7) (w : World) : Calls Tryz.prog 145 #[.agg m.cells, .int .i64 (fd : Int)] w fun e w' => e = .returned (.bool (emptyF m fd)) ∧ Kept No w w' := by
  have TB : Hid (1 = 1) := rfl
  have hc : fd = 0 ∨ fd = 1 ∨ fd = 2 ∨ fd = 3 ∨ fd = 4 ∨ fd = 5 ∨ fd = 6 := by omega
  obtain ⟨w0, hw0⟩ : ∃ w0, w0 = w.alloc (.cells m.cells 71) := ⟨_, rfl⟩
  have HK0 : Hid (Kept No w w0) := by rw [hw0]; exact (Kept.refl No w).alloc _
  have hM : MsgAt w0 w.heap.size m := by rw [hw0]; exact MsgAt.new w m
  rcases hc with rfl | rfl | rfl | rfl | rfl | rfl | rfl
  · obtain ⟨c11, c12, -⟩ := hM.rest
    go_enter Tryz.func145, Tryz.ntmps145
    go_wp2_with (first
      | (have hguard := TB; clear hguard; refine wp_boxV rfl 71 _ rfl m.cells rfl w.heap.size rfl ?_; rw [← hw0]; clear hw0 TB)
      | (go_at_call 74; refine (isNone_any _ _ _).mono ?_; rintro e w2 ⟨rfl, hk2⟩))
    go_ret
    exact ⟨ret_bool (by simp [emptyF]), HK0.out.then hk2⟩
  · obtain ⟨-, -, c13, c14, -⟩ := hM.rest
    go_enter Tryz.func145, Tryz.ntmps145
    go_wp2_with (first
      | (have hguard := TB; clear hguard; refine wp_boxV rfl 71 _ rfl m.cells rfl w.heap.size rfl ?_; rw [← hw0]; clear hw0 TB)
      | (go_at_call 74; refine (isNone_any _ _ _).mono ?_; rintro e w2 ⟨rfl, hk2⟩))
    go_ret
    exact ⟨ret_bool (by simp [emptyF]), HK0.out.then hk2⟩
  · obtain ⟨-, -, -, -, c15, -⟩ := hM.rest
    go_enter Tryz.func145, Tryz.ntmps145
    go_wp2_with (have hguard := TB; clear hguard; refine wp_boxV rfl 71 _ rfl m.cells rfl w.heap.size rfl ?_; rw [← hw0]; clear hw0 TB)
    all_goals go_ret
    all_goals exact ⟨ret_bool (by simp_all [emptyF]), HK0.out⟩
  · obtain ⟨c16, c17, c18, c19, c20, c21, c22, c23, c24⟩ := hM.cmd
    go_enter Tryz.func145, Tryz.ntmps145
    go_wp2_with (have hguard := TB; clear hguard; refine wp_boxV rfl 71 _ rfl m.cells rfl w.heap.size rfl ?_; rw [← hw0]; clear hw0 TB)
    all_goals go_ret
    all_goals exact ⟨ret_bool (by simp_all [emptyF]), HK0.out⟩
  · obtain ⟨c25, c26, c27⟩ := hM.bkt
    go_enter Tryz.func145, Tryz.ntmps145
    go_wp2_with (first
      | (have hguard := TB; clear hguard; refine wp_boxV rfl 71 _ rfl m.cells rfl w.heap.size rfl ?_; rw [← hw0]; clear hw0 TB)
      | (go_at_call 91; refine (emptyBucket_any _ _ _ _ _ _ _ _).mono ?_; rintro e w2 ⟨rfl, hk2⟩))
    go_ret
    exact ⟨ret_bool (by simp [emptyF]), HK0.out.then hk2⟩
  · obtain ⟨-, -, -, -, -, c28, -⟩ := hM.rest
    go_enter Tryz.func145, Tryz.ntmps145
    go_wp2_with (have hguard := TB; clear hguard; refine wp_boxV rfl 71 _ rfl m.cells rfl w.heap.size rfl ?_; rw [← hw0]; clear hw0 TB)
    all_goals go_ret
    all_goals exact ⟨ret_bool (by simp_all [emptyF]), HK0.out⟩
  · obtain ⟨-, -, -, -, -, -, c29⟩ := hM.rest
    go_enter Tryz.func145, Tryz.ntmps145
    go_wp2_with (have hguard := TB; clear hguard; refine wp_boxV rfl 71 _ rfl m.cells rfl w.heap.size rfl ?_; rw [← hw0]; clear hw0 TB)
    all_goals go_ret
    all_goals exact ⟨ret_bool (by simp_all [emptyF]), HK0.out⟩

end Go.Proofs.YtgdnofacgfjaeabGreat
