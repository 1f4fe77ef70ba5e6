import Derived.Test.YtpapbleabjpbfabEi
import Derived.Test.YtpapbleabjpbfabM
namespace Go.Proofs.Ytpapbleabjpbfab
open Go.RowKit
set_option linter.unusedVariables false

theorem byteAt_bd (n : Int) (i : Nat) : 0 ≤ byteAt n i ∧ byteAt n i ≤ 255 := by unfold byteAt; omega
theorem U8.append {xs ys : List Int} (h : U8 xs) (k : U8 ys) : U8 (xs ++ ys) := by
  intro i
  rw [List.getElem?_append]
  split
  · exact h i
  · exact k _
theorem eightN_u8 (n : Int) (j : Nat) : U8 (eightN n j) := by
  intro i
  by_cases h : i < j
  · simp only [eightN, List.getElem?_map, List.getElem?_range h, Option.map_some, Option.getD_some]; exact byteAt_bd n i
  · rw [List.getElem?_eq_none (by rw [eightN_len]; omega)]; simp
theorem eightsOf_u8 (zs : List Int) : U8 (eightsOf zs) := by
  unfold eightsOf
  induction zs with
  | nil => intro i; simp
  | cons z r ih => rw [List.map_cons, List.flatten_cons]; exact (eightN_u8 z 8).append ih

def hashK (kd a b c : Int) : Int := fnv (eightsOf [kd, a, b, c])

/-- A slice that was built of n numbers. -/
theorem built_nums (w : World) (t : TypeId) (zs : List Int) : Nums .i64 (w.alloc (.cells (zs.map (Value.int .i64)).toArray t)) (some ⟨w.heap.size, 0, none⟩) zs := by
  have := (Box.new w t (zs.map (Value.int .i64)).toArray).nums zs.length
  rwa [List.take_length] at this

theorem hashE (g : Nat) (zs : List Int) (w : World) (base n : Nat) (hn : n = 8 * zs.length) (hm : zs.length ≤ 1000) (hb : Own 5 1 w base (some ⟨g, 0, none⟩) n n ((eightsOf zs).map (Value.int .u8))) :
    Calls Try.prog 39 #[.slice (some ⟨g, 0, none⟩) n n] w fun e w' => e = .returned (.int .i64 (fnv (eightsOf zs))) ∧ w' = w :=
  hashB_any _ _ (eightsOf zs) n (by rw [hn, eightsOf_len]) w (by omega) (hb.nums (by rw [hn, eightsOf_len])) (eightsOf_u8 zs)

set_option maxRecDepth 100000 in
set_option maxHeartbeats 1000000 in
theorem hash_any (kd a b c : Int) (w : World) : Calls Try.prog 27 #[keyV kd a b c] w fun e w' => e = .returned (.int .i64 (hashK kd a b c)) ∧ Kept No w w' := by
  go_enter Try.func27, Try.ntmps27
  go_wp2_with fail
  obtain ⟨w0, hw0⟩ : ∃ w0, w0 = (w.alloc (.cells #[.int .i64 kd, .int .i64 a, .int .i64 b, .int .i64 c] 35)).alloc (.cells #[.int .i64 kd, .int .i64 a, .int .i64 b, .int .i64 c] 3) := ⟨_, rfl⟩
  rw [← hw0]
  have HN : Hid (Nums .i64 w0 (some ⟨w.heap.size + 1, 0, none⟩) [kd, a, b, c]) := by
    rw [hw0]; show Nums _ _ _ _
    have := built_nums (w.alloc (.cells #[.int .i64 kd, .int .i64 a, .int .i64 b, .int .i64 c] 35)) 3 [kd, a, b, c]
    simpa using this
  have HK0 : Hid (Kept No w w0) := by rw [hw0]; exact ((Kept.refl No w).alloc _).alloc _
  clear hw0
  refine (eights_any (some ⟨w.heap.size + 1, 0, none⟩) 4 [kd, a, b, c] w0 (by simp) HN.out).mono ?_
  rintro e w1 ⟨rfl, ho, hk⟩
  have HO : Hid _ := ho
  have HK : Hid _ := hk
  clear ho hk
  go_wp2_with (go_at_call 39
               refine (hashE _ [kd, a, b, c] _ _ _ rfl (by simp) HO.out).mono ?_
               rintro e w2 ⟨rfl, h2⟩
               rw [h2]
               clear h2 w2)
  go_ret
  exact ⟨rfl, HK0.out.then HK.out⟩

theorem home_any (kd a b c : Int) (w : World) : Calls Try.prog 32 #[keyV kd a b c] w fun e w' => e = .returned (if kd = 3 then keyV 2 a 0 0 else keyV kd a b c) ∧ Kept No w w' := by
  by_cases h : kd = 3
  · subst h
    rw [if_pos rfl]
    go_enter Try.func32, Try.ntmps32
    go_wp2
    exact bodyPost_ret (v := keyV 2 a 0 0) (by simp [results, Try.results32, go_sem]) rfl ⟨rfl, ((Kept.refl No w).alloc _).alloc _⟩
  · rw [if_neg h]
    have h' : (kd == 3) = false := by simpa using h
    go_enter Try.func32, Try.ntmps32
    go_wp2
    exact bodyPost_ret (v := keyV kd a b c) (by simp [results, Try.results32, go_sem]) rfl ⟨rfl, ((Kept.refl No w).alloc _).alloc _⟩

end Go.Proofs.Ytpapbleabjpbfab
