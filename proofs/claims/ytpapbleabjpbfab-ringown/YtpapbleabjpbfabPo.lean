import Derived.Test.YtpapbleabjpbfabSo
namespace Go.Proofs.Ytpapbleabjpbfab
open Go.RowKit
set_option linter.unusedVariables false

/-- The first k points of a server; all points of servers, as they are made. -/
def ptAt (s : Int) (n : Nat) : Int × Int := (fnv (eightsOf [s, n]), s)
def ptN (s : Int) (k : Nat) : List (Int × Int) := (List.range k).map (ptAt s)
def ptsOf (zs : List Int) (p : Nat) : List (Int × Int) := (zs.map (ptN · p)).flatten

theorem ptN_len (s : Int) (k : Nat) : (ptN s k).length = k := by simp [ptN]
theorem ptN_succ (s : Int) (k : Nat) : ptN s (k + 1) = ptN s k ++ [ptAt s k] := by simp [ptN, List.range_succ]
theorem ptsOf_len (zs : List Int) (p : Nat) : (ptsOf zs p).length = zs.length * p := by
  unfold ptsOf
  induction zs with
  | nil => simp
  | cons z r ih => simp only [List.map_cons, List.flatten_cons, List.length_append, ih, ptN_len, List.length_cons]; rw [Nat.add_mul, Nat.one_mul, Nat.add_comm]
theorem ptsOf_snoc (zs : List Int) (p k : Nat) (h : k < zs.length) : ptsOf (zs.take (k + 1)) p = ptsOf (zs.take k) p ++ ptN (zs[k]?.getD 0) p := by
  unfold ptsOf
  rw [List.take_succ_eq_append_getElem h, List.map_append, List.flatten_append]
  simp [List.getElem?_eq_getElem h]

theorem Try.info68 : (Try.prog.info? 68).map (fun i => (i.zero, i.size, i.bytes)) = some (some (.agg #[.int .i64 0, .int .i64 0]), 2, 16) := by kernel_rfl

theorem cell_new2 (w : World) (u v : Value) (t : TypeId) (j : Nat) (x : Value) (h : [u, v][j]? = some x) : (w.alloc (.cells #[u, v] t)).cell? ((⟨w.heap.size, 0, none⟩ : Addr).add j) = some x := by
  rw [addr_add, Nat.zero_add, (Box.new w t #[u, v]).cell]
  simpa using h

theorem mul_lt (k n p : Nat) (hk : k < n) (j : Nat) (hj : j < p) : k * p + j + 1 ≤ n * p := by
  have h1 : (k + 1) * p ≤ n * p := Nat.mul_le_mul_right _ hk
  rw [Nat.add_mul, Nat.one_mul] at h1
  omega

set_option maxRecDepth 100000 in
set_option maxHeartbeats 4000000 in
theorem pointsOf_any (a : Option Addr) (cap n : Nat) (zs : List Int) (f bu bl ro : Int) (p : Nat) (w : World) (hnl : Hid (zs.length = n)) (hn1 : 1 ≤ n) (hn : n ≤ 64) (hp1 : 1 ≤ p) (hp : p ≤ 64) (hb : Nums .i64 w a zs) (hS : Sorts (ptsOf zs p)) :
    Calls Try.prog 38 #[cfgV (.slice a n cap) f p bu bl ro] w fun e w' => e = .returned (.slice (some ⟨w.heap.size + 1, 0, none⟩) (n * p) (n * p)) ∧ OwnP w' w.heap.size (w.heap.size + 1) (n * p) (sortP (ptsOf zs p)) ∧ Kept No w w' := by
  have HB : Hid (Nums .i64 w a zs) := hb
  have HSo : Hid (Sorts (ptsOf zs p)) := hS
  clear hb hS
  obtain ⟨i0, hi, hz0, hz1, hz2⟩ := info_parts Try.info68
  obtain ⟨m, hmm⟩ : ∃ m, m = n * p := ⟨_, rfl⟩
  have hnp : m ≤ 4096 := by
    have := Nat.mul_le_mul hn hp
    omega
  have HW : Hid (wrap64 ((n : Int) * (p : Int)) = (m : Int)) := by
    show wrap64 _ = _
    rw [hmm, ← Int.natCast_mul, IntWalk.wrap64_in _ ⟨by omega, by omega⟩]
  rw [← hmm]
  have HM : Hid (m = n * p) := hmm
  clear hmm
  go_enter Try.func38, Try.ntmps38
  go_wp2_with (first
    | (at_make
       obtain ⟨w0, hw0⟩ : ∃ w0, w0 = w.alloc (.cells #[.slice a n cap, .int .i64 f, .int .i64 p, .int .i64 bu, .int .i64 bl, .int .i64 ro] 24) := ⟨_, rfl⟩
       rw [← hw0]
       have HC0 : Hid (Box w0 w.heap.size 24 #[.slice a n cap, .int .i64 f, .int .i64 p, .int .i64 bu, .int .i64 bl, .int .i64 ro]) := (by rw [hw0]; exact Box.new _ _ _)
       have HK0 : Hid (Kept No w w0) := (by rw [hw0]; exact (Kept.refl No w).alloc _)
       have hs0 : w0.heap.size = w.heap.size + 1 := (by rw [hw0]; simp)
       clear hw0
       refine wpList_make_own _ rfl (.const (.int .i64 0)) (.tmp 12) 63 rfl w0.heap.size 68 i0 (.agg #[.int .i64 0, .int .i64 0]) 2 Try.underlying63 hi hz0 hz1 .i64 .i64 _ m rfl rfl ?hc (by rw [hz2]; omega) (by unfold maxLen; omega) (Nat.le_refl _) ?_
       case hc => exact HW.out
       intro w1 hown hgrow
       rw [hs0] at hown ⊢
       have HO : Hid (Own 68 2 w1 (w.heap.size + 1) (some ⟨w.heap.size + 1, 0, none⟩) m 0 (flatL [])) := hown
       have HK1 : Hid (Kept No w0 w1) := kept_grown hgrow
       have HC1 : Hid (Box w1 w.heap.size 24 _) := HC0.out.kept HK1.out (fun e => e)
       have HK : Hid (Kept No w w1) := HK0.out.then HK1.out
       have c0 := HC1.out.cell 0
       have c2 := HC1.out.cell 2
       simp only [List.getElem?_toArray, List.getElem?_cons_zero, List.getElem?_cons_succ] at c0 c2
       clear hown hgrow HC0 HK0 HK1 hs0)
    | fail)
  clear c0 c2
  go_loopw [3, 17] (fun s i wr => ∃ k L : Nat, k ≤ n ∧ i = .int .i64 k ∧ s = .slice (some ⟨w.heap.size + 1, 0, none⟩) L m ∧ Hid (L = k * p) ∧ Hid (Own 68 2 wr (w.heap.size + 1) (some ⟨w.heap.size + 1, 0, none⟩) m L (flatL (ptsOf (zs.take k) p))) ∧ Hid (Box wr w.heap.size 24 #[.slice a n cap, .int .i64 f, .int .i64 p, .int .i64 bu, .int .i64 bl, .int .i64 ro]) ∧ Hid (Kept No w wr)) (fun _ i _ => n - (intOf i).toNat)
  case atStart => exact ⟨0, 0, Nat.zero_le _, rfl, rfl, by show 0 = 0 * p; simp, HO, HC1, HK⟩
  case round =>
    obtain ⟨k, L, hk, rfl, rfl, HL, HOk, HCk, HKk⟩ := hrel
    clear HO HK HC1
    by_cases hlt : k < n
    · obtain ⟨b, off, rfl, hcell⟩ := (HB.out.no HKk.out) k (by rw [hnl.out]; exact hlt)
      have HS : Hid (ptsOf (zs.take (k + 1)) p = ptsOf (zs.take k) p ++ ptN (zs[k]?.getD 0) p) := ptsOf_snoc zs p k (by rw [hnl.out]; exact hlt)
      generalize zs[k]?.getD 0 = z at hcell HS
      have c2 := HCk.out.cell 2
      simp only [List.getElem?_toArray, List.getElem?_cons_zero, List.getElem?_cons_succ] at c2
      go_wp2
      clear c2 hcell
      go_loopw [3, 23] (fun s i wr => ∃ j L2 : Nat, j ≤ p ∧ i = .int .i64 j ∧ s = .slice (some ⟨w.heap.size + 1, 0, none⟩) L2 m ∧ Hid (L2 = k * p + j) ∧ Hid (Own 68 2 wr (w.heap.size + 1) (some ⟨w.heap.size + 1, 0, none⟩) m L2 (flatL (ptsOf (zs.take k) p ++ ptN z j))) ∧ Hid (Box wr w.heap.size 24 #[.slice (some ⟨b, off, none⟩) n cap, .int .i64 f, .int .i64 p, .int .i64 bu, .int .i64 bl, .int .i64 ro]) ∧ Hid (Kept No w wr)) (fun _ i _ => p - (intOf i).toNat)
      case atStart => exact ⟨0, L, Nat.zero_le _, rfl, rfl, HL, by simpa [ptN] using HOk, HCk, HKk⟩
      case round =>
        obtain ⟨j, L2, hj, rfl, rfl, HL2, HOj, HCj, HKj⟩ := hrel
        clear HOk HKk HCk
        by_cases hjl : j < p
        · go_wp2_with fail
          obtain ⟨w2, hw2⟩ : ∃ w2, w2 = wr.alloc (.cells #[.int .i64 z, .int .i64 (j : Int)] 3) := ⟨_, rfl⟩
          rw [← hw2]
          have HN : Hid (Nums .i64 w2 (some ⟨wr.heap.size, 0, none⟩) [z, (j : Int)]) := by rw [hw2]; exact built_nums wr 3 [z, (j : Int)]
          have HK2 : Hid (Kept No wr w2) := by rw [hw2]; exact (Kept.refl No wr).alloc _
          clear hw2
          refine (eights_any (some ⟨wr.heap.size, 0, none⟩) 2 [z, (j : Int)] w2 (by simp) HN.out).mono ?_
          rintro e w3 ⟨rfl, ho3, hk3⟩
          have HO3 : Hid _ := ho3
          have HK3 : Hid (Kept No wr w3) := HK2.out.then hk3
          clear ho3 hk3 HN HK2
          have HOa : Hid (∀ o, Own 68 2 (w3.alloc o) (w.heap.size + 1) (some ⟨w.heap.size + 1, 0, none⟩) m L2 (flatL (ptsOf (zs.take k) p ++ ptN z j))) := fun o => HOj.out.no (HK3.out.alloc o)
          have HCa : Hid (∀ o, Box (w3.alloc o) w.heap.size 24 _) := fun o => HCj.out.kept (HK3.out.alloc o) (fun e => e)
          have HKa : Hid (Kept No w w3) := HKj.out.then HK3.out
          clear HOj HCj HKj HK3
          go_wp2_with (first
            | (go_at_call 39
               refine (hashE _ [z, (j : Int)] _ _ _ rfl (by simp) HO3.out).mono ?_
               rintro e w4 ⟨rfl, h4⟩
               rw [h4]
               clear h4 w4)
            | (at_builtin
               refine wpList_append_fits _ rfl (.tmp 26) (.tmp 34) 63 rfl (w.heap.size + 1) 68 i0 2 Try.underlying63 hi hz1 (w.heap.size + 1) L2 m _ rfl (HOa.out _) ⟨w3.heap.size, 0, none⟩ 1 1 [.int .i64 (fnv (eightsOf [z, (j : Int)])), .int .i64 z] rfl rfl (cell_new2 _ _ _ _) (by simp [Value.oneCell']) (by have h1 := HL2.out; have h2 := HM.out; have h3 := mul_lt k n p hlt j hjl; omega) ?_
               intro w5 hown5 hgrow5
               have HO5 : Hid (Own 68 2 w5 (w.heap.size + 1) (some ⟨w.heap.size + 1, 0, none⟩) m (L2 + 1) (flatL (ptsOf (zs.take k) p ++ ptN z (j + 1)))) := (by
                 rw [ptN_succ, ← List.append_assoc, flatL_append]; exact hown5)
               have HK5 : Hid (Kept No w w5) := kept_only (HKa.out.alloc _) hgrow5 (by omega)
               have HC5 : Hid (Box w5 w.heap.size 24 _) := (HCa.out _).kept ((Kept.refl (Only (w.heap.size + 1)) _).grown hgrow5 (fun k e _ => by cases e; rfl)) (by show ¬ (w.heap.size = w.heap.size + 1); omega)
               clear hown5 hgrow5 HOa HCa HKa HO3)
            | fail)
          go_roundw
          case rel => exact ⟨j + 1, L2 + 1, by omega, by go_num, rfl, by have := HL2.out; show L2 + 1 = k * p + (j + 1); omega, HO5, HC5, HK5⟩
          case measure => simp [intOf]; omega
        · obtain rfl : j = p := by omega
          go_wp2
          go_roundw
          case rel =>
            refine ⟨k + 1, L2, by omega, by go_num, rfl, ?_, ?_, HCj, HKj⟩
            · have := HL2.out; show L2 = (k + 1) * j; rw [Nat.add_mul, Nat.one_mul]; exact this
            · rw [HS.out]; exact HOj.out
          case measure => simp [intOf]; omega
    · obtain rfl : k = n := by omega
      have hLm : L = m := by rw [HL.out, HM.out]
      subst hLm
      have HOp : Hid (OwnP wr (w.heap.size + 1) (w.heap.size + 1) L (ptsOf zs p)) := by
        show Own _ _ _ _ _ _ _ _
        have h1 := HOk.out
        rw [List.take_of_length_le (by rw [hnl.out]; omega)] at h1
        rw [ptsOf_len, hnl.out, ← HL.out]
        exact h1
      have hpl : (ptsOf zs p).length = L := by rw [ptsOf_len, hnl.out, ← HL.out]
      have HCl : Hid _ := HSo.out _ _ _ _ HOp.out
      rw [hpl] at HCl
      clear HOk HOp HSo HW
      go_wp2_with fail
      refine Calls.mono HCl.out ?_
      rintro e w6 ⟨rfl, ho6, hk6⟩
      have HO6 : Hid _ := ho6
      have HK6 : Hid (Kept No w w6) := HKk.out.trans hk6 (fun _ e => e) (fun i hi e => by have : i = w.heap.size + 1 := e; omega)
      clear ho6 hk6 HCl
      go_wp2
      go_ret
      exact ⟨rfl, HO6.out.lower (by omega), HK6.out⟩

end Go.Proofs.Ytpapbleabjpbfab
