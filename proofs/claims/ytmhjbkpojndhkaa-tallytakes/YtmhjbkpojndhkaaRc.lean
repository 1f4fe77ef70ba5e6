import Derived.Test.YtmhjbkpojndhkaaRb
namespace Go.Proofs.Ytmhjbkpojndhkaa
open Go.RowKit
set_option linter.unusedVariables false
set_option linter.unusedSimpArgs false

theorem wp_appW {ops : Array Oper} {rest : List Oper} {o : Oper} {a : Act} {w : World} {Q : Exit → Act → World → Prop} (hg : o.guard = none) (s x : Operand) (T E : TypeId) (c by' : Nat) (z : Value) (ht : Try.prog.underlying T = some (.slice E))
    (hinf : (Try.prog.info? E).map (fun i => (i.zero, i.size, i.bytes)) = some (some z, c, by')) (hzc : z.cells.size = c) (hc0 : 0 < c) (ho : o.op = .call { callee := Callee.builtin Builtin.append, args := #[s, x], argTypes := #[T, T] })
    (base n cap : Nat) (sa : Option Addr) (vs : List Value) (hs : a.eval s = .slice sa n cap) (hown : Own E c w base sa cap n vs) (ad : Addr) (m cc : Nat) (news : List Value) (hx : a.eval x = .slice (some ad) m cc) (hl : news.length = m * c) (hnews : ∀ j u, news[j]? = some u → w.cell? (ad.add j) = some u) (h1 : ∀ u ∈ news, u.oneCell' = true) (hbd : (n + m) * by' ≤ 140737488355328) (hb63 : n + m ≤ 9223372036854775807) (hm : 0 < m) (hbase : base ≤ w.heap.size) (k : Nat) (hk : n + m = k)
    (h : ∀ g' cap' w', Hid (Own E c w' base (some ⟨g', 0, none⟩) cap' k (vs ++ news)) → Hid (Kept (At sa) w w') → Hid (At sa g' ∨ g' = w.heap.size) → wpList Try.prog ops Q rest (a.put o.dst (.slice (some ⟨g', 0, none⟩) k cap')) w') : wpList Try.prog ops Q (o :: rest) a w := by
  subst hk
  obtain ⟨i0, hi, hz0, hz1, hz2⟩ := info_parts hinf
  obtain ⟨v', w', hrun, r1, r2, _, r4⟩ := run_append_own_at (P := Try.prog) (w := w) base T o.type E i0 z c by' ht hi hz0 hz1 hz2 hzc hc0 (.slice sa n cap) n vs hown ad m cc news hl hnews h1 (by unfold maxLen; omega) hbd hbase
  have hk : Kept (At sa) w w' := (Kept.refl (At sa) w).grown r2 (fun k e hk => by
    cases sa with
    | none => cases e
    | some ad' => simp only [Value.ownBlock, Option.some.injEq] at e; exact ⟨ad', rfl, e⟩)
  rcases r1.2 with ⟨e, h0⟩ | ⟨g, cap', cur, e, _⟩
  · omega
  · subst e
    have h4 : At sa g ∨ g = w.heap.size := by
      rcases r4 with e | e
      · left
        cases sa with
        | none => simp [Value.ownBlock] at e
        | some ad' => simp only [Value.ownBlock, Option.some.injEq] at e; exact ⟨ad', rfl, e.symm⟩
      · right; simpa [Value.ownBlock] using e
    refine wp_runTo hg _ w' ?_ (h g cap' w' r1 hk h4)
    simp [execOp, ho, resolve, invoke, builtin, hs, hx, hrun, Result.andThen]
theorem Own.ltAt {t c : Nat} {w : World} {base : Nat} {a : Option Addr} {cap n : Nat} {vs : List Value} (h : Own t c w base a cap n vs) {k : Nat} (hk : At a k) : k < w.heap.size := by
  obtain ⟨ad, rfl, rfl⟩ := hk
  rcases h.2 with ⟨e, _⟩ | ⟨g, _, cur, e, _, hg, _⟩
  · cases e
  · cases e; exact (Array.getElem?_eq_some_iff.1 hg).1

set_option maxHeartbeats 2000000 in
theorem rmissing_any (r cg cv ch : Nat) (ag av ah : Option Addr) (x : TS) (w : World) (h : Rf w r ag cg av cv ah ch x) :
    Calls Try.prog 35 #[.pointer (some ⟨r, 0, none⟩)] w (MissOut w (missL x)) := by
  have HR : Hid (Rf w r ag cg av cv ah ch x) := h
  have hlen := h.len
  clear h
  obtain ⟨n, hn⟩ : ∃ n, n = x.g.length := ⟨_, rfl⟩
  have HN : Hid (x.g.length = n) := hn.symm
  rw [← hn] at hlen
  clear hn
  go_enter Try.func35, Try.ntmps35
  go_wp2
  go_loopw [3, 4] (fun v vi wr => ∃ (k : Nat) (a' : Option Addr) (cap' : Nat), vi = .int .i64 k ∧ k ≤ n ∧ v = .slice a' (missK x k).length cap' ∧ Hid (Own 3 1 wr w.heap.size a' cap' (missK x k).length ((missK x k).map (Value.int .i64))) ∧ Hid (Kept No w wr)) (fun _ i _ => n - (intOf i).toNat)
  case atStart => exact ⟨0, none, 0, by go_num, by omega, by simp [missK], (show Own 3 1 w w.heap.size none 0 (missK x 0).length ((missK x 0).map (Value.int .i64)) by simpa [missK] using Own.nil 3 1 w w.heap.size), Kept.refl _ _⟩
  case round =>
    obtain ⟨k, a', cap', rfl, hk, rfl, HO, HK⟩ := hrel
    have HRk : Hid (Rf wr r ag cg av cv ah ch x) := HR.out.no HK.out
    obtain ⟨c0, _, c2, _⟩ := HRk.out.cells
    rw [HN.out] at c0 c2
    by_cases hlt : k < n
    · have hlt' : (k : Int) < (n : Int) := by omega
      have HJL : Hid (k < x.g.length) := by show _ < _; rw [HN.out]; exact hlt
      obtain ⟨hb, rfl, e1, _⟩ := HRk.out.has HJL.out
      obtain ⟨gb, rfl, e2⟩ := HRk.out.grp HJL.out
      have HTk : Hid (x.g.take (k + 1) = x.g.take k ++ [x.g[k]?.getD 0]) := take_snoc HJL.out
      have HLn : Hid ((missK x k).length ≤ k) := missK_len x k
      generalize x.g[k]?.getD 0 = z at e1 e2 HTk
      cases hv : x.v z with
      | some u =>
        have HU : Hid (missK x (k + 1) = missK x k) := missK_some HTk.out hv
        rw [hv] at e1
        simp only [Option.isSome_some] at e1
        clear hv HTk
        go_wp2
        go_roundw
        case rel => exact ⟨k + 1, a', cap', by go_num, by omega, by rw [HU.out], by rw [HU.out]; exact HO, HK⟩
        case measure => simp [intOf]; omega
      | none =>
        have HU : Hid (missK x (k + 1) = missK x k ++ [z]) := missK_none HTk.out hv
        have hsz : Hid (w.heap.size ≤ wr.heap.size) := HK.out.size
        rw [hv] at e1
        simp only [Option.isSome_none] at e1
        clear hv HTk
        go_wp2_with (at_builtin
                     refine wp_appV rfl _ _ 22 3 1 8 (.int .i64 0) Try.und22 Try.info3' rfl (by omega) rfl w.heap.size _ cap' a' _ rfl (HO.out.no ((Kept.refl No wr).alloc _)) ⟨wr.heap.size, 0, none⟩ 1 1 [.int .i64 z] rfl rfl (cell_new1 _ _ _) (by simp [Value.oneCell']) (by have := HLn.out; omega) (by have := HLn.out; omega) (by omega) (by have := hsz.out; simp; omega) (missK x (k + 1)).length (by rw [HU.out]; simp) ?_
                     intro g' cap'' w4 HO4 HK4
                     have HKw : Hid (Kept No w w4) := (HK.out.alloc _).trans HK4.out (fun _ e => e) (fun i hi e => by have := HO.out.base e; omega)
                     have HO5 : Hid (Own 3 1 w4 w.heap.size (some ⟨g', 0, none⟩) cap'' (missK x (k + 1)).length ((missK x (k + 1)).map (Value.int .i64))) := by
                       have := HO4.out
                       show Own _ _ _ _ _ _ _ _
                       rw [HU.out, List.map_append] at *
                       exact this
                     clear HO4 HK4)
        go_roundw
        case rel => exact ⟨k + 1, some ⟨g', 0, none⟩, cap'', by go_num, by omega, rfl, HO5, HKw⟩
        case measure => simp [intOf]; omega
    · have hlt' : ¬ (k : Int) < (n : Int) := by omega
      obtain rfl : k = n := by omega
      have HA : Hid (missK x k = missL x) := by show _ = _; rw [← HN.out]; exact missK_all x
      go_wp2
      go_ret
      rw [HA.out] at HO ⊢
      exact ⟨a', cap', rfl, HO.out, HK.out⟩

def RGot (w : World) (l : List (Int × Int)) (e : Ending) (w' : World) : Prop :=
  ∃ a1 c1 a2 c2, e = .returned (.tuple #[.slice a1 l.length c1, .slice a2 l.length c2]) ∧ Own 3 1 w' w.heap.size a1 c1 l.length ((l.map Prod.fst).map (Value.int .i64)) ∧ Own 3 1 w' w.heap.size a2 c2 l.length ((l.map Prod.snd).map (Value.int .i64)) ∧ Kept No w w'

set_option maxHeartbeats 2000000 in
theorem rgot_any (r cg cv ch : Nat) (ag av ah : Option Addr) (x : TS) (w : World) (h : Rf w r ag cg av cv ah ch x) (hc : cnt x ≤ 8796093022208) :
    Calls Try.prog 34 #[.pointer (some ⟨r, 0, none⟩)] w (RGot w (gotL x)) := by
  have HR : Hid (Rf w r ag cg av cv ah ch x) := h
  have HC : Hid (cnt x ≤ 8796093022208) := hc
  have hlen := h.len
  clear h hc
  obtain ⟨n, hn⟩ : ∃ n, n = x.g.length := ⟨_, rfl⟩
  have HN : Hid (x.g.length = n) := hn.symm
  rw [← hn] at hlen
  clear hn
  go_enter Try.func34, Try.ntmps34
  go_wp2
  go_loopw [4, 5, 6] (fun u v vi wr => ∃ (k : Nat) (a1 : Option Addr) (c1 : Nat) (a2 : Option Addr) (c2 : Nat), vi = .int .i64 k ∧ k ≤ n ∧ u = .slice a1 (gotK x k).length c1 ∧ v = .slice a2 (gotK x k).length c2 ∧ Hid (Own 3 1 wr w.heap.size a1 c1 (gotK x k).length (((gotK x k).map Prod.fst).map (Value.int .i64))) ∧ Hid (Own 3 1 wr w.heap.size a2 c2 (gotK x k).length (((gotK x k).map Prod.snd).map (Value.int .i64))) ∧ Hid (∀ q, At a1 q → ¬ At a2 q) ∧ Hid (Kept No w wr)) (fun _ _ i _ => n - (intOf i).toNat)
  case atStart => exact ⟨0, none, 0, none, 0, by go_num, by omega, by simp [gotK], by simp [gotK], (show Own 3 1 w w.heap.size none 0 (gotK x 0).length (((gotK x 0).map Prod.fst).map (Value.int .i64)) by simpa [gotK] using Own.nil 3 1 w w.heap.size), (show Own 3 1 w w.heap.size none 0 (gotK x 0).length (((gotK x 0).map Prod.snd).map (Value.int .i64)) by simpa [gotK] using Own.nil 3 1 w w.heap.size), (fun q e => absurd e At.none), Kept.refl _ _⟩
  case round =>
    obtain ⟨k, a1, c1, a2, c2, rfl, hk, rfl, rfl, HO1, HO2, HD, HK⟩ := hrel
    have HRk : Hid (Rf wr r ag cg av cv ah ch x) := HR.out.no HK.out
    obtain ⟨b0, b1, b2, _⟩ := HRk.out.cells
    rw [HN.out] at b0 b1 b2
    by_cases hlt : k < n
    · have hlt' : (k : Int) < (n : Int) := by omega
      have HJL : Hid (k < x.g.length) := by show _ < _; rw [HN.out]; exact hlt
      obtain ⟨hb, rfl, e1, _⟩ := HRk.out.has HJL.out
      obtain ⟨gb, rfl, e2⟩ := HRk.out.grp HJL.out
      obtain ⟨vb, rfl, e3, _⟩ := HRk.out.val HJL.out
      have HTk : Hid (x.g.take (k + 1) = x.g.take k ++ [x.g[k]?.getD 0]) := take_snoc HJL.out
      have HVl : Hid (∀ W, Kept No w W → W.cell? ⟨r, 1, none⟩ = some (.slice (some ⟨vb, 0, none⟩) n cv) ∧ W.cell? ⟨vb, k, none⟩ = some (.int .i64 ((x.v (x.g[k]?.getD 0)).getD 0))) := fun W hk => by
        have h1 := HR.out.no hk
        have h2 := h1.cells.2.1
        rw [HN.out] at h2
        obtain ⟨_, e, h3, _⟩ := h1.val HJL.out
        cases e
        exact ⟨h2, h3⟩
      generalize x.g[k]?.getD 0 = z at e1 e2 e3 HTk HVl
      cases hv : x.v z with
      | none =>
        have HU : Hid (gotK x (k + 1) = gotK x k) := gotK_none HTk.out hv
        rw [hv] at e1
        simp only [Option.isSome_none] at e1
        clear hv HTk HVl
        go_wp2
        go_roundw
        case rel => exact ⟨k + 1, a1, c1, a2, c2, by go_num, by omega, by rw [HU.out], by rw [HU.out], by rw [HU.out]; exact HO1, by rw [HU.out]; exact HO2, HD, HK⟩
        case measure => simp [intOf]; omega
      | some u =>
        have HU : Hid (gotK x (k + 1) = gotK x k ++ [(z, u)]) := gotK_some HTk.out hv
        have HLn : Hid ((gotK x k).length + 1 ≤ 8796093022208) := by
          have h1 := gotK_len x (k + 1)
          have h2 := HC.out
          rw [HU.out] at h1
          simp at h1
          show _ ≤ _
          omega
        have hsz : Hid (w.heap.size ≤ wr.heap.size) := HK.out.size
        rw [hv] at e1 e3 HVl
        simp only [Option.isSome_some, Option.getD_some] at e1 e3 HVl
        clear hv HTk e3
        have TA : True := trivial
        go_wp2_with (first
          | (at_builtin
             have htok := TA
             refine wp_appW rfl _ _ 22 3 1 8 (.int .i64 0) Try.und22 Try.info3' rfl (by omega) rfl w.heap.size _ c1 a1 _ rfl (HO1.out.no ((Kept.refl No wr).alloc _)) ⟨wr.heap.size, 0, none⟩ 1 1 [.int .i64 z] rfl rfl (cell_new1 _ _ _) (by simp [Value.oneCell']) (by have := HLn.out; omega) (by have := HLn.out; omega) (by omega) (by have := hsz.out; simp; omega) (gotK x (k + 1)).length (by rw [HU.out]; simp) ?_
             intro g1 d1 w4 HO4 HK4 HA4
             have hkw : Kept No w w4 := (HK.out.alloc _).trans HK4.out (fun _ e => e) (fun i hi e => by have := HO1.out.base e; omega)
             have HKw : Hid (Kept No w w4) := hkw
             have HO5 : Hid (Own 3 1 w4 w.heap.size (some ⟨g1, 0, none⟩) d1 (gotK x (k + 1)).length (((gotK x (k + 1)).map Prod.fst).map (Value.int .i64))) := by
               have := HO4.out
               show Own _ _ _ _ _ _ _ _
               rw [HU.out, List.map_append, List.map_append] at *
               exact this
             have HO2' : Hid (Own 3 1 w4 w.heap.size a2 c2 (gotK x k).length (((gotK x k).map Prod.snd).map (Value.int .i64))) := (HO2.out.no ((Kept.refl No wr).alloc (.cells #[.int .i64 z] 3))).kept HK4.out (fun q e f => HD.out q f e)
             have HD4 : Hid (∀ q, At (some ⟨g1, 0, none⟩) q → ¬ At a2 q) := fun q ⟨ad, e, e2⟩ h2 => by
               cases e
               have e2 : g1 = q := e2
               subst e2
               rcases HA4.out with h | h
               · exact HD.out _ h h2
               · have h3 := HO2.out.ltAt h2
                 simp at h
                 omega
             obtain ⟨v1, v2⟩ := HVl.out w4 hkw
             have hsz4 : Hid (w.heap.size ≤ w4.heap.size) := hkw.size
             clear HO4 HK4 HA4 hkw htok TA)
          | (at_builtin
             refine wp_appW rfl _ _ 22 3 1 8 (.int .i64 0) Try.und22 Try.info3' rfl (by omega) rfl w.heap.size _ c2 a2 _ rfl (HO2'.out.no ((Kept.refl No w4).alloc _)) ⟨w4.heap.size, 0, none⟩ 1 1 [.int .i64 u] rfl rfl (cell_new1 _ _ _) (by simp [Value.oneCell']) (by have := HLn.out; omega) (by have := HLn.out; omega) (by omega) (by have := hsz4.out; simp; omega) (gotK x (k + 1)).length (by rw [HU.out]; simp) ?_
             intro g2 d2 w6 HO6 HK6 HA6
             have HKw6 : Hid (Kept No w w6) := (HKw.out.alloc _).trans HK6.out (fun _ e => e) (fun i hi e => by have := HO2'.out.base e; omega)
             have HO7 : Hid (Own 3 1 w6 w.heap.size (some ⟨g2, 0, none⟩) d2 (gotK x (k + 1)).length (((gotK x (k + 1)).map Prod.snd).map (Value.int .i64))) := by
               have := HO6.out
               show Own _ _ _ _ _ _ _ _
               rw [HU.out, List.map_append, List.map_append] at *
               exact this
             have HO8 : Hid (Own 3 1 w6 w.heap.size (some ⟨g1, 0, none⟩) d1 (gotK x (k + 1)).length (((gotK x (k + 1)).map Prod.fst).map (Value.int .i64))) := (HO5.out.no ((Kept.refl No w4).alloc (.cells #[.int .i64 u] 3))).kept HK6.out (fun q e f => HD4.out q e f)
             have HD6 : Hid (∀ q, At (some ⟨g1, 0, none⟩) q → ¬ At (some ⟨g2, 0, none⟩) q) := fun q hq ⟨ad, e, e2⟩ => by
               cases e
               have e2 : g2 = q := e2
               subst e2
               rcases HA6.out with h | h
               · exact HD4.out _ hq h
               · have h3 := HO5.out.ltAt hq
                 simp at h
                 omega
             clear HO6 HK6 HA6))
        go_roundw
        case rel => exact ⟨k + 1, some ⟨g1, 0, none⟩, d1, some ⟨g2, 0, none⟩, d2, by go_num, by omega, rfl, rfl, HO8, HO7, HD6, HKw6⟩
        case measure => simp [intOf]; omega
    · have hlt' : ¬ (k : Int) < (n : Int) := by omega
      obtain rfl : k = n := by omega
      have HA : Hid (gotK x k = gotL x) := by show _ = _; rw [← HN.out]; exact gotK_all x
      go_wp2
      go_ret2
      rw [HA.out] at HO1 HO2
      exact ⟨a1, c1, a2, c2, by rw [HA.out]; rfl, HO1.out, HO2.out, HK.out⟩

end Go.Proofs.Ytmhjbkpojndhkaa
