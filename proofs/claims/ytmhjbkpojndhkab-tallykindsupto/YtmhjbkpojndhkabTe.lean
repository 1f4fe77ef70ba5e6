import Derived.Test.YtmhjbkpojndhkabTd
namespace Go.Proofs.Ytmhjbkpojndhkab
open Go.RowKit
set_option linter.unusedVariables false
set_option linter.unusedSimpArgs false

theorem wp_field0 {ops : Array Oper} {rest : List Oper} {o : Oper} {a : Act} {w : World} {Q : Exit → Act → World → Prop} (hg : o.guard = none) (x : Operand) (ho : o.op = .field 93 x 0) (c v : Value) (hx : a.eval x = .agg #[c, v])
    (h : wpList Try.prog ops Q rest (a.put o.dst c) w) : wpList Try.prog ops Q (o :: rest) a w := by
  refine wp_runTo hg c w ?_ h
  simp only [execOp, ho, hx]
  kernel_rfl

theorem look1_some {x : TS} {s v : Int} (h : s ∈ x.g) (hv : x.v s = some v) : tupOk ((tmap x s).getD (.agg #[.bool false, .int .i64 0])) (tmap x s).isSome false = .agg #[.bool true, .int .i64 v] := by
  rw [tmap_some h hv]; rfl
theorem look1_none {x : TS} {s : Int} (h : s ∈ x.g) (hv : x.v s = none) : tupOk ((tmap x s).getD (.agg #[.bool false, .int .i64 0])) (tmap x s).isSome false = .agg #[.bool false, .int .i64 0] := by
  rw [tmap_none h hv]; rfl

theorem mem_at {l : List Int} {k : Nat} (h : k < l.length) : l[k]?.getD 0 ∈ l := by
  rw [List.getElem?_eq_getElem h]; exact List.getElem_mem h

def missK (x : TS) (k : Nat) : List Int := (x.g.take k).filter (fun n => (x.v n).isNone)
theorem missK_some {x : TS} {k : Nat} {z v : Int} (ht : x.g.take (k + 1) = x.g.take k ++ [z]) (hv : x.v z = some v) : missK x (k + 1) = missK x k := by
  unfold missK; rw [ht, List.filter_append]; simp [hv]
theorem missK_none {x : TS} {k : Nat} {z : Int} (ht : x.g.take (k + 1) = x.g.take k ++ [z]) (hv : x.v z = none) : missK x (k + 1) = missK x k ++ [z] := by
  unfold missK; rw [ht, List.filter_append]; simp [hv]
theorem missK_len (x : TS) (k : Nat) : (missK x k).length ≤ k := by
  unfold missK
  have h1 := List.length_filter_le (fun n => (x.v n).isNone) (x.g.take k)
  have h2 := List.length_take_le k x.g
  omega
theorem missK_all (x : TS) : missK x x.g.length = missL x := by unfold missK missL; rw [List.take_length]

def MissOut (w : World) (l : List Int) (e : Ending) (w' : World) : Prop :=
  ∃ a cap, e = .returned (.slice a l.length cap) ∧ Own 3 1 w' w.heap.size a cap l.length (l.map (Value.int .i64)) ∧ Kept No w w'

set_option maxHeartbeats 2000000 in
theorem missing_any (t b cap : Nat) (a : Option Addr) (x : TS) (w : World) (h : Tal w t b a cap x) :
    Calls Try.prog 19 #[.pointer (some ⟨t, 0, none⟩)] w (MissOut w (missL x)) := by
  have HT : Hid (Tal w t b a cap x) := h
  obtain ⟨c0, c1, c2, c3⟩ := h.cells
  have hlen := h.len
  clear h c1 c2 c3
  obtain ⟨n, hn⟩ : ∃ n, n = x.g.length := ⟨_, rfl⟩
  have HN : Hid (x.g.length = n) := hn.symm
  rw [← hn] at c0 hlen
  clear hn
  go_enter Try.func19, Try.ntmps19
  go_wp2
  go_loopw [3, 11] (fun v vi wr => ∃ (k : Nat) (a' : Option Addr) (cap' : Nat), vi = .int .i64 k ∧ k ≤ n ∧ v = .slice a' (missK x k).length cap' ∧ Hid (Own 3 1 wr w.heap.size a' cap' (missK x k).length ((missK x k).map (Value.int .i64))) ∧ Hid (Kept No w wr)) (fun _ i _ => n - (intOf i).toNat)
  case atStart => exact ⟨0, none, 0, by go_num, by omega, by simp [missK], (show Own 3 1 w w.heap.size none 0 (missK x 0).length ((missK x 0).map (Value.int .i64)) by simpa [missK] using Own.nil 3 1 w w.heap.size), Kept.refl _ _⟩
  case round =>
    obtain ⟨k, a', cap', rfl, hk, rfl, HO, HK⟩ := hrel
    clear c0
    by_cases hlt : k < n
    · have hlt' : (k : Int) < (n : Int) := by omega
      have HT1 : Hid (Tal wr t b a cap x) := HT.out.no HK.out
      have d3 := HT1.out.cells.2.2.2
      have HJL : Hid (k < x.g.length) := by show _ < _; rw [HN.out]; exact hlt
      obtain ⟨bb, off, rfl, hcell⟩ := HT1.out.nums k HJL.out
      have HTk : Hid (x.g.take (k + 1) = x.g.take k ++ [x.g[k]?.getD 0]) := take_snoc HJL.out
      have HMem : Hid (x.g[k]?.getD 0 ∈ x.g) := mem_at HJL.out
      have HLn : Hid ((missK x k).length ≤ k) := missK_len x k
      generalize x.g[k]?.getD 0 = z at hcell HTk HMem
      cases hv : x.v z with
      | some u =>
        have HL : Hid _ := look1_some HMem.out hv
        have HU : Hid (missK x (k + 1) = missK x k) := missK_some HTk.out hv
        clear hv HTk
        go_wp2_with (first | (refine wp_lookupV rfl _ _ 89 93 false rfl b z rfl rfl HT1.out.map Try.und89 (Try.zero93 _) _ HL.out ?_) | (refine wp_field0 rfl _ rfl _ _ rfl ?_))
        go_roundw
        case rel => exact ⟨k + 1, a', cap', by go_num, by omega, by rw [HU.out], by rw [HU.out]; exact HO, HK⟩
        case measure => simp [intOf]; omega
      | none =>
        have HL : Hid _ := look1_none HMem.out hv
        have HU : Hid (missK x (k + 1) = missK x k ++ [z]) := missK_none HTk.out hv
        have hsz : Hid (w.heap.size ≤ wr.heap.size) := HK.out.size
        clear hv HTk
        go_wp2_with (first
          | (refine wp_lookupV rfl _ _ 89 93 false rfl b z rfl rfl HT1.out.map Try.und89 (Try.zero93 _) _ HL.out ?_)
          | (refine wp_field0 rfl _ rfl _ _ rfl ?_)
          | (at_builtin
             refine wp_appV rfl _ _ 22 3 1 8 (.int .i64 0) Try.und22 Try.info3' rfl (by omega) rfl w.heap.size _ cap' a' _ rfl (HO.out.no ((Kept.refl No wr).alloc _)) ⟨wr.heap.size, 0, none⟩ 1 1 [.int .i64 z] rfl rfl (cell_new1 _ _ _) (by simp [Value.oneCell']) (by have := HLn.out; omega) (by have := HLn.out; omega) (by omega) (by have := hsz.out; simp; omega) (missK x (k + 1)).length (by rw [HU.out]; simp) ?_
             intro g' cap'' w4 HO4 HK4
             have HKw : Hid (Kept No w w4) := (HK.out.alloc _).trans HK4.out (fun _ e => e) (fun i hi e => by have := HO.out.base e; omega)
             have HO5 : Hid (Own 3 1 w4 w.heap.size (some ⟨g', 0, none⟩) cap'' (missK x (k + 1)).length ((missK x (k + 1)).map (Value.int .i64))) := by
               have := HO4.out
               show Own _ _ _ _ _ _ _ _
               rw [HU.out, List.map_append] at *
               exact this
             clear HO4 HK4))
        go_roundw
        case rel => exact ⟨k + 1, some ⟨g', 0, none⟩, cap'', by go_num, by omega, rfl, HO5, HKw⟩
        case measure => simp [intOf]; omega
    · have hlt' : ¬ (k : Int) < (n : Int) := by omega
      obtain rfl : k = n := by omega
      have HA : Hid (missK x k = missL x) := by show _ = _; rw [← HN.out]; exact missK_all x
      go_wp2
      go_ret
      rw [HA.out] at HO ⊢
      exact ⟨a', cap', rfl, HO.out, HK.out⟩

theorem Try.und101 : Try.prog.underlying 101 = some (.slice 103) := by kernel_rfl
theorem Try.info103 : (Try.prog.info? 103).map (fun i => (i.zero, i.size, i.bytes)) = some (some (.agg #[.int .i64 0, .int .i64 0]), 2, 16) := by kernel_rfl

def gotK (x : TS) (k : Nat) : List (Int × Int) := (x.g.take k).filterMap (fun n => (x.v n).map (fun v => (n, v)))
theorem gotK_some {x : TS} {k : Nat} {z v : Int} (ht : x.g.take (k + 1) = x.g.take k ++ [z]) (hv : x.v z = some v) : gotK x (k + 1) = gotK x k ++ [(z, v)] := by
  unfold gotK; rw [ht, List.filterMap_append]; simp [hv]
theorem gotK_none {x : TS} {k : Nat} {z : Int} (ht : x.g.take (k + 1) = x.g.take k ++ [z]) (hv : x.v z = none) : gotK x (k + 1) = gotK x k := by
  unfold gotK; rw [ht, List.filterMap_append]; simp [hv]
theorem gotL_len (x : TS) : (gotL x).length = cnt x := by
  unfold gotL cnt
  rw [List.length_filterMap_eq_countP]
  congr 1
  funext n
  cases x.v n <;> rfl
theorem gotK_len (x : TS) (k : Nat) : (gotK x k).length ≤ cnt x := by
  rw [← gotL_len]
  unfold gotK gotL
  conv => rhs; rw [← List.take_append_drop k x.g, List.filterMap_append, List.length_append]
  omega
theorem gotK_all (x : TS) : gotK x x.g.length = gotL x := by unfold gotK gotL; rw [List.take_length]

/-- Pairs as cells. -/
def prs : List (Int × Int) → List Value
  | [] => []
  | p :: l => .int .i64 p.1 :: .int .i64 p.2 :: prs l
theorem prs_app (a b : List (Int × Int)) : prs (a ++ b) = prs a ++ prs b := by
  induction a with
  | nil => rfl
  | cons p l ih => simp [prs, ih]
theorem prs_len (a : List (Int × Int)) : (prs a).length = a.length * 2 := by
  induction a with
  | nil => rfl
  | cons p l ih => simp [prs, ih]; omega
theorem prs_at : ∀ (a : List (Int × Int)) (i : Nat), i < a.length → (prs a)[i * 2]? = some (.int .i64 (a[i]?.getD (0, 0)).1) ∧ (prs a)[i * 2 + 1]? = some (.int .i64 (a[i]?.getD (0, 0)).2)
  | p :: l, 0, _ => ⟨rfl, rfl⟩
  | p :: l, i + 1, h => by
    have := prs_at l i (by simpa using h)
    have e : (i + 1) * 2 = i * 2 + 1 + 1 := by omega
    rw [e]
    simpa [prs] using this

def GotOut (w : World) (l : List (Int × Int)) (e : Ending) (w' : World) : Prop :=
  ∃ a cap, e = .returned (.func (.func 33) #[] #[.pointer (some ⟨w.heap.size, 0, none⟩)]) ∧ Box w' w.heap.size 101 #[.slice a l.length cap] ∧ Own 103 2 w' w.heap.size a cap l.length (prs l) ∧ Kept No w w'

theorem cell_new2 (w : World) (u v : Value) (t : TypeId) (j : Nat) (y : Value) (h : [u, v][j]? = some y) : (w.alloc (.cells #[u, v] t)).cell? ((⟨w.heap.size, 0, none⟩ : Addr).add j) = some y := by
  rw [addr_add, Nat.zero_add, (Box.new w t #[u, v]).cell]
  simpa using h

set_option maxHeartbeats 2000000 in
theorem gotten_any (t b cap : Nat) (a : Option Addr) (x : TS) (w : World) (h : Tal w t b a cap x) (hc : cnt x ≤ 8796093022208) :
    Calls Try.prog 32 #[.pointer (some ⟨t, 0, none⟩)] w (GotOut w (gotL x)) := by
  have HT : Hid (Tal w t b a cap x) := h
  have HC : Hid (cnt x ≤ 8796093022208) := hc
  have hlen := h.len
  obtain ⟨w0, hw0⟩ : ∃ w0, w0 = w.alloc (.cells #[.slice none 0 0] 101) := ⟨_, rfl⟩
  have HB0 : Hid (Box w0 w.heap.size 101 #[.slice none 0 0]) := by rw [hw0]; exact Box.new _ _ _
  have HK0 : Hid (Kept No w w0) := by rw [hw0]; exact (Kept.refl No w).alloc _
  have c0 := (h.no HK0.out).cells.1
  clear h hc
  obtain ⟨n, hn⟩ : ∃ n, n = x.g.length := ⟨_, rfl⟩
  have HN : Hid (x.g.length = n) := hn.symm
  rw [← hn] at c0 hlen
  clear hn
  rw [hw0] at c0
  go_enter Try.func32, Try.ntmps32
  go_wp2
  rw [← hw0]
  clear hw0 c0
  go_loopw [12] (fun vi wr => ∃ (k : Nat), vi = .int .i64 k ∧ k ≤ n ∧ Hid (∃ (a' : Option Addr) (cap' : Nat), Box wr w.heap.size 101 #[.slice a' (gotK x k).length cap'] ∧ Own 103 2 wr w.heap.size a' cap' (gotK x k).length (prs (gotK x k))) ∧ Hid (Kept No w wr)) (fun i _ => n - (intOf i).toNat)
  case atStart => exact ⟨0, by go_num, by omega, ⟨none, 0, by simpa [gotK] using HB0.out, by simpa [gotK, prs] using Own.nil _ _ _ _⟩, HK0⟩
  case round =>
    obtain ⟨k, rfl, hk, HI, HK⟩ := hrel
    clear HB0 HK0
    obtain ⟨a', cap', hB, hO⟩ := HI.out
    have HB : Hid (Box wr w.heap.size 101 #[.slice a' (gotK x k).length cap']) := hB
    have HO : Hid (Own 103 2 wr w.heap.size a' cap' (gotK x k).length (prs (gotK x k))) := hO
    clear hB hO HI
    by_cases hlt : k < n
    · have hlt' : (k : Int) < (n : Int) := by omega
      have HT1 : Hid (Tal wr t b a cap x) := HT.out.no HK.out
      have d3 := HT1.out.cells.2.2.2
      have HJL : Hid (k < x.g.length) := by show _ < _; rw [HN.out]; exact hlt
      obtain ⟨bb, off, rfl, hcell⟩ := HT1.out.nums k HJL.out
      have HTk : Hid (x.g.take (k + 1) = x.g.take k ++ [x.g[k]?.getD 0]) := take_snoc HJL.out
      have HMem : Hid (x.g[k]?.getD 0 ∈ x.g) := mem_at HJL.out
      generalize x.g[k]?.getD 0 = z at hcell HTk HMem
      cases hv : x.v z with
      | none =>
        have HL : Hid _ := look1_none HMem.out hv
        have HU : Hid (gotK x (k + 1) = gotK x k) := gotK_none HTk.out hv
        clear hv HTk
        go_wp2_with (refine wp_lookupV rfl _ _ 89 93 false rfl b z rfl rfl HT1.out.map Try.und89 (Try.zero93 _) _ HL.out ?_)
        go_roundw
        case rel => exact ⟨k + 1, by go_num, by omega, ⟨a', cap', by rw [HU.out]; exact HB.out.alloc _, by rw [HU.out]; exact HO.out.no ((Kept.refl No wr).alloc _)⟩, HK.out.alloc _⟩
        case measure => simp [intOf]; omega
      | some u =>
        have HL : Hid _ := look1_some HMem.out hv
        have HU : Hid (gotK x (k + 1) = gotK x k ++ [(z, u)]) := gotK_some HTk.out hv
        have HLn : Hid ((gotK x k).length + 1 ≤ 8796093022208) := by
          have h1 := gotK_len x (k + 1)
          have h2 := HC.out
          rw [HU.out] at h1
          simp at h1
          show _ ≤ _
          omega
        obtain ⟨w1, hw1⟩ : ∃ w1, w1 = wr.alloc (.cells #[.bool true, .int .i64 u] 93) := ⟨_, rfl⟩
        have HK1 : Hid (Kept No w w1) := by rw [hw1]; exact HK.out.alloc _
        have HB1 : Hid (Box w1 w.heap.size 101 #[.slice a' (gotK x k).length cap']) := by rw [hw1]; exact HB.out.alloc _
        have HO1 : Hid (Own 103 2 w1 w.heap.size a' cap' (gotK x k).length (prs (gotK x k))) := by rw [hw1]; exact HO.out.no ((Kept.refl No wr).alloc _)
        have hsz : Hid (w.heap.size < w1.heap.size) := HB1.out.lt
        have HSZ : Hid (wr.heap.size + 1 = w1.heap.size) := by rw [hw1]; show _ = _; simp
        have e0 := HB1.out.cell 0
        simp only [List.getElem?_toArray, List.getElem?_cons_zero] at e0
        rw [hw1] at e0
        clear hv HTk
        go_wp2_with (first
          | (refine wp_lookupV rfl _ _ 89 93 false rfl b z rfl rfl HT1.out.map Try.und89 (Try.zero93 _) _ HL.out ?_)
          | (at_builtin
             rw [← hw1]
             refine wp_appV rfl _ _ 101 103 2 16 (.agg #[.int .i64 0, .int .i64 0]) Try.und101 Try.info103 rfl (by omega) rfl w.heap.size _ cap' a' _ rfl (HO1.out.no ((Kept.refl No w1).alloc _)) ⟨wr.heap.size + 1, 0, none⟩ 1 1 [.int .i64 z, .int .i64 u] rfl rfl (by rw [HSZ.out]; exact cell_new2 _ _ _ _) (by simp [Value.oneCell']) (by have := HLn.out; omega) (by have := HLn.out; omega) (by omega) (by have := hsz.out; simp; omega) (gotK x (k + 1)).length (by rw [HU.out]; simp) ?_
             intro g' cap'' w4 HO4 HK4
             have HOff : Hid (∀ q, At a' q → q ≠ w.heap.size) := by
               intro q hq e
               rcases HO1.out.cases (prs_len _) with ⟨rfl, _⟩ | ⟨g, rfl, _, _, sp, hgb, _⟩
               · exact absurd hq At.none
               · obtain ⟨ad, e1, rfl⟩ := hq
                 cases e1
                 have e : g = w.heap.size := e
                 have hb4 := HB1.out
                 unfold Box at hb4
                 rw [e, hb4] at hgb
                 simp at hgb
             have HKw : Hid (Kept No w w4) := (HK1.out.alloc _).trans HK4.out (fun _ e => e) (fun i hi e => by have := HO.out.base e; omega)
             have HB4 : Hid (Box w4 w.heap.size 101 #[.slice a' (gotK x k).length cap']) := (HB1.out.alloc _).kept HK4.out (fun e => HOff.out _ e rfl)
             have HO5 : Hid (Own 103 2 w4 w.heap.size (some ⟨g', 0, none⟩) cap'' (gotK x (k + 1)).length (prs (gotK x (k + 1)))) := by
               have := HO4.out
               show Own _ _ _ _ _ _ _ _
               rw [HU.out, prs_app] at *
               exact this
             have HGT : Hid (g' ≠ w.heap.size) := by
               intro e
               rcases HO5.out.cases (prs_len _) with ⟨e, _⟩ | ⟨g, e1, _, _, sp, hgb, _⟩
               · cases e
               · cases e1
                 have hb4 := HB4.out
                 unfold Box at hb4
                 rw [e, hb4] at hgb
                 simp at hgb
             have f0 := HB4.out.frozen 0
             have e0' := HB4.out.cell 0
             simp only [List.getElem?_toArray, List.getElem?_cons_zero] at e0'
             clear HO4 HK4 e0 hw1))
        go_roundw
        case rel =>
          refine ⟨k + 1, by go_num, by omega, ⟨some ⟨g', 0, none⟩, cap'', HB4.out.set 0 _, HO5.out.kept ((Kept.refl (Only w.heap.size) w4).setCell (p := ⟨w.heap.size, 0, none⟩) (fun _ => rfl) _) (fun q hq e => ?_)⟩, HKw.out.setCell (p := ⟨w.heap.size, 0, none⟩) (fun h => by have : w.heap.size < w.heap.size := h; omega) _⟩
          obtain ⟨ad, e1, rfl⟩ := hq
          cases e1
          exact HGT.out e
        case measure => simp [intOf]; omega
    · have hlt' : ¬ (k : Int) < (n : Int) := by omega
      obtain rfl : k = n := by omega
      have HA : Hid (gotK x k = gotL x) := by show _ = _; rw [← HN.out]; exact gotK_all x
      go_wp2
      go_ret
      rw [HA.out] at HO HB
      exact ⟨a', cap', rfl, HB.out, HO.out, HK.out⟩

end Go.Proofs.Ytmhjbkpojndhkab
