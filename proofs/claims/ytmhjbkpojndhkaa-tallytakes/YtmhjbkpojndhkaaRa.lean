import Derived.Test.YtmhjbkpojndhkaaPm
import Derived.Test.YtmhjbkpojndhkaaLe
import Derived.Deep.RegionHeld3
import Derived.Deep.Cut
namespace Go.Proofs.Ytmhjbkpojndhkaa
open Go.RowKit
set_option linter.unusedVariables false
set_option linter.unusedSimpArgs false

theorem Try.und65 : Try.prog.underlying 65 = some (.slice 4) := by kernel_rfl
theorem Try.info4 : (Try.prog.info? 4).map (fun i => (i.zero, i.size, i.bytes)) = some (some (.bool false), 1, 1) := by kernel_rfl

/-- Where a number stands first; none: nowhere. -/
def PlaceOut (w : World) (xs : List Int) (v : Int) (e : Ending) (w' : World) : Prop :=
  ((v ∉ xs ∧ e = .returned (.int .i64 (-1))) ∨ ∃ k : Nat, k < xs.length ∧ xs[k]?.getD 0 = v ∧ e = .returned (.int .i64 k)) ∧ w' = w

set_option maxHeartbeats 1000000 in
theorem place_any (a : Option Addr) (n c : Nat) (xs : List Int) (v : Int) (w : World) (hx : xs.length = n) (hn : n ≤ 9223372036854775807) (h1 : Nums .i64 w a xs) :
    Calls Try.prog 32 #[.slice a n c, .int .i64 v] w (PlaceOut w xs v) := by
  have HX : Hid (xs.length = n) := hx
  have H1 : Hid (Nums .i64 w a xs) := h1
  clear hx h1
  go_enter Try.func32, Try.ntmps32
  go_wp2
  go_loopw [5] (fun vi wr => ∃ k : Nat, vi = .int .i64 k ∧ k ≤ n ∧ Hid (v ∉ xs.take k) ∧ Hid (wr = w)) (fun i _ => n - (intOf i).toNat)
  case atStart => exact ⟨0, by go_num, by omega, (by simp : v ∉ xs.take 0), (rfl : w = w)⟩
  case round =>
    obtain ⟨k, rfl, hk, HA, HW⟩ := hrel
    have hw := HW.out
    subst hw
    by_cases hlt : k < n
    · have hlt' : (k : Int) < (n : Int) := by omega
      obtain ⟨b1, o1, rfl, e1⟩ := H1.out k (by rw [HX.out]; exact hlt)
      have HS : Hid (¬ xs[k]?.getD 0 = v → v ∉ xs.take (k + 1)) := fun h => not_in_take HA.out (by rw [HX.out]; exact hlt) h
      obtain ⟨x, hxx⟩ : ∃ x, x = xs[k]?.getD 0 := ⟨_, rfl⟩
      rw [← hxx] at e1 HS
      have HXX : Hid (x = xs[k]?.getD 0) := hxx
      clear hxx
      by_cases hxy : x = v
      · subst hxy
        clear HS
        go_wp2
        all_goals go_ret
        all_goals exact ⟨.inr ⟨k, by rw [HX.out]; exact hlt, HXX.out.symm, rfl⟩, rfl⟩
      · have HA1 : Hid (v ∉ xs.take (k + 1)) := HS.out hxy
        have hb : (x == v) = false := by simpa using hxy
        clear HS
        go_wp2
        go_roundw
        case rel => exact ⟨k + 1, by go_num, by omega, HA1, trivial⟩
        case measure => simp [intOf]; omega
    · have hlt' : ¬ (k : Int) < (n : Int) := by omega
      obtain rfl : k = n := by omega
      have HT : Hid (v ∉ xs) := by have := HA.out; rw [List.take_of_length_le (by rw [HX.out]; omega)] at this; exact this
      go_wp2
      go_ret
      exact ⟨.inl ⟨HT.out, rfl⟩, rfl⟩

set_option maxHeartbeats 1000000 in
theorem unlike_any (a0 : Option Addr) (n0 cap0 : Nat) (zs : List Int) (w : World) (hz : zs.length = n0) (hn : n0 ≤ 17592186043904) (h0 : Nums .i64 w a0 zs) :
    Calls Try.prog 31 #[.slice a0 n0 cap0] w (MissOut w (uq zs)) := by
  have HZ : Hid (zs.length = n0) := hz
  have H0 : Hid (Nums .i64 w a0 zs) := h0
  clear hz h0
  go_enter Try.func31, Try.ntmps31
  go_wp2
  go_loopw [3, 4] (fun v vi wr => ∃ (k : Nat) (a' : Option Addr) (cap' : Nat), vi = .int .i64 k ∧ k ≤ n0 ∧ v = .slice a' (uq (zs.take k)).length cap' ∧ Hid (Own 3 1 wr w.heap.size a' cap' (uq (zs.take k)).length ((uq (zs.take k)).map (Value.int .i64))) ∧ Hid (Kept No w wr)) (fun _ i _ => n0 - (intOf i).toNat)
  case atStart => exact ⟨0, none, 0, by go_num, by omega, by simp [uq], (show Own 3 1 w w.heap.size none 0 (uq (zs.take 0)).length ((uq (zs.take 0)).map (Value.int .i64)) by simpa [uq] using Own.nil 3 1 w w.heap.size), Kept.refl _ _⟩
  case round =>
    obtain ⟨k, a', cap', rfl, hk, rfl, HO, HK⟩ := hrel
    have HLn : Hid ((uq (zs.take k)).length ≤ k) := by have := uq_len (zs.take k); rw [List.length_take, HZ.out] at this; show _ ≤ _; omega
    by_cases hlt : k < n0
    · have hlt' : (k : Int) < (n0 : Int) := by omega
      obtain ⟨bb, off, rfl, hcell⟩ := (H0.out.no HK.out) k (by rw [HZ.out]; exact hlt)
      have HTk : Hid (zs.take (k + 1) = zs.take k ++ [zs[k]?.getD 0]) := take_snoc (by rw [HZ.out]; exact hlt)
      generalize zs[k]?.getD 0 = z at hcell HTk
      have HSt : Hid _ := place_any a' _ cap' (uq (zs.take k)) z wr rfl (by have := HLn.out; omega) (HO.out.nums rfl)
      by_cases hm : z ∈ uq (zs.take k)
      · have HU : Hid (uq (zs.take (k + 1)) = uq (zs.take k)) := by show _ = _; rw [HTk.out, uq_snoc, if_pos hm]
        have HMm : Hid (z ∈ uq (zs.take k)) := hm
        clear hm HTk
        go_wp2_with (go_at_call 32
                     refine Calls.mono HSt.out ?_
                     rintro e w2 ⟨hh, hw2⟩
                     subst hw2
                     obtain ⟨j, hj1, hj2⟩ : ∃ j : Nat, j < (uq (zs.take k)).length ∧ e = .returned (.int .i64 j) := by
                       rcases hh with ⟨h, _⟩ | ⟨j, hj, _, he⟩
                       · exact absurd HMm.out h
                       · exact ⟨j, hj, he⟩
                     rw [hj2]
                     have hj0 : ¬ ((j : Int) < 0) := by omega
                     clear hh hj1 hj2)
        go_roundw
        case rel => exact ⟨k + 1, a', cap', by go_num, by omega, by rw [HU.out], by rw [HU.out]; exact HO, HK⟩
        case measure => simp [intOf]; omega
      · have HU : Hid (uq (zs.take (k + 1)) = uq (zs.take k) ++ [z]) := by show _ = _; rw [HTk.out, uq_snoc, if_neg hm]
        have HMm : Hid (z ∉ uq (zs.take k)) := hm
        have hsz : Hid (w.heap.size ≤ wr.heap.size) := HK.out.size
        clear hm HTk
        go_wp2_with (first
          | (go_at_call 32
             refine Calls.mono HSt.out ?_
             rintro e w2 ⟨hh, hw2⟩
             subst hw2
             obtain rfl : e = .returned (.int .i64 (-1)) := by
               rcases hh with ⟨_, he⟩ | ⟨j, hj, hv, he⟩
               · exact he
               · exact absurd (hv ▸ mem_at hj) HMm.out
             clear hh)
          | (at_builtin
             refine wp_appV rfl _ _ 22 3 1 8 (.int .i64 0) Try.und22 Try.info3' rfl (by omega) rfl w.heap.size _ cap' a' _ rfl (HO.out.no ((Kept.refl No _).alloc _)) ⟨_, 0, none⟩ 1 1 [.int .i64 z] rfl rfl (cell_new1 _ _ _) (by simp [Value.oneCell']) (by have := HLn.out; omega) (by have := HLn.out; omega) (by omega) (by have := hsz.out; simp; omega) (uq (zs.take (k + 1))).length (by rw [HU.out]; simp) ?_
             intro g' cap'' w4 HO4 HK4
             have HKw : Hid (Kept No w w4) := (HK.out.alloc _).trans HK4.out (fun _ e => e) (fun i hi e => by have := HO.out.base e; omega)
             have HO5 : Hid (Own 3 1 w4 w.heap.size (some ⟨g', 0, none⟩) cap'' (uq (zs.take (k + 1))).length ((uq (zs.take (k + 1))).map (Value.int .i64))) := by
               have := HO4.out
               show Own _ _ _ _ _ _ _ _
               rw [HU.out, List.map_append] at *
               exact this
             clear HO4 HK4))
        go_roundw
        case rel => exact ⟨k + 1, some ⟨g', 0, none⟩, cap'', by go_num, by omega, rfl, HO5, HKw⟩
        case measure => simp [intOf]; omega
    · have hlt' : ¬ (k : Int) < (n0 : Int) := by omega
      obtain rfl : k = n0 := by omega
      have HTe : Hid (zs.take k = zs) := List.take_of_length_le (by rw [HZ.out]; omega)
      rw [HTe.out] at HO ⊢
      go_wp2
      go_ret
      exact ⟨a', cap', rfl, HO.out, HK.out⟩

def vRow (x : TS) : List Value := x.g.map (fun m => Value.int .i64 ((x.v m).getD 0))
def hRow (x : TS) : List Value := x.g.map (fun m => Value.bool (x.v m).isSome)
/-- The reference's tally in memory. -/
structure Rf (w : World) (r : Nat) (ag : Option Addr) (cg : Nat) (av : Option Addr) (cv : Nat) (ah : Option Addr) (ch : Nat) (x : TS) : Prop where
  box : Box w r 67 #[.slice ag x.g.length cg, .slice av x.g.length cv, .slice ah x.g.length ch, .int .i64 x.need]
  gr : Own 3 1 w 0 ag cg x.g.length (x.g.map (Value.int .i64))
  vr : Own 3 1 w 0 av cv x.g.length (vRow x)
  hr : Own 4 1 w 0 ah ch x.g.length (hRow x)
  gv : ∀ k, At ag k → ¬ At av k
  nd : x.g.Nodup
  len : x.g.length ≤ 17592186043904
def RB (r : Nat) (ag av ah : Option Addr) : Nat → Prop := fun k => k = r ∨ At ag k ∨ At av k ∨ At ah k
def Rw2 (av ah : Option Addr) : Nat → Prop := fun k => At av k ∨ At ah k
theorem Rf.kept {S : Nat → Prop} {w w' : World} {r cg cv ch : Nat} {ag av ah : Option Addr} {x : TS} (h : Rf w r ag cg av cv ah ch x) (hk : Kept S w w') (hS : ∀ k, RB r ag av ah k → ¬ S k) : Rf w' r ag cg av cv ah ch x :=
  ⟨h.box.kept hk (hS r (.inl rfl)), h.gr.kept hk (fun k e => hS k (.inr (.inl e))), h.vr.kept hk (fun k e => hS k (.inr (.inr (.inl e)))), h.hr.kept hk (fun k e => hS k (.inr (.inr (.inr e)))), h.gv, h.nd, h.len⟩
theorem Rf.no {w w' : World} {r cg cv ch : Nat} {ag av ah : Option Addr} {x : TS} (h : Rf w r ag cg av cv ah ch x) (hk : Kept No w w') : Rf w' r ag cg av cv ah ch x := h.kept hk (fun _ _ e => e)
theorem Rf.cells {w : World} {r cg cv ch : Nat} {ag av ah : Option Addr} {x : TS} (h : Rf w r ag cg av cv ah ch x) : w.cell? ⟨r, 0, none⟩ = some (.slice ag x.g.length cg) ∧ w.cell? ⟨r, 1, none⟩ = some (.slice av x.g.length cv) ∧ w.cell? ⟨r, 2, none⟩ = some (.slice ah x.g.length ch) ∧ w.cell? ⟨r, 3, none⟩ = some (.int .i64 x.need) :=
  ⟨h.box.cell 0, h.box.cell 1, h.box.cell 2, h.box.cell 3⟩

theorem Own.at1 {t : TypeId} {w : World} {base : Nat} {a : Option Addr} {cap n : Nat} {vs : List Value} (h : Own t 1 w base a cap n vs) {i : Nat} (hi : i < n) : ∃ g v, a = some ⟨g, 0, none⟩ ∧ vs[i]? = some v ∧ w.cell? ⟨g, i, none⟩ = some v ∧ w.frozen? ⟨g, i, none⟩ = false := by
  have hl : vs.length = n * 1 := h.1
  rcases h.cases hl with ⟨_, _, e⟩ | ⟨g, rfl, _, _, sp, hg, _⟩
  · omega
  · have hb : Box w g t (vs ++ sp).toArray := hg
    have hv : vs[i]? = some vs[i] := List.getElem?_eq_getElem (by omega)
    refine ⟨g, vs[i], rfl, hv, ?_, hb.frozen i⟩
    rw [hb.cell, List.getElem?_toArray, List.getElem?_append_left (by omega), hv]
theorem hRow_at {x : TS} {i : Nat} (hi : i < x.g.length) : (hRow x)[i]? = some (.bool (x.v (x.g[i]?.getD 0)).isSome) := by
  unfold hRow; rw [List.getElem?_map, List.getElem?_eq_getElem hi]; rfl
theorem vRow_at {x : TS} {i : Nat} (hi : i < x.g.length) : (vRow x)[i]? = some (.int .i64 ((x.v (x.g[i]?.getD 0)).getD 0)) := by
  unfold vRow; rw [List.getElem?_map, List.getElem?_eq_getElem hi]; rfl
theorem Rf.has {w : World} {r cg cv ch : Nat} {ag av ah : Option Addr} {x : TS} (h : Rf w r ag cg av cv ah ch x) {i : Nat} (hi : i < x.g.length) : ∃ g, ah = some ⟨g, 0, none⟩ ∧ w.cell? ⟨g, i, none⟩ = some (.bool (x.v (x.g[i]?.getD 0)).isSome) ∧ w.frozen? ⟨g, i, none⟩ = false := by
  obtain ⟨g, v, e, h1, h2, h3⟩ := h.hr.at1 hi
  rw [hRow_at hi] at h1
  cases h1
  exact ⟨g, e, h2, h3⟩
theorem Rf.val {w : World} {r cg cv ch : Nat} {ag av ah : Option Addr} {x : TS} (h : Rf w r ag cg av cv ah ch x) {i : Nat} (hi : i < x.g.length) : ∃ g, av = some ⟨g, 0, none⟩ ∧ w.cell? ⟨g, i, none⟩ = some (.int .i64 ((x.v (x.g[i]?.getD 0)).getD 0)) ∧ w.frozen? ⟨g, i, none⟩ = false := by
  obtain ⟨g, v, e, h1, h2, h3⟩ := h.vr.at1 hi
  rw [vRow_at hi] at h1
  cases h1
  exact ⟨g, e, h2, h3⟩
theorem Rf.grp {w : World} {r cg cv ch : Nat} {ag av ah : Option Addr} {x : TS} (h : Rf w r ag cg av cv ah ch x) {i : Nat} (hi : i < x.g.length) : ∃ g, ag = some ⟨g, 0, none⟩ ∧ w.cell? ⟨g, i, none⟩ = some (.int .i64 (x.g[i]?.getD 0)) := by
  obtain ⟨g, v, e, h1, h2, h3⟩ := h.gr.at1 hi
  rw [List.getElem?_map, List.getElem?_eq_getElem hi] at h1
  cases h1
  refine ⟨g, e, ?_⟩
  rw [h2, List.getElem?_eq_getElem hi]; rfl

def cK (x : TS) (k : Nat) : Nat := (x.g.take k).countP (fun n => (x.v n).isSome)
theorem cK_succ {x : TS} {k : Nat} {z : Int} (ht : x.g.take (k + 1) = x.g.take k ++ [z]) (b : Bool) (hb : (x.v z).isSome = b) : cK x (k + 1) = cK x k + (if b = true then 1 else 0) := by
  subst hb
  unfold cK
  rw [ht, List.countP_append, List.countP_cons]; simp
theorem cK_le (x : TS) (k : Nat) : cK x k ≤ k := Nat.le_trans List.countP_le_length (by rw [List.length_take]; omega)
theorem cK_all {x : TS} {n : Nat} (h : x.g.length = n) : cK x n = cnt x := by unfold cK cnt; rw [List.take_of_length_le (by omega)]

set_option maxHeartbeats 1000000 in
theorem count_any (r cg cv ch : Nat) (ag av ah : Option Addr) (x : TS) (w : World) (h : Rf w r ag cg av cv ah ch x) :
    Calls Try.prog 38 #[.pointer (some ⟨r, 0, none⟩)] w fun e w' => e = .returned (.int .i64 (cnt x)) ∧ Kept No w w' := by
  have HR : Hid (Rf w r ag cg av cv ah ch x) := h
  have hlen := h.len
  clear h
  obtain ⟨n, hn⟩ : ∃ n, n = x.g.length := ⟨_, rfl⟩
  have HN : Hid (x.g.length = n) := hn.symm
  rw [← hn] at hlen
  clear hn
  go_enter Try.func38, Try.ntmps38
  go_wp2
  go_loopw [3, 4] (fun v vi wr => ∃ k : Nat, vi = .int .i64 k ∧ k ≤ n ∧ v = .int .i64 (cK x k) ∧ Hid (Kept No w wr)) (fun _ i _ => n - (intOf i).toNat)
  case atStart => exact ⟨0, by go_num, by omega, by simp [cK], Kept.refl _ _⟩
  case round =>
    obtain ⟨k, rfl, hk, rfl, HK⟩ := hrel
    have HRk : Hid (Rf wr r ag cg av cv ah ch x) := HR.out.no HK.out
    obtain ⟨_, _, c2, _⟩ := HRk.out.cells
    rw [HN.out] at c2
    have hcl := cK_le x k
    have hck : (cK x k : Int) ≤ 17592186043904 := by omega
    have hck0 : (0 : Int) ≤ (cK x k : Int) := by omega
    by_cases hlt : k < n
    · have hlt' : (k : Int) < (n : Int) := by omega
      obtain ⟨g, rfl, e1, _⟩ := HRk.out.has (i := k) (by rw [HN.out]; exact hlt)
      have HTk : Hid (x.g.take (k + 1) = x.g.take k ++ [x.g[k]?.getD 0]) := take_snoc (by rw [HN.out]; exact hlt)
      cases hb : (x.v (x.g[k]?.getD 0)).isSome with
      | true =>
        have HC : Hid (cK x (k + 1) = cK x k + 1) := cK_succ HTk.out true hb
        rw [hb] at e1
        go_wp2
        go_roundw
        case rel => exact ⟨k + 1, by go_num, by omega, by rw [HC.out]; go_num, HK⟩
        case measure => simp [intOf]; omega
      | false =>
        have HC : Hid (cK x (k + 1) = cK x k) := cK_succ HTk.out false hb
        rw [hb] at e1
        go_wp2
        go_roundw
        case rel => exact ⟨k + 1, by go_num, by omega, by rw [HC.out], HK⟩
        case measure => simp [intOf]; omega
    · have hlt' : ¬ (k : Int) < (n : Int) := by omega
      obtain rfl : k = n := by omega
      go_wp2
      go_ret
      exact ⟨by rw [cK_all HN.out]; rfl, HK.out⟩

set_option maxHeartbeats 1000000 in
theorem renough_any (r cg cv ch : Nat) (ag av ah : Option Addr) (x : TS) (w : World) (h : Rf w r ag cg av cv ah ch x) :
    Calls Try.prog 33 #[.pointer (some ⟨r, 0, none⟩)] w fun e w' => e = .returned (.bool (enB x)) ∧ Kept No w w' := by
  have HR : Hid (Rf w r ag cg av cv ah ch x) := h
  have c3 := h.cells.2.2.2
  have z3 := fun dd os => cell_regrown c3 dd os
  have HCt : Hid (∀ W, Kept No w W → Calls Try.prog 38 #[.pointer (some ⟨r, 0, none⟩)] W fun e w' => e = .returned (.int .i64 (cnt x)) ∧ Below W.heap.size W w') := fun W hk => toBelow (count_any r cg cv ch ag av ah x W (h.no hk))
  have hcl := cnt_le x
  have hgl := h.len
  have hcb : (cnt x : Int) ≤ 17592186043904 := by omega
  have hc0 : (0 : Int) ≤ cnt x := by omega
  have HE : Hid (enB x = decide (x.need ≤ (cnt x : Int))) := rfl
  generalize enB x = E at HE
  generalize cnt x = c at HCt hcb hc0 HE
  generalize x.need = m at z3 HE
  clear h hcl hgl c3
  have hmix : Try.prog.follows .mixedOrders = true := by kernel_rfl
  go_enter Try.func33, Try.ntmps33
  go_wp2
  refine wp_region_quiet_below hmix (by kernel_rfl) ?_
  repeat (quiet_step (exact Calls.regrown_of (HCt.out _ (kept_regrown _ _ _))))
  refine wpQuiet_nil ?_
  intro _ hw'
  obtain ⟨⟨nq, osq⟩, hw''⟩ := hw'
  rw [hw'']
  simp only []
  have HKr : Hid (Kept No w (Sort.grow (redrawn w nq) osq)) := kept_regrown _ _ _
  clear hw'' z3 HCt
  generalize Sort.grow (redrawn w nq) osq = wz at HKr
  go_wp2
  all_goals go_ret
  all_goals refine ⟨ret_bool ?_, HKr.out⟩
  all_goals rw [HE.out]
  all_goals simp_all

end Go.Proofs.Ytmhjbkpojndhkaa
