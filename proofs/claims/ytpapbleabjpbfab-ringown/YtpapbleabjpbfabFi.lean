import Derived.Test.YtpapbleabjpbfabNe
namespace Go.Proofs.Ytpapbleabjpbfab
open Go.RowKit
set_option linter.unusedVariables false

/-- The ring's block, its points' block: what a method reads. -/
structure RingV (w : World) (r : Nat) (sa : Option Addr) (sn sc : Nat) (f p bu bl ro : Int) (pg pc m : Nat) (ps : List (Int × Int)) : Prop where
  box : Box w r 65 #[.slice sa sn sc, .int .i64 f, .int .i64 p, .int .i64 bu, .int .i64 bl, .int .i64 ro, .slice (some ⟨pg, 0, none⟩) m pc]
  pts : ∃ sp, Pts w pg ps.toArray sp
  len : ps.length = m

theorem RingV.no {w w' : World} {r : Nat} {sa : Option Addr} {sn sc : Nat} {f p bu bl ro : Int} {pg pc m : Nat} {ps : List (Int × Int)} (h : RingV w r sa sn sc f p bu bl ro pg pc m ps) (hk : Kept No w w') : RingV w' r sa sn sc f p bu bl ro pg pc m ps :=
  ⟨h.box.kept hk (fun e => e), let ⟨sp, hp⟩ := h.pts; ⟨sp, hp.kept hk (fun e => e)⟩, h.len⟩

theorem RingV.cell {w : World} {r : Nat} {sa : Option Addr} {sn sc : Nat} {f p bu bl ro : Int} {pg pc m : Nat} {ps : List (Int × Int)} (h : RingV w r sa sn sc f p bu bl ro pg pc m ps) (i : Nat) (hi : i < m) :
    w.cell? ⟨pg, i * 2, none⟩ = some (.int .i64 (ps[i]?.getD (0, 0)).1) ∧ w.cell? ⟨pg, i * 2 + 1, none⟩ = some (.int .i64 (ps[i]?.getD (0, 0)).2) := by
  obtain ⟨sp, hp⟩ := h.pts
  have hl := h.len
  have hi' : i < ps.length := by omega
  have := hp.cell i (by simpa using hi')
  rw [show ps.toArray[i]! = ps[i]?.getD (0, 0) by simp [getElem!_pos, hi']] at this
  exact this

theorem RingAt.v {w : World} {base r : Nat} {zs : List Int} {f : Int} {p : Nat} {bu bl ro : Int} {ps : List (Int × Int)} (h : RingAt w base r zs f p bu bl ro ps) : ∃ sa sn sc pg pc m, RingV w r sa sn sc f p bu bl ro pg pc m ps := by
  obtain ⟨sg, sc, pg, pc, n, m, hn, hm, hb, ho, hp, _⟩ := h
  obtain ⟨_, _, _, sp, hp', _⟩ := hp.pts
  exact ⟨_, _, _, _, _, _, hb, ⟨sp, hp'⟩, hm⟩

set_option maxRecDepth 100000 in
set_option maxHeartbeats 1000000 in
theorem points_any (r : Nat) (sa : Option Addr) (sn sc : Nat) (f p bu bl ro : Int) (pg pc m : Nat) (ps : List (Int × Int)) (w : World) (hr : RingV w r sa sn sc f p bu bl ro pg pc m ps) :
    Calls Try.prog 10 #[.pointer (some ⟨r, 0, none⟩)] w fun e w' => e = .returned (.func (.func 29) #[] #[.pointer (some ⟨w.heap.size, 0, none⟩)]) ∧ Box w' w.heap.size 63 #[.slice (some ⟨pg, 0, none⟩) m pc] ∧ Kept No w w' := by
  have c6 := hr.box.cell 6
  simp only [List.getElem?_toArray, List.getElem?_cons_zero, List.getElem?_cons_succ] at c6
  clear hr
  go_enter Try.func10, Try.ntmps10
  go_wp2
  go_ret
  exact ⟨rfl, Box.new _ _ _, (Kept.refl No w).alloc _⟩

/-- A box of one value. -/
theorem box1 {w : World} {g : Nat} {t : TypeId} {v : Value} (h : Box w g t #[v]) : w.cell? ⟨g, 0, none⟩ = some v := by
  rw [h.cell]; rfl

set_option maxRecDepth 100000 in
set_option maxHeartbeats 1000000 in
theorem atLeast_any (i : Nat) (r : Nat) (sa : Option Addr) (sn sc : Nat) (f p bu bl ro : Int) (pg pc m : Nat) (ps : List (Int × Int)) (hash : Int) (rb hb : Nat) (w : World) (hr : RingV w r sa sn sc f p bu bl ro pg pc m ps) (h1 : w.cell? ⟨rb, 0, none⟩ = some (.pointer (some ⟨r, 0, none⟩))) (h2 : w.cell? ⟨hb, 0, none⟩ = some (.int .i64 hash)) (hi : i < m) :
    Calls Try.prog 48 #[.int .i64 i, .pointer (some ⟨rb, 0, none⟩), .pointer (some ⟨hb, 0, none⟩)] w fun e w' => e = .returned (.bool (decide ((ps[i]?.getD (0, 0)).1 ≥ hash))) ∧ ∃ q, w' = w.drewN q := by
  have c6 := hr.box.cell 6
  simp only [List.getElem?_toArray, List.getElem?_cons_zero, List.getElem?_cons_succ] at c6
  have cp := (hr.cell i hi).1
  generalize (ps[i]?.getD (0, 0)).1 = x at cp
  clear hr
  have hi2 : (i : Int) < (m : Int) := by omega
  have hi0 : (0 : Int) ≤ (i : Int) := by omega
  go_enter Try.func48, Try.ntmps48
  go_wp2
  go_quiet (fail)
  go_wp2
  go_ret
  exact ⟨rfl, _, rfl⟩

/-- How many points' hashes are below that one. -/
def firstN (ps : List (Int × Int)) (hash : Int) : Nat := (List.range ps.length).countP (fun i => !decide ((ps[i]?.getD (0, 0)).1 ≥ hash))
def Rising (ps : List (Int × Int)) : Prop := ∀ a b : Nat, a ≤ b → b < ps.length → (ps[a]?.getD (0, 0)).1 ≤ (ps[b]?.getD (0, 0)).1

theorem kept_grow (w : World) (q : Nat) (os : Array Obj) : Kept No w (Sort.grow (w.drewN q) os) :=
  ⟨rfl, rfl, rfl, by simp [Sort.grow, World.drewN], fun k hk _ => by simp [Sort.grow, World.drewN, Array.getElem?_append, hk]⟩

set_option maxRecDepth 100000 in
set_option maxHeartbeats 1000000 in
theorem first_any (r : Nat) (sa : Option Addr) (sn sc : Nat) (f p bu bl ro : Int) (pg pc m : Nat) (ps : List (Int × Int)) (hash : Int) (w : World) (hr : RingV w r sa sn sc f p bu bl ro pg pc m ps) (hm : m ≤ 4096) (hR : Rising ps) :
    Calls Try.prog 42 #[.pointer (some ⟨r, 0, none⟩), .int .i64 hash] w fun e w' => e = .returned (.int .i64 (firstN ps hash : Nat)) ∧ Kept No w w' := by
  obtain ⟨w0, hw0⟩ : ∃ w0, w0 = (w.alloc (.cells #[.pointer (some ⟨r, 0, none⟩)] 28)).alloc (.cells #[.int .i64 hash] 3) := ⟨_, rfl⟩
  have hk0 : Kept No w w0 := by rw [hw0]; exact ((Kept.refl No w).alloc _).alloc _
  have hb1 : Box w0 w.heap.size 28 #[.pointer (some ⟨r, 0, none⟩)] := by rw [hw0]; exact (Box.new _ _ _).alloc _
  have hb2 : Box w0 (w.heap.size + 1) 3 #[.int .i64 hash] := by
    rw [hw0]
    have := Box.new (w.alloc (.cells #[.pointer (some ⟨r, 0, none⟩)] 28)) 3 #[.int .i64 hash]
    simpa [Box] using this
  have hr0 := hr.no hk0
  have hs := Any.sort_Search Try.laysSearch 48 #[.pointer (some ⟨w.heap.size, 0, none⟩), .pointer (some ⟨w.heap.size + 1, 0, none⟩)] m (fun i => decide ((ps[i]?.getD (0, 0)).1 ≥ hash)) w0 (enters_of Try.func48 (by kernel_rfl) rfl) (by omega)
    (fun q os i hi => (atLeast_any i r sa sn sc f p bu bl ro pg pc m ps hash w.heap.size (w.heap.size + 1) _ (hr0.no (kept_grow _ _ _)) (box1 (hb1.kept (kept_grow _ _ _) (fun e => e))) (box1 (hb2.kept (kept_grow _ _ _) (fun e => e))) hi).mono
      (by rintro e w' ⟨rfl, q', rfl⟩; exact ⟨rfl, q', #[], by rw [Sort.grow_empty]⟩))
    (fun a b hab hbm ha => by
      have := hR a b hab (by rw [hr.len]; exact hbm)
      simp only [ge_iff_le, decide_eq_true_eq] at ha ⊢
      omega)
  rw [show (List.range m).countP (fun i => !decide ((ps[i]?.getD (0, 0)).1 ≥ hash)) = firstN ps hash by unfold firstN; rw [hr.len]] at hs
  change Calls Try.prog 47 _ _ _ at hs
  have HS : Hid _ := hs
  have HK0 : Hid _ := hk0
  have c6 := hr0.box.cell 6
  simp only [List.getElem?_toArray, List.getElem?_cons_zero, List.getElem?_cons_succ] at c6
  rw [hw0] at c6
  clear hs hk0 hr0 hb1 hb2 hr hR
  go_enter Try.func42, Try.ntmps42
  go_wp2_with fail
  rw [← hw0]
  refine Calls.mono HS.out ?_
  rintro e w1 ⟨rfl, q, os, rfl⟩
  have HK1 : Hid (Kept No w (Sort.grow (w0.drewN q) os)) := HK0.out.then (kept_grow _ _ _)
  clear HS HK0
  generalize Sort.grow (w0.drewN q) os = w1 at HK1
  go_wp2
  go_ret
  exact ⟨rfl, HK1.out⟩

end Go.Proofs.Ytpapbleabjpbfab
