import Derived.Test.YtpapbleabjpbfabBz
import Derived.Test.YtpapbleabjpbfabAr
namespace Go.Proofs.Ytpapbleabjpbfab
open Go.RowKit
set_option linter.unusedVariables false

theorem lent_mark (zs : List Int) : ((zs ++ [-77]).map (Value.int .i64)).toArray[zs.length]? = some (.int .i64 (-77)) := by
  simp
theorem lent_take (zs : List Int) : (zs ++ [-77]).take zs.length = zs := by simp

set_option maxRecDepth 100000 in
set_option maxHeartbeats 4000000 in
theorem made_any (a : Option Addr) (cap : Nat) (zs : List Int) (f : Int) (p : Nat) (bu bl ro : Int) (w : World) (hb : Nums .i64 w a zs) (hI : AllI zs) (hc : cfgB zs f p bu bl ro = true) :
    Calls Try.prog 9 #[cfgV (.slice a zs.length cap) f p bu bl ro] w fun e w' => ∃ r, e = .returned (.pointer (some ⟨r, 0, none⟩)) ∧ RingAt w' w.heap.size r (sortI zs) f p bu bl ro (sortP (ptsOf (sortI zs) p)) ∧ Kept No w w' := by
  have h64 : zs.length ≤ 64 := (cfgB_true hc).1.2.2.2
  have HB : Hid (Nums .i64 w a zs) := hb
  have HI : Hid (AllI zs) := hI
  have HC : Hid (cfgB zs f p bu bl ro = true) := hc
  have HIs : Hid (∀ W, Kept No w W → Calls Try.prog 8 #[cfgV (.slice a zs.length cap) f p bu bl ro] W fun e w' => e = .returned (.bool true) ∧ Kept No W w') := fun W hk => by
    have := is_any a cap zs f p bu bl ro W (hb.no hk)
    rw [hc] at this
    exact this
  clear hb hI hc
  go_enter Try.func9, Try.ntmps9
  go_wp2_with fail
  obtain ⟨w0, hw0⟩ : ∃ w0, w0 = w.alloc (.cells #[.slice a zs.length cap, .int .i64 f, .int .i64 p, .int .i64 bu, .int .i64 bl, .int .i64 ro] 24) := ⟨_, rfl⟩
  rw [← hw0]
  obtain ⟨cb, hcb⟩ : ∃ cb, cb = w.heap.size := ⟨_, rfl⟩
  have HC0 : Hid (Box w0 cb 24 #[.slice a zs.length cap, .int .i64 f, .int .i64 p, .int .i64 bu, .int .i64 bl, .int .i64 ro]) := by rw [hw0, hcb]; exact Box.new _ _ _
  have HK0 : Hid (Kept No w w0) := by rw [hw0]; exact (Kept.refl No w).alloc _
  rw [← hcb]
  clear hw0 hcb
  refine Calls.mono (HIs.out w0 HK0.out) ?_
  rintro e w1 ⟨rfl, hk1⟩
  have HC1 : Hid (Box w1 cb 24 #[.slice a zs.length cap, .int .i64 f, .int .i64 p, .int .i64 bu, .int .i64 bl, .int .i64 ro]) := HC0.out.kept hk1 (fun e => e)
  have HK1 : Hid (Kept No w w1) := HK0.out.then hk1
  clear hk1 HC0 HK0
  have c0 := HC1.out.cell 0
  have c1 := HC1.out.cell 1
  have c2 := HC1.out.cell 2
  have c3 := HC1.out.cell 3
  have c4 := HC1.out.cell 4
  have c5 := HC1.out.cell 5
  simp only [List.getElem?_toArray, List.getElem?_cons_zero, List.getElem?_cons_succ] at c0 c1 c2 c3 c4 c5
  go_wp2_with fail
  refine Calls.mono (lend_any a cap zs f p bu bl ro w1 (by omega) (HB.out.no HK1.out)) ?_
  rintro e w2 ⟨rfl, hb2, hk2⟩
  obtain ⟨gl, hgl⟩ : ∃ gl, gl = w1.heap.size + 2 := ⟨_, rfl⟩
  rw [← hgl] at hb2 ⊢
  have HN2 : Hid (Nums .i64 w2 (some ⟨gl, 0, none⟩) zs) := by have := hb2.nums zs.length; rw [lent_take] at this; exact this
  have HK2 : Hid (Kept No w w2) := HK1.out.then hk2
  clear hb2 hk2 hgl HK1 HC1 c0 c1 c2 c3 c4 c5
  go_wp2_with fail
  refine Calls.mono (newYes_any _ (zs.length + 1) zs.length zs f p bu bl ro w2 rfl HN2.out HI.out HC.out (sorts_all _ (pts_le HC.out))) ?_
  rintro e w3 ⟨r, rfl, hr3, hk3⟩
  have HRa : Hid (RingAt w3 w.heap.size r (sortI zs) f p bu bl ro (sortP (ptsOf (sortI zs) p))) := hr3.lower HK2.out.size
  have HK3 : Hid (Kept No w w3) := HK2.out.then hk3
  clear hr3 hk3 HK2
  go_wp2
  go_ret
  exact ⟨r, rfl, HRa.out, HK3.out⟩

/-- A number brought into 0 .. n - 1. -/
def tI (v : Int) (n : Nat) : Int := if v.tmod n < 0 then v.tmod n + n else v.tmod n
theorem tI_bd (v : Int) (n : Nat) (h : 0 < n) : 0 ≤ tI v n ∧ tI v n < n := by
  unfold tI
  have h1 := Int.tmod_lt_of_pos v (show (0 : Int) < n by omega)
  have h2 : -(n : Int) < v.tmod n := by
    have := Int.tmod_lt_of_pos (-v) (show (0 : Int) < n by omega)
    rw [Int.neg_tmod] at this
    omega
  split <;> omega

set_option maxRecDepth 100000 in
theorem turnIn_any (v : Int) (n : Nat) (h : 0 < n) (hm : n ≤ 17592186043904) (w : World) : Calls Try.prog 18 #[.int .i64 v, .int .i64 n] w fun e w' => e = .returned (.int .i64 (tI v n)) ∧ w' = w := by
  have h1 := Int.tmod_lt_of_pos v (show (0 : Int) < n by omega)
  have h2 : -(n : Int) < v.tmod n := by
    have := Int.tmod_lt_of_pos (-v) (show (0 : Int) < n by omega)
    rw [Int.neg_tmod] at this
    omega
  have HT : Hid (tI v n = if v.tmod n < 0 then v.tmod n + n else v.tmod n) := rfl
  have hz : ¬ n = 0 := by omega
  obtain ⟨x, hx0⟩ : ∃ x, v.tmod (n : Int) = x := ⟨_, rfl⟩
  rw [hx0] at h1 h2 HT
  by_cases hx : x < 0
  · have HT2 : Hid (tI v n = x + n) := by have := HT.out; rwa [if_pos hx] at this
    have hw : IntKind.i64.wrap (x + n) = x + n := by rw [IntKind.wrap_i64]; omega
    go_enter Try.func18, Try.ntmps18
    go_wp2
    go_ret
    exact ⟨ret_int HT2.out.symm, rfl⟩
  · have HT2 : Hid (tI v n = x) := by have := HT.out; rwa [if_neg hx] at this
    go_enter Try.func18, Try.ntmps18
    go_wp2
    go_ret
    exact ⟨ret_int HT2.out.symm, rfl⟩

/-- The servers, turned. -/
def rotL (zs : List Int) (t : Nat) : List Int := (List.range zs.length).map fun i => zs[(i + t) % zs.length]?.getD 0
theorem rotL_len (zs : List Int) (t : Nat) : (rotL zs t).length = zs.length := by simp [rotL]
theorem rotL_at (zs : List Int) (t i : Nat) (h : i < zs.length) : (rotL zs t)[i]?.getD 0 = zs[(i + t) % zs.length]?.getD 0 := by
  simp [rotL, h]
theorem rotL_eq (zs : List Int) (t : Nat) (h : t < zs.length) : rotL zs t = zs.drop t ++ zs.take t := by
  apply List.ext_getElem
  · simp [rotL]; omega
  · intro i h1 h2
    have hi : i < zs.length := by simpa [rotL] using h1
    simp only [rotL, List.getElem_map, List.getElem_range]
    by_cases hc : i + t < zs.length
    · rw [Nat.mod_eq_of_lt hc, List.getElem_append_left (by simp; omega), List.getElem_drop, List.getElem?_eq_getElem hc]
      simp [Nat.add_comm]
    · have e : (i + t) % zs.length = i + t - zs.length := by
        rw [Nat.mod_eq_sub_mod (by omega)]; exact Nat.mod_eq_of_lt (by omega)
      rw [e, List.getElem_append_right (by simp; omega), List.getElem_take, List.getElem?_eq_getElem (by omega), Option.getD_some]
      congr 1
      simp; omega
theorem rotL_perm (zs : List Int) (t : Nat) (h : t < zs.length) : (rotL zs t).Perm zs := by
  rw [rotL_eq zs t h]
  exact List.perm_append_comm.trans (by rw [List.take_append_drop])
theorem order_unique {α : Type} (R : α → α → Prop) (ha : ∀ x y, R x y → R y x → x = y) : ∀ (l m : List α), l.Perm m → l.Pairwise R → m.Pairwise R → l = m
  | [], m, hp, _, _ => by rw [List.nil_perm.1 hp]
  | x :: l, [], hp, _, _ => by simp at hp
  | x :: l, y :: m, hp, hl, hm => by
    have hx : x ∈ y :: m := hp.subset (List.mem_cons_self)
    have hy : y ∈ x :: l := hp.symm.subset (List.mem_cons_self)
    have e : x = y := by
      rcases List.mem_cons.1 hx with e | e
      · exact e
      · rcases List.mem_cons.1 hy with e2 | e2
        · exact e2.symm
        · exact ha x y ((List.pairwise_cons.1 hl).1 y e2) ((List.pairwise_cons.1 hm).1 x e)
    subst e
    rw [order_unique R ha l m (List.perm_cons x |>.1 hp) (List.pairwise_cons.1 hl).2 (List.pairwise_cons.1 hm).2]
theorem sortI_perm {l m : List Int} (h : l.Perm m) : sortI l = sortI m := by
  have hs : ∀ zs : List Int, (sortI zs).Pairwise (· ≤ ·) := fun zs => by
    have := List.pairwise_mergeSort (le := fun x y : Int => decide (x ≤ y)) (by intro a b c; simp; omega) (by intro a b; simp; omega) zs
    exact this.imp (by simp)
  exact order_unique (· ≤ ·) (fun x y h1 h2 => by omega) _ _ (((List.mergeSort_perm l _).trans h).trans (List.mergeSort_perm m _).symm) (hs l) (hs m)

theorem good_all (zs : List Int) : Good zs zs.length ↔ (∀ z ∈ zs, 1 ≤ z ∧ z ≤ 255) ∧ zs.Pairwise (· ≠ ·) := by
  constructor
  · intro h
    refine ⟨?_, List.pairwise_iff_getElem.2 ?_⟩
    · intro z hz
      obtain ⟨i, hi, rfl⟩ := List.mem_iff_getElem.1 hz
      have := (h i hi).1
      rwa [List.getElem?_eq_getElem hi, Option.getD_some] at this
    · intro i j hi hj hij
      have := (h j hj).2 i hij
      rwa [List.getElem?_eq_getElem hi, List.getElem?_eq_getElem hj, Option.getD_some, Option.getD_some] at this
  · rintro ⟨h1, h2⟩ i hi
    refine ⟨?_, ?_⟩
    · rw [List.getElem?_eq_getElem hi, Option.getD_some]; exact h1 _ (List.getElem_mem hi)
    · intro k hk
      rw [List.getElem?_eq_getElem hi, List.getElem?_eq_getElem (show k < zs.length by omega), Option.getD_some, Option.getD_some]
      exact List.pairwise_iff_getElem.1 h2 k i (by omega) hi hk
theorem cfgB_perm {l m : List Int} {f p bu bl ro : Int} (h : l.Perm m) (hc : cfgB m f p bu bl ro = true) : cfgB l f p bu bl ro = true := by
  obtain ⟨hh, hg, h1, h2, h3, h4⟩ := cfgB_true hc
  have hl := h.length_eq
  have hh' : HeadOk l f := by unfold HeadOk at hh ⊢; rw [hl]; exact hh
  have hg' : Good l l.length := by
    rw [good_all] at hg ⊢
    exact ⟨fun z hz => hg.1 z (h.subset hz), (h.pairwise_iff (fun {a b} hab => Ne.symm hab)).2 hg.2⟩
  rw [← cfgB_yes ⟨hh', hg'⟩]
  simp only [Bool.and_eq_true, inB_iff]
  exact ⟨h1, h2, h3, h4⟩
theorem allI_of {zs : List Int} (h : ∀ z ∈ zs, I64 z) : AllI zs := by
  intro i
  rcases e : zs[i]? with _ | z
  · simp [I64]
  · exact h z (List.mem_of_getElem? e)
theorem allI_mem {zs : List Int} (h : AllI zs) : ∀ z ∈ zs, I64 z := by
  intro z hz
  obtain ⟨i, hi, rfl⟩ := List.mem_iff_getElem.1 hz
  have := h i
  rwa [List.getElem?_eq_getElem hi, Option.getD_some] at this

/-- The servers that follow, each once. -/
def uniqN (ps : List (Int × Int)) (fi : Nat) : Nat → List Int
  | 0 => []
  | k + 1 => if srvAt ps fi k ∈ uniqN ps fi k then uniqN ps fi k else uniqN ps fi k ++ [srvAt ps fi k]
theorem grpN_take (ps : List (Int × Int)) (fi want k : Nat) : grpN ps fi want k = (uniqN ps fi k).take want := by
  induction k with
  | zero => simp [grpN, uniqN]
  | succ k ih =>
    rw [grpN, uniqN, ih]
    by_cases hl : want ≤ (uniqN ps fi k).length
    · have hlen : ((uniqN ps fi k).take want).length = want := by simp; omega
      rw [if_pos (.inl hlen)]
      split
      · rfl
      · rw [List.take_append_of_le_length hl]
    · have ht : (uniqN ps fi k).take want = uniqN ps fi k := List.take_of_length_le (by omega)
      rw [ht]
      by_cases hm : srvAt ps fi k ∈ uniqN ps fi k
      · rw [if_pos (.inr hm), if_pos hm, ht]
      · rw [if_neg (fun h => h.elim (fun e => by omega) hm), if_neg hm, List.take_of_length_le (by simp; omega)]
theorem grp_front (ps : List (Int × Int)) (h : Int) (w1 w2 i : Nat) (h1 : i < (grp ps h w1).length) (h2 : i < (grp ps h w2).length) : (grp ps h w1)[i]?.getD 0 = (grp ps h w2)[i]?.getD 0 := by
  unfold grp at *
  rw [grpN_take] at h1 h2 ⊢
  rw [grpN_take]
  rw [List.length_take] at h1 h2
  rw [List.getElem?_take, List.getElem?_take, if_pos (by omega), if_pos (by omega)]

end Go.Proofs.Ytpapbleabjpbfab
