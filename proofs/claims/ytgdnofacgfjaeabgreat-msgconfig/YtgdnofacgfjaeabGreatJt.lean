import Derived.Test.YtgdnofacgfjaeabGreatIt
namespace Go.Proofs.YtgdnofacgfjaeabGreat
open Go.RowKit
set_option linter.unusedVariables false

def putIt (st : Option (List Int)) (x : Item) : Option (List Int) := if x.k = 1 then putNum st x.n else if x.k = 2 then st.map (· ++ vint (zz x.n)) else putBytes st x.zs
def allOf (xs : List Item) : Option (List Int) := xs.foldl putIt (some [])

theorem putIt_none (x : Item) : putIt none x = none := by
  unfold putIt putNum putBytes; split
  · split <;> rfl
  · split <;> rfl
theorem putIt_neg (st : Option (List Int)) {x : Item} (h : x.k = 1) (h' : x.n < 0) : putIt st x = none := by unfold putIt putNum; rw [if_pos h, if_pos h']
theorem putIt_some (zs : List Int) {x : Item} (h : x.k = 1 → 0 ≤ x.n) : putIt (some zs) x = some (zs ++ putOf x) := by
  unfold putIt putOf putNum putBytes
  split
  · rw [if_neg (by have := h ‹_›; omega)]; rfl
  · split <;> rfl

theorem fold_none (xs : List Item) : xs.foldl putIt none = none := by
  induction xs with
  | nil => rfl
  | cons x r ih => rw [List.foldl_cons, putIt_none]; exact ih

theorem allOf_snoc (xs : List Item) (k : Nat) (x : Item) (h : xs[k]? = some x) : allOf (xs.take (k + 1)) = putIt (allOf (xs.take k)) x := by
  obtain ⟨hk, rfl⟩ := List.getElem?_eq_some_iff.1 h
  rw [List.take_succ_eq_append_getElem hk, allOf, List.foldl_append]
  rfl

theorem allOf_none {xs : List Item} (k : Nat) (h : allOf (xs.take k) = none) : allOf xs = none := by
  have e : allOf xs = (xs.drop k).foldl putIt (allOf (xs.take k)) := by
    unfold allOf; rw [← List.foldl_append, List.take_append_drop]
  rw [e, h, fold_none]

/-- No more bytes than this. -/
def tot (xs : List Item) : Nat := (xs.map (fun x => 10 + x.m)).sum
theorem tot_take (xs : List Item) (k : Nat) : tot (xs.take k) ≤ tot xs := by
  have : tot xs = tot (xs.take k) + tot (xs.drop k) := by
    unfold tot; rw [← List.sum_append, ← List.map_append, List.take_append_drop]
  omega
theorem tot_snoc (xs : List Item) (k : Nat) (x : Item) (h : xs[k]? = some x) : tot (xs.take (k + 1)) = tot (xs.take k) + (10 + x.m) := by
  obtain ⟨hk, rfl⟩ := List.getElem?_eq_some_iff.1 h
  rw [List.take_succ_eq_append_getElem hk]
  unfold tot; rw [List.map_append, List.sum_append]; simp
theorem tot_app (xs : List Item) (x : Item) : tot (xs ++ [x]) = tot xs + (10 + x.m) := by unfold tot; simp

theorem allOf_app (xs : List Item) (x : Item) : allOf (xs ++ [x]) = putIt (allOf xs) x := by unfold allOf; rw [List.foldl_append]; rfl

theorem putIt_len {w : World} {x : Item} (h : ItOk w x) (st : Option (List Int)) : stLen (putIt st x) ≤ stLen st + (10 + x.m) := by
  cases st with
  | none => rw [putIt_none]; exact Nat.zero_le _
  | some zs =>
    by_cases h1 : x.k = 1 ∧ x.n < 0
    · rw [putIt_neg _ h1.1 h1.2]; exact Nat.zero_le _
    · rw [putIt_some zs (fun e => by by_cases h2 : x.n < 0; exact absurd ⟨e, h2⟩ h1; omega)]
      have := putOf_len h
      simp only [stLen, List.length_append]; omega

theorem allOf_len {w : World} (xs : List Item) (h : ∀ x ∈ xs, ItOk w x) : stLen (allOf xs) ≤ tot xs := by
  suffices H : ∀ (xs : List Item) (st : Option (List Int)), (∀ x ∈ xs, ItOk w x) → stLen (xs.foldl putIt st) ≤ stLen st + tot xs by
    have := H xs (some []) h; simpa [stLen, allOf] using this
  intro xs
  induction xs with
  | nil => intro st _; simp [tot]
  | cons x r ih =>
    intro st h
    have h1 := ih (putIt st x) (fun y hy => h y (List.mem_cons_of_mem _ hy))
    have h2 := putIt_len (h x (List.mem_cons_self ..)) st
    rw [List.foldl_cons]
    have : tot (x :: r) = (10 + x.m) + tot r := by simp [tot]
    omega

set_option maxRecDepth 1000000 in
set_option maxHeartbeats 2000000 in
theorem rDone_any (a : Option Addr) (n c : Nat) (xs : List Item) (w : World) (hn : xs.length = n) (hb : n ≤ 140737488355328) (hx : Its w a xs) (hok : ∀ x ∈ xs, ItOk w x) (ht : tot xs ≤ 140737488355328) :
    Calls Tryz.prog 209 #[.slice a n c] w fun e w' => ∃ a' n' c', e = .returned (.tuple #[.slice a' n' c', .int .i64 (doneOf (allOf xs)).2]) ∧ n' = (doneOf (allOf xs)).1.length ∧ OwnS w' w.heap.size a' c' (doneOf (allOf xs)).1 ∧ Kept No w w' := by
  have HX : Hid (Its w a xs) := hx
  have HO : Hid (∀ x ∈ xs, ItOk w x) := hok
  have HT : Hid (tot xs ≤ 140737488355328) := ht
  have HN : Hid (xs.length = n) := hn
  obtain ⟨D, hD⟩ : ∃ D, D = doneOf (allOf xs) := ⟨_, rfl⟩
  rw [← hD]
  have HD : Hid (D = doneOf (allOf xs)) := hD
  clear hx hok ht hn hD
  go_enter Tryz.func209, Tryz.ntmps209
  go_wp2
  go_loopw [4, 5] (fun o i wr => ∃ k : Nat, ∃ a' n' c', k ≤ n ∧ i = .int .i64 (k : Int) ∧ o = .slice a' n' c' ∧ n' ≤ 140737488355328 ∧ Hid (∃ zs', n' = zs'.length ∧ OwnS wr w.heap.size a' c' zs' ∧ allOf (xs.take k) = some zs') ∧ Hid (Kept No w wr)) (fun _ i _ => n - (intOf i).toNat)
  case atStart => exact ⟨0, none, 0, 0, Nat.zero_le _, rfl, rfl, by omega, ⟨[], rfl, OwnS.nil _ _, rfl⟩, Kept.refl _ _⟩
  case round =>
    obtain ⟨k, a1, n1, c1, hk, rfl, rfl, hn1, HR, HK⟩ := hrel
    obtain ⟨zs1, hz1, ho1, he1⟩ := HR.out
    have HN1 : Hid (n1 = zs1.length) := hz1
    have HO1 : Hid (OwnS wr w.heap.size a1 c1 zs1) := ho1
    have HE1 : Hid (allOf (xs.take k) = some zs1) := he1
    clear hz1 ho1 he1 HR
    by_cases hlt : k < n
    · obtain ⟨x, hxk⟩ : ∃ x, xs[k]? = some x := ⟨xs[k]'(by rw [HN.out]; exact hlt), by rw [List.getElem?_eq_getElem]⟩
      have HI : Hid (ItOk w x) := HO.out x (List.mem_of_getElem? hxk)
      obtain ⟨b, off, rfl, hc0, hc1, hc2⟩ := (HX.out.no HK.out) k x hxk
      have HXK : Hid (xs[k]? = some x) := hxk
      have HL : Hid (stLen (putIt (some zs1) x) ≤ 140737488355328) := by
        have h1 := allOf_len (xs.take (k + 1)) (fun y hy => HO.out y (List.mem_of_mem_take hy))
        rw [allOf_snoc xs k x hxk, HE1.out] at h1
        have := tot_take xs (k + 1); have := HT.out; show _ ≤ _; omega
      clear hxk
      by_cases hneg : x.k = 1 ∧ x.n < 0
      · have q1 : (x.k == 1) = true := by simpa using hneg.1
        have q2 : x.n < 0 := hneg.2
        have HF : Hid (D = ([], 1)) := by
          show D = _
          rw [HD.out, allOf_none (k + 1) (by rw [allOf_snoc xs k x HXK.out]; exact putIt_neg _ hneg.1 hneg.2)]; rfl
        clear hneg
        go_wp2
        go_ret2
        exact ⟨none, 0, 0, by rw [HF.out]; rfl, by rw [HF.out]; rfl, by rw [HF.out]; exact OwnS.nil _ _, HK.out⟩
      · have HP : Hid (x.k = 1 → 0 ≤ x.n) := fun e => by by_cases h2 : x.n < 0; exact absurd ⟨e, h2⟩ hneg; omega
        have HS : Hid (allOf (xs.take (k + 1)) = some (zs1 ++ putOf x)) := by rw [Hid, allOf_snoc xs k x HXK.out, HE1.out, putIt_some _ HP.out]
        have HL2 : Hid (zs1.length + (putOf x).length ≤ 140737488355328) := by have := HL.out; rw [putIt_some _ HP.out] at this; simp only [stLen, List.length_append] at this; exact this
        by_cases q0 : x.k = 1
        · have q1 : (x.k == 1) = true := by simpa using q0
          have q2 : ¬ x.n < 0 := by have := HP.out q0; omega
          clear q0 hneg
          go_wp2_with fail
          refine (rput_any x wr (HI.out.no HK.out) HP.out).mono ?_
          rintro e w2 ⟨a2, n2, c2, rfl, hn2, hO2, hK2⟩
          have HN2 : Hid (n2 = (putOf x).length) := hn2
          have HB2 : Hid (OwnS w2 wr.heap.size a2 c2 (putOf x)) := hO2
          have HO2 : Hid (OwnS w2 w.heap.size a1 c1 zs1) := HO1.out.no hK2
          have HK2 : Hid (Kept No w w2) := HK.out.then hK2
          have hl : n1 + n2 ≤ 140737488355328 := by rw [HN1.out, HN2.out]; exact HL2.out
          clear hn2 hO2 hK2 hc0 hc1 hc2
          go_wp2_with (at_builtin; go_must (refine wp_appB _ Tryz.underlying30 Tryz.info5 rfl _ _ rfl w.heap.size _ _ _ zs1 rfl HN1.out.symm HO2.out _ _ _ (putOf x) rfl HN2.out.symm HB2.out.bytes HB2.out.nilcap hl HK2.out.size ?_; intro a3 c3 w3 HO3 HK3' HM3))
          have HF : Hid (∃ zs', n1 + n2 = zs'.length ∧ OwnS w3 w.heap.size a3 c3 zs' ∧ allOf (xs.take (k + 1)) = some zs') := ⟨_, by rw [HN1.out, HN2.out, List.length_append], HO3.out, HS.out⟩
          have HK3 : Hid (Kept No w w3) := HK2.out.fresh HK3'.out (fun i e => HO2.out.base e)
          go_roundw
          case rel => exact ⟨k + 1, a3, n1 + n2, c3, by omega, by go_num, rfl, hl, HF, HK3⟩
          case measure => simp [intOf]; omega
        · have q1 : (x.k == 1) = false := by simpa using q0
          clear q0 hneg
          go_wp2_with fail
          refine (rput_any x wr (HI.out.no HK.out) HP.out).mono ?_
          rintro e w2 ⟨a2, n2, c2, rfl, hn2, hO2, hK2⟩
          have HN2 : Hid (n2 = (putOf x).length) := hn2
          have HB2 : Hid (OwnS w2 wr.heap.size a2 c2 (putOf x)) := hO2
          have HO2 : Hid (OwnS w2 w.heap.size a1 c1 zs1) := HO1.out.no hK2
          have HK2 : Hid (Kept No w w2) := HK.out.then hK2
          have hl : n1 + n2 ≤ 140737488355328 := by rw [HN1.out, HN2.out]; exact HL2.out
          clear hn2 hO2 hK2 hc0 hc1 hc2
          go_wp2_with (at_builtin; go_must (refine wp_appB _ Tryz.underlying30 Tryz.info5 rfl _ _ rfl w.heap.size _ _ _ zs1 rfl HN1.out.symm HO2.out _ _ _ (putOf x) rfl HN2.out.symm HB2.out.bytes HB2.out.nilcap hl HK2.out.size ?_; intro a3 c3 w3 HO3 HK3' HM3))
          have HF : Hid (∃ zs', n1 + n2 = zs'.length ∧ OwnS w3 w.heap.size a3 c3 zs' ∧ allOf (xs.take (k + 1)) = some zs') := ⟨_, by rw [HN1.out, HN2.out, List.length_append], HO3.out, HS.out⟩
          have HK3 : Hid (Kept No w w3) := HK2.out.fresh HK3'.out (fun i e => HO2.out.base e)
          go_roundw
          case rel => exact ⟨k + 1, a3, n1 + n2, c3, by omega, by go_num, rfl, hl, HF, HK3⟩
          case measure => simp [intOf]; omega
    · go_wp2
      go_ret2
      have HF : Hid (D = (zs1, 0)) := by
        have := HE1.out
        rw [List.take_of_length_le (by rw [HN.out]; omega)] at this
        show D = _
        rw [HD.out, this]; rfl
      exact ⟨a1, n1, c1, by rw [HF.out]; rfl, by rw [HF.out]; exact HN1.out, by rw [HF.out]; exact HO1.out, HK.out⟩

end Go.Proofs.YtgdnofacgfjaeabGreat
