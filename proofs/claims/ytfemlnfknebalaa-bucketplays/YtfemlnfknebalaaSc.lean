import Derived.Test.YtfemlnfknebalaaSb
import Derived.Test.YtfemlnfknebalaaRc
import Derived.Test.YtfemlnfknebalaaTe
import Derived.Deep.CutRange
import Derived.StillTailTactics
import Derived.RangeFuncNested
import Derived.RangeFuncBound
import Derived.RangeFuncCalls
import Derived.RangeFuncLeaves
import Derived.RangeFuncBox
import Derived.Shelf.Abstract
import Derived.Sort.QuietTacIn
import Derived.Shelf.RegionOpen
import Derived.OwnWalkIn
import Derived.TacticsInMore
import Derived.LoopNIn
import Derived.LoopIn
namespace Go.Proofs.Ytfemlnfknebalaa
open Go.RowKit Go.Shelf
set_option linter.unusedVariables false
set_option linter.unusedSimpArgs false

attribute [local go_sem] Oper.semAt_some
theorem Fr.only {w0 w w' : World} {l : List (Nat × TypeId × Array Value)} (h : Fr No w0 w l) (i : Nat) {g : Nat} {T : TypeId} {cs cs' : Array Value} (hi : l[i]? = some (g, T, cs)) (hk : Kept (Only g) w w') (hb : Box w' g T cs') : Fr No w0 w' (l.set i (g, T, cs')) := by
  have hlt := (List.getElem?_eq_some_iff.1 hi).1
  have key : ∀ (j : Nat) g1 T1 cs1, (l.set i (g, T, cs'))[j]? = some (g1, T1, cs1) → (j = i ∧ g1 = g ∧ T1 = T ∧ cs1 = cs') ∨ (j ≠ i ∧ l[j]? = some (g1, T1, cs1)) := by
    intro j g1 T1 cs1 hj
    rw [List.getElem?_set] at hj
    by_cases e : i = j
    · subst e
      simp [hlt] at hj
      exact .inl ⟨rfl, hj.1.symm, hj.2.1.symm, hj.2.2.symm⟩
    · simp [e] at hj
      exact .inr ⟨fun h => e h.symm, hj⟩
  refine ⟨h.kept.trans hk (fun _ e => e.elim) (fun k hk' e => by have := h.low i g T cs hi; have e : k = g := e; omega), ?_, ?_, ?_⟩
  · intro j g1 T1 cs1 hj
    rcases key j g1 T1 cs1 hj with ⟨rfl, rfl, rfl, rfl⟩ | ⟨hne, hj2⟩
    · exact hb
    · refine (h.box j g1 T1 cs1 hj2).kept hk (fun e => hne ?_)
      have e : g1 = g := e
      subst e
      exact h.inj j i _ _ _ _ _ hj2 hi
  · intro j g1 T1 cs1 hj
    rcases key j g1 T1 cs1 hj with ⟨rfl, rfl, rfl, rfl⟩ | ⟨hne, hj⟩
    · exact h.low _ _ _ _ hi
    · exact h.low j g1 T1 cs1 hj
  · intro j k g1 T1 cs1 T2 cs2 hj hk
    rcases key j g1 T1 cs1 hj with ⟨rfl, rfl, rfl, rfl⟩ | ⟨hne, hj2⟩ <;> rcases key k g1 T2 cs2 hk with ⟨rfl, h1, h2, h3⟩ | ⟨hne', hk2⟩
    · rfl
    · exact h.inj _ _ _ _ _ _ _ hi hk2
    · subst h1; exact h.inj _ _ _ _ _ _ _ hj2 hi
    · exact h.inj _ _ _ _ _ _ _ hj2 hk2
def NP (Q : Exit → Act → World → Prop) : Exit → Act → World → Prop := fun e a w => (∀ c, e ≠ .panic c) ∧ Q e a w
theorem wp_np {c : Code} {Q : Exit → Act → World → Prop} {a : Act} {w : World} (h : c.wp Try.prog (NP Q) a w) : c.wp Try.prog Q a w := Code.wp_mono (fun _ _ _ h => h.2) h
theorem np {Q : Exit → Act → World → Prop} {d : Option Tmp} {v : Value} : ∀ c a w, NP Q (.panic c) (Act.put a d v) w → NP Q (.panic c) a w := fun _ _ _ h => absurd rfl (h.1 _)
theorem SeqAt.no {W W' : World} {lb cap : Nat} {a : Option Addr} {ps : List En} (h : SeqAt W lb a cap ps) (hk : Kept No W W') : SeqAt W' lb a cap ps := h.kept hk (fun _ _ e => e)
def DefAt (W : World) (D : Nat) : Prop := W.heap[D]? = some (.deferred (some []))
theorem DefAt.kept {S : Nat → Prop} {W W' : World} {D : Nat} (h : DefAt W D) (hk : Kept S W W') (hS : ¬ S D) : DefAt W' D := (hk.block D (Array.getElem?_eq_some_iff.1 h).1 hS).trans h
theorem DefAt.no {W W' : World} {D : Nat} (h : DefAt W D) (hk : Kept No W W') : DefAt W' D := h.kept hk (fun e => e)
theorem DefAt.ne {W : World} {D g : Nat} {T : TypeId} {cs : Array Value} (h : DefAt W D) (hb : Box W g T cs) : D ≠ g := fun e => by
  subst e
  unfold DefAt at h
  unfold Box at hb
  rw [h] at hb; cases hb
theorem names_len (es : List En) (n : ByteArray) : (namesS es n).length ≤ es.length := by
  unfold namesS
  have h1 := (List.takeWhile_sublist (l := es.drop (eIx es n)) (fun e : En => hasP e.nm n)).length_le
  have h2 := (List.drop_sublist (eIx es n) es).length_le
  omega
theorem Fr.add {w0 w : World} {l : List (Nat × TypeId × Array Value)} {g : Nat} {T : TypeId} {cs : Array Value} (h : Fr No w0 w l) (hb : Box w g T cs) (h0 : w0.heap.size ≤ g) (hne : ∀ x ∈ l, x.1 ≠ g) : Fr No w0 w (l ++ [(g, T, cs)]) := by
  have key : ∀ (j : Nat) x, (l ++ [(g, T, cs)])[j]? = some x → l[j]? = some x ∨ (j = l.length ∧ x = (g, T, cs)) := fun j x hj => by
    by_cases e : j < l.length
    · rw [List.getElem?_append_left e] at hj; exact .inl hj
    · rw [List.getElem?_append_right (by omega)] at hj
      cases hd : j - l.length with
      | zero => rw [hd] at hj; simp at hj; exact .inr ⟨by omega, hj.symm⟩
      | succ d => rw [hd] at hj; simp at hj
  refine ⟨h.kept, fun j k U ds hj => ?_, fun j k U ds hj => ?_, fun i j k U ds V es hi hj => ?_⟩
  · rcases key j _ hj with hj | ⟨_, e⟩
    · exact h.box j k U ds hj
    · cases e; exact hb
  · rcases key j _ hj with hj | ⟨_, e⟩
    · exact h.low j k U ds hj
    · cases e; exact h0
  · rcases key i _ hi with hi | ⟨e1, e⟩ <;> rcases key j _ hj with hj | ⟨e2, e'⟩
    · exact h.inj i j k U ds V es hi hj
    · cases e'; exact absurd rfl (hne _ (List.mem_of_getElem? hi))
    · cases e; exact absurd rfl (hne _ (List.mem_of_getElem? hj))
    · omega
theorem Fr.join2 {w0 w w' : World} {l : List (Nat × TypeId × Array Value)} {g h : Nat} {T T' : TypeId} {cs cs' : Array Value} (hf : Fr No w0 w l) (hk : Kept No w w') (hg : w.heap.size ≤ g) (hh : w.heap.size ≤ h) (bg : Box w' g T cs) (bh : Box w' h T' cs') (hT : T ≠ T') : Fr No w0 w' (l ++ [(g, T, cs)] ++ [(h, T', cs')]) := by
  have hs := hf.kept.size
  have key : ∀ x ∈ l, x.1 < w.heap.size := fun x hx => by
    obtain ⟨i, hi⟩ := List.mem_iff_getElem?.1 hx
    exact (hf.box i x.1 x.2.1 x.2.2 hi).lt
  refine ((hf.no hk).add bg (by omega) (fun x hx => ?_)).add bh (by omega) (fun x hx => ?_)
  · have := key x hx; omega
  · rcases List.mem_append.1 hx with hx | hx
    · have := key x hx; omega
    · rw [List.mem_singleton.1 hx]; exact box_ne bg bh hT
theorem Fr.lend2 {w0 w w' : World} {x y z : Nat × TypeId × Array Value} {l : List (Nat × TypeId × Array Value)} (h : Fr No w0 w (x :: y :: z :: l)) (hk : Kept (GH y.1 z.1) w w') : Fr No w0 w' (x :: l) := by
  have key : ∀ (i : Nat) e, (x :: l)[i]? = some e → ∃ j, j ≠ 1 ∧ j ≠ 2 ∧ (x :: y :: z :: l)[j]? = some e ∧ (i = 0 ∧ j = 0 ∨ j = i + 2 ∧ i ≠ 0) := fun i e hi => by
    cases i with
    | zero => exact ⟨0, by omega, by omega, hi, .inl ⟨rfl, rfl⟩⟩
    | succ i => exact ⟨i + 3, by omega, by omega, hi, .inr ⟨rfl, by omega⟩⟩
  have hy := h.low 1 y.1 y.2.1 y.2.2 rfl
  have hz := h.low 2 z.1 z.2.1 z.2.2 rfl
  refine ⟨h.kept.trans hk (fun _ e => e.elim) (fun i hi e => by rcases e with rfl | rfl <;> omega), fun i k T cs hi => ?_, fun i k T cs hi => ?_, fun i j k T cs T' cs' hi hj => ?_⟩
  · obtain ⟨j, h1, h2, hj, _⟩ := key i _ hi
    refine (h.box j k T cs hj).kept hk (fun e => ?_)
    rcases e with rfl | rfl
    · exact h1 (h.inj j 1 _ _ _ _ _ hj rfl)
    · exact h2 (h.inj j 2 _ _ _ _ _ hj rfl)
  · obtain ⟨j, h1, h2, hj, _⟩ := key i _ hi
    exact h.low j k T cs hj
  · obtain ⟨i', _, _, hi', e1⟩ := key i _ hi
    obtain ⟨j', _, _, hj', e2⟩ := key j _ hj
    have := h.inj i' j' _ _ _ _ _ hi' hj'
    omega
set_option maxRecDepth 100000 in
set_option maxHeartbeats 4000000 in
theorem asked_rise (up : Int) (ea : Option Addr) (en ec : Nat) (la : Option Addr) (ln lc : Nat) (es : List En) (ls : List La) (n : ByteArray) (cl : Int) (w : World) (he : RdE w ⟨ea, en, ec⟩ es) (hl : RdL w ⟨la, ln, lc⟩ ls) (hre : RiseE es) (hrl : RiseL ls) (hen : en ≤ 1000) (hln : ln ≤ 1000) : Calls Try.prog 13 #[.agg (Bv.cells ⟨up, ⟨ea, en, ec⟩, ⟨la, ln, lc⟩⟩), .string n, .int .i64 cl] w (fun e w' => e = .returned (.bool true) ∧ Kept No w w') := by
  obtain ⟨C, hC⟩ : ∃ C : Ending → World → Prop, C = (fun e w' => e = .returned (.bool true) ∧ Kept No w w') := ⟨_, rfl⟩
  have HC : Hid (C = (fun e w' => e = .returned (.bool true) ∧ Kept No w w')) := hC
  rw [← hC]
  clear hC
  have hb : en + 1 ≤ 3518437208883 := by omega
  have hbl : ln + 1 ≤ 2513169434916 := by omega
  have HFI : Hid (∀ W g h, Box W g 54 (enL (es ++ [markE])).toArray → Calls Try.prog 24 #[.agg (Bv.cells ⟨up, ⟨(some ⟨g, 0, none⟩), en, (en + 1)⟩, ⟨(some ⟨h, 0, none⟩), ln, (ln + 1)⟩⟩), .string n] W (fun e w' => e = .returned (.tuple #[.agg (findE es n).cells, .bool (eIs es n)]) ∧ Kept No W w')) := fun W g h hg => find_any up (some ⟨g, 0, none⟩) en (en + 1) ⟨some ⟨h, 0, none⟩, ln, ln + 1⟩ es n W he.len (by omega) (lent_en (n := en) hg he.len (by omega)).row
  have HLA : Hid (∀ W g h, Box W h 64 (laL (ls ++ [markL])).toArray → Calls Try.prog 25 #[.agg (Bv.cells ⟨up, ⟨(some ⟨g, 0, none⟩), en, (en + 1)⟩, ⟨(some ⟨h, 0, none⟩), ln, (ln + 1)⟩⟩), .int .i64 cl] W (fun e w' => e = .returned (.tuple #[.agg (findL ls cl).cells, .bool (lIs ls cl)]) ∧ Kept No W w')) := fun W g h hh => last_any up (some ⟨h, 0, none⟩) ln (ln + 1) ⟨some ⟨g, 0, none⟩, en, en + 1⟩ ls cl W hl.len (by omega) (lent_la (n := ln) hh hl.len (by omega)).row
  have HNA : Hid (∀ W g h, Box W g 54 (enL (es ++ [markE])).toArray → Calls Try.prog 32 #[.agg (Bv.cells ⟨up, ⟨(some ⟨g, 0, none⟩), en, (en + 1)⟩, ⟨(some ⟨h, 0, none⟩), ln, (ln + 1)⟩⟩), .string n] W (fun e w' => ∃ lb sa sc, e = .returned (.func (.func 46) #[] #[.pointer (some ⟨lb, 0, none⟩)]) ∧ SeqAt w' lb sa sc (namesS es n) ∧ W.heap.size ≤ lb ∧ (∀ k, At sa k → W.heap.size ≤ k) ∧ Kept No W w')) := fun W g h hg => names_any up (some ⟨g, 0, none⟩) en (en + 1) ⟨some ⟨h, 0, none⟩, ln, ln + 1⟩ es n W he.len (by omega) (lent_en hg he.len (by omega)) (Nat.le_succ _)
  have HRF : Hid (∀ W, Kept No w W → Calls Try.prog 33 #[.agg (Bv.cells ⟨up, ⟨ea, en, ec⟩, ⟨la, ln, lc⟩⟩), .string n] W (fun e w' => e = .returned (.tuple #[.agg (findE es n).cells, .bool (eIs es n)]) ∧ Kept No W w')) := fun W hk => refFind_any up ea en ec la ln lc es n W (he.no hk) hre (by omega)
  have HRL : Hid (∀ W, Kept No w W → Calls Try.prog 34 #[.agg (Bv.cells ⟨up, ⟨ea, en, ec⟩, ⟨la, ln, lc⟩⟩), .int .i64 cl] W (fun e w' => e = .returned (.tuple #[.agg (findL ls cl).cells, .bool (lIs ls cl)]) ∧ Kept No W w')) := fun W hk => refLast_any up ea en ec la ln lc ls cl W (hl.no hk) hrl (by omega)
  have HRN : Hid (∀ W, Kept No w W → Calls Try.prog 36 #[.agg (Bv.cells ⟨up, ⟨ea, en, ec⟩, ⟨la, ln, lc⟩⟩), .string n] W (fun e w' => ∃ s : Sl, e = .returned s.v ∧ OwE w' W.heap.size s (namesS es n) ∧ Kept No W w')) := fun W hk => refNames_any up ea en ec la ln lc es n W (he.no hk) hre hb
  have hm2 : (namesS es n).length ≤ 1000 := by have h1 := names_len es n; have h2 : es.length = en := he.len; omega
  have HE : Hid (RdE w ⟨ea, en, ec⟩ es) := he
  have HL : Hid (RdL w ⟨la, ln, lc⟩ ls) := hl
  clear he hl hre hrl
  generalize findE es n = fe at HFI HRF
  generalize eIs es n = be at HFI HRF
  generalize findL ls cl = fl at HLA HRL
  generalize lIs ls cl = bl at HLA HRL
  generalize namesS es n = ns at HNA HRN hm2
  have HF : Hid (Fr No w w []) := Fr.start _ _
  refine (callsIn_wide (n := 3)).1 ?_
  refine callsIn_of_wp_marks Try.func13 rfl trivial ?_ rfl
  refine wpIn_wide.2 ?_
  simp only [Try.ntmps13, List.size_toArray, List.length_cons, List.length_nil, Nat.reduceAdd, Nat.reduceSub, Array.replicate_succ, Array.replicate_zero, List.push_toArray, List.append_toArray, List.nil_append, List.cons_append]
  go_upto_region 0 with fail
  refine WL.start ?_
  refine wp_runW (.pointer (some ⟨w.heap.size, 0, none⟩)) (w.alloc (.cells (Bv.cells ⟨up, ⟨ea, en, ec⟩, ⟨la, ln, lc⟩⟩) 25)) (exec_box 25 _ rfl (Bv.cells ⟨up, ⟨ea, en, ec⟩, ⟨la, ln, lc⟩⟩) (by kernel_rfl)) (by kernel_rfl) ?_
  try simp only [pA, pB, p1, p2, p3]
  have HF : Hid (Fr No w (w.alloc (.cells (Bv.cells ⟨up, ⟨ea, en, ec⟩, ⟨la, ln, lc⟩⟩) 25)) [(w.heap.size, 25, Bv.cells ⟨up, ⟨ea, en, ec⟩, ⟨la, ln, lc⟩⟩)]) := HF.out.alloc _ _
  generalize w.alloc (.cells (Bv.cells ⟨up, ⟨ea, en, ec⟩, ⟨la, ln, lc⟩⟩) 25) = wk2 at HF ⊢
  generalize w.heap.size = gk1 at HF ⊢
  refine tK (.bool false) ?_
  try simp only [pA, pB, p1, p2, p3]
  refine WL.nil ?_
  try simp only [pA, pB, p1, p2, p3]
  go_upto_region 1 with fail
  refine WL.start ?_
  refine tW (.agg (Bv.cells ⟨up, ⟨ea, en, ec⟩, ⟨la, ln, lc⟩⟩)) (exec_load 25 _ rfl ⟨gk1, 0, none⟩ (by kernel_rfl) (.agg (Bv.cells ⟨up, ⟨ea, en, ec⟩, ⟨la, ln, lc⟩⟩)) (ld25 (HF.out.box 0 _ _ _ rfl))) ?_
  try simp only [pA, pB, p1, p2, p3]
  refine wp_callW 17 #[.agg (Bv.cells ⟨up, ⟨ea, en, ec⟩, ⟨la, ln, lc⟩⟩)] (by kernel_rfl) _ (lend_any up ea en ec la ln lc es ls _ (HE.out.no HF.out.kept) (HL.out.no HF.out.kept) hb hbl) (by kernel_rfl) ?_
  rintro e wk3 ⟨g, h, rfl, hg0, hh0, hg, hh, hk⟩
  have HF : Hid (Fr No w wk3 [(gk1, 25, Bv.cells ⟨up, ⟨ea, en, ec⟩, ⟨la, ln, lc⟩⟩), (g, 54, (enL (es ++ [markE])).toArray), (h, 64, (laL (ls ++ [markL])).toArray)]) := HF.out.join2 hk hg0 hh0 hg hh (by decide)
  clear hg0 hh0 hg hh hk
  refine ⟨.agg (Bv.cells ⟨up, ⟨(some ⟨g, 0, none⟩), en, (en + 1)⟩, ⟨(some ⟨h, 0, none⟩), ln, (ln + 1)⟩⟩), rfl, ?_⟩
  try simp only [pA, pB, p1, p2, p3]
  refine wp_runW (.pointer (some ⟨wk3.heap.size, 0, none⟩)) (wk3.alloc (.cells (Bv.cells bvZ) 25)) (exec_alloc 25 rfl (Bv.cells bvZ) zero25) (by kernel_rfl) ?_
  try simp only [pA, pB, p1, p2, p3]
  have HF : Hid (Fr No w (wk3.alloc (.cells (Bv.cells bvZ) 25)) [(gk1, 25, Bv.cells ⟨up, ⟨ea, en, ec⟩, ⟨la, ln, lc⟩⟩), (g, 54, (enL (es ++ [markE])).toArray), (h, 64, (laL (ls ++ [markL])).toArray), (wk3.heap.size, 25, Bv.cells bvZ)]) := HF.out.alloc _ _
  generalize wk3.alloc (.cells (Bv.cells bvZ) 25) = wk5 at HF ⊢
  generalize wk3.heap.size = gk4 at HF ⊢
  refine wp_storeW 25 _ _ rfl ⟨gk4, 0, none⟩ (.agg (Bv.cells ⟨up, ⟨(some ⟨g, 0, none⟩), en, (en + 1)⟩, ⟨(some ⟨h, 0, none⟩), ln, (ln + 1)⟩⟩)) (by kernel_rfl) (by kernel_rfl) (wk5.setRow gk4 (Bv.cells ⟨up, ⟨(some ⟨g, 0, none⟩), en, (en + 1)⟩, ⟨(some ⟨h, 0, none⟩), ln, (ln + 1)⟩⟩)) (st25 (HF.out.box 3 _ _ _ rfl) rfl) (by kernel_rfl) ?_
  try simp only [pA, pB, p1, p2, p3]
  have HF : Hid (Fr No w (wk5.setRow gk4 (Bv.cells ⟨up, ⟨(some ⟨g, 0, none⟩), en, (en + 1)⟩, ⟨(some ⟨h, 0, none⟩), ln, (ln + 1)⟩⟩)) [(gk1, 25, Bv.cells ⟨up, ⟨ea, en, ec⟩, ⟨la, ln, lc⟩⟩), (g, 54, (enL (es ++ [markE])).toArray), (h, 64, (laL (ls ++ [markL])).toArray), (gk4, 25, Bv.cells ⟨up, ⟨(some ⟨g, 0, none⟩), en, (en + 1)⟩, ⟨(some ⟨h, 0, none⟩), ln, (ln + 1)⟩⟩)]) := HF.out.set 3 rfl _
  generalize wk5.setRow gk4 (Bv.cells ⟨up, ⟨(some ⟨g, 0, none⟩), en, (en + 1)⟩, ⟨(some ⟨h, 0, none⟩), ln, (ln + 1)⟩⟩) = wk6 at HF ⊢
  refine WL.nil ?_
  try simp only [pA, pB, p1, p2, p3]
  go_upto_region 2 with fail
  refine WL.start ?_
  refine tW (.agg (Bv.cells ⟨up, ⟨(some ⟨g, 0, none⟩), en, (en + 1)⟩, ⟨(some ⟨h, 0, none⟩), ln, (ln + 1)⟩⟩)) (exec_load 25 _ rfl ⟨gk4, 0, none⟩ (by kernel_rfl) (.agg (Bv.cells ⟨up, ⟨(some ⟨g, 0, none⟩), en, (en + 1)⟩, ⟨(some ⟨h, 0, none⟩), ln, (ln + 1)⟩⟩)) (ld25 (HF.out.box 3 _ _ _ rfl))) ?_
  try simp only [pA, pB, p1, p2, p3]
  refine tK (.string n) ?_
  try simp only [pA, pB, p1, p2, p3]
  refine wp_callW 24 #[.agg (Bv.cells ⟨up, ⟨(some ⟨g, 0, none⟩), en, (en + 1)⟩, ⟨(some ⟨h, 0, none⟩), ln, (ln + 1)⟩⟩), .string n] (by kernel_rfl) _ (HFI.out _ g h (HF.out.box 1 _ _ _ rfl)) (by kernel_rfl) ?_
  rintro e wk7 ⟨rfl, hk⟩
  have HF : Hid (Fr No w (wk7) [(gk1, 25, Bv.cells ⟨up, ⟨ea, en, ec⟩, ⟨la, ln, lc⟩⟩), (g, 54, (enL (es ++ [markE])).toArray), (h, 64, (laL (ls ++ [markL])).toArray), (gk4, 25, Bv.cells ⟨up, ⟨(some ⟨g, 0, none⟩), en, (en + 1)⟩, ⟨(some ⟨h, 0, none⟩), ln, (ln + 1)⟩⟩)]) := HF.out.no hk
  clear hk
  refine ⟨.tuple #[.agg (En.cells fe), .bool be], rfl, ?_⟩
  try simp only [pA, pB, p1, p2, p3]
  refine tK (.tuple #[.agg (En.cells fe), .bool be]) ?_
  try simp only [pA, pB, p1, p2, p3]
  refine tK (.agg (En.cells fe)) ?_
  try simp only [pA, pB, p1, p2, p3]
  refine tK (.bool be) ?_
  try simp only [pA, pB, p1, p2, p3]
  refine wp_runW (.pointer (some ⟨wk7.heap.size, 0, none⟩)) (wk7.alloc (.cells (En.cells enZ) 54)) (exec_alloc 54 rfl (En.cells enZ) zero54) (by kernel_rfl) ?_
  try simp only [pA, pB, p1, p2, p3]
  have HF : Hid (Fr No w (wk7.alloc (.cells (En.cells enZ) 54)) [(gk1, 25, Bv.cells ⟨up, ⟨ea, en, ec⟩, ⟨la, ln, lc⟩⟩), (g, 54, (enL (es ++ [markE])).toArray), (h, 64, (laL (ls ++ [markL])).toArray), (gk4, 25, Bv.cells ⟨up, ⟨(some ⟨g, 0, none⟩), en, (en + 1)⟩, ⟨(some ⟨h, 0, none⟩), ln, (ln + 1)⟩⟩), (wk7.heap.size, 54, En.cells enZ)]) := HF.out.alloc _ _
  generalize wk7.alloc (.cells (En.cells enZ) 54) = wk9 at HF ⊢
  generalize wk7.heap.size = gk8 at HF ⊢
  refine wp_storeW 54 _ _ rfl ⟨gk8, 0, none⟩ (.agg (En.cells fe)) (by kernel_rfl) (by kernel_rfl) (wk9.setRow gk8 (En.cells fe)) (st54 (HF.out.box 4 _ _ _ rfl) rfl) (by kernel_rfl) ?_
  try simp only [pA, pB, p1, p2, p3]
  have HF : Hid (Fr No w (wk9.setRow gk8 (En.cells fe)) [(gk1, 25, Bv.cells ⟨up, ⟨ea, en, ec⟩, ⟨la, ln, lc⟩⟩), (g, 54, (enL (es ++ [markE])).toArray), (h, 64, (laL (ls ++ [markL])).toArray), (gk4, 25, Bv.cells ⟨up, ⟨(some ⟨g, 0, none⟩), en, (en + 1)⟩, ⟨(some ⟨h, 0, none⟩), ln, (ln + 1)⟩⟩), (gk8, 54, En.cells fe)]) := HF.out.set 4 rfl _
  generalize wk9.setRow gk8 (En.cells fe) = wk10 at HF ⊢
  refine tK (.bool be) ?_
  try simp only [pA, pB, p1, p2, p3]
  refine WL.nil ?_
  try simp only [pA, pB, p1, p2, p3]
  go_upto_region 3 with fail
  refine WL.start ?_
  refine tW (.agg (Bv.cells ⟨up, ⟨(some ⟨g, 0, none⟩), en, (en + 1)⟩, ⟨(some ⟨h, 0, none⟩), ln, (ln + 1)⟩⟩)) (exec_load 25 _ rfl ⟨gk4, 0, none⟩ (by kernel_rfl) (.agg (Bv.cells ⟨up, ⟨(some ⟨g, 0, none⟩), en, (en + 1)⟩, ⟨(some ⟨h, 0, none⟩), ln, (ln + 1)⟩⟩)) (ld25 (HF.out.box 3 _ _ _ rfl))) ?_
  try simp only [pA, pB, p1, p2, p3]
  refine tK (.int .i64 cl) ?_
  try simp only [pA, pB, p1, p2, p3]
  refine wp_callW 25 #[.agg (Bv.cells ⟨up, ⟨(some ⟨g, 0, none⟩), en, (en + 1)⟩, ⟨(some ⟨h, 0, none⟩), ln, (ln + 1)⟩⟩), .int .i64 cl] (by kernel_rfl) _ (HLA.out _ g h (HF.out.box 2 _ _ _ rfl)) (by kernel_rfl) ?_
  rintro e wk11 ⟨rfl, hk⟩
  have HF : Hid (Fr No w (wk11) [(gk1, 25, Bv.cells ⟨up, ⟨ea, en, ec⟩, ⟨la, ln, lc⟩⟩), (g, 54, (enL (es ++ [markE])).toArray), (h, 64, (laL (ls ++ [markL])).toArray), (gk4, 25, Bv.cells ⟨up, ⟨(some ⟨g, 0, none⟩), en, (en + 1)⟩, ⟨(some ⟨h, 0, none⟩), ln, (ln + 1)⟩⟩), (gk8, 54, En.cells fe)]) := HF.out.no hk
  clear hk
  refine ⟨.tuple #[.agg (La.cells fl), .bool bl], rfl, ?_⟩
  try simp only [pA, pB, p1, p2, p3]
  refine tK (.tuple #[.agg (La.cells fl), .bool bl]) ?_
  try simp only [pA, pB, p1, p2, p3]
  refine tK (.agg (La.cells fl)) ?_
  try simp only [pA, pB, p1, p2, p3]
  refine tK (.bool bl) ?_
  try simp only [pA, pB, p1, p2, p3]
  refine wp_runW (.pointer (some ⟨wk11.heap.size, 0, none⟩)) (wk11.alloc (.cells (La.cells laZ) 64)) (exec_alloc 64 rfl (La.cells laZ) zero64) (by kernel_rfl) ?_
  try simp only [pA, pB, p1, p2, p3]
  have HF : Hid (Fr No w (wk11.alloc (.cells (La.cells laZ) 64)) [(gk1, 25, Bv.cells ⟨up, ⟨ea, en, ec⟩, ⟨la, ln, lc⟩⟩), (g, 54, (enL (es ++ [markE])).toArray), (h, 64, (laL (ls ++ [markL])).toArray), (gk4, 25, Bv.cells ⟨up, ⟨(some ⟨g, 0, none⟩), en, (en + 1)⟩, ⟨(some ⟨h, 0, none⟩), ln, (ln + 1)⟩⟩), (gk8, 54, En.cells fe), (wk11.heap.size, 64, La.cells laZ)]) := HF.out.alloc _ _
  generalize wk11.alloc (.cells (La.cells laZ) 64) = wk13 at HF ⊢
  generalize wk11.heap.size = gk12 at HF ⊢
  refine wp_storeW 64 _ _ rfl ⟨gk12, 0, none⟩ (.agg (La.cells fl)) (by kernel_rfl) (by kernel_rfl) (wk13.setRow gk12 (La.cells fl)) (st64 (HF.out.box 5 _ _ _ rfl) rfl) (by kernel_rfl) ?_
  try simp only [pA, pB, p1, p2, p3]
  have HF : Hid (Fr No w (wk13.setRow gk12 (La.cells fl)) [(gk1, 25, Bv.cells ⟨up, ⟨ea, en, ec⟩, ⟨la, ln, lc⟩⟩), (g, 54, (enL (es ++ [markE])).toArray), (h, 64, (laL (ls ++ [markL])).toArray), (gk4, 25, Bv.cells ⟨up, ⟨(some ⟨g, 0, none⟩), en, (en + 1)⟩, ⟨(some ⟨h, 0, none⟩), ln, (ln + 1)⟩⟩), (gk8, 54, En.cells fe), (gk12, 64, La.cells fl)]) := HF.out.set 5 rfl _
  generalize wk13.setRow gk12 (La.cells fl) = wk14 at HF ⊢
  refine tK (.bool bl) ?_
  try simp only [pA, pB, p1, p2, p3]
  refine WL.nil ?_
  try simp only [pA, pB, p1, p2, p3]
  go_upto_region 4 with fail
  refine WL.start ?_
  refine tW (.agg (Bv.cells ⟨up, ⟨(some ⟨g, 0, none⟩), en, (en + 1)⟩, ⟨(some ⟨h, 0, none⟩), ln, (ln + 1)⟩⟩)) (exec_load 25 _ rfl ⟨gk4, 0, none⟩ (by kernel_rfl) (.agg (Bv.cells ⟨up, ⟨(some ⟨g, 0, none⟩), en, (en + 1)⟩, ⟨(some ⟨h, 0, none⟩), ln, (ln + 1)⟩⟩)) (ld25 (HF.out.box 3 _ _ _ rfl))) ?_
  try simp only [pA, pB, p1, p2, p3]
  refine tK (.string n) ?_
  try simp only [pA, pB, p1, p2, p3]
  refine wp_callW 32 #[.agg (Bv.cells ⟨up, ⟨(some ⟨g, 0, none⟩), en, (en + 1)⟩, ⟨(some ⟨h, 0, none⟩), ln, (ln + 1)⟩⟩), .string n] (by kernel_rfl) _ (HNA.out _ g h (HF.out.box 1 _ _ _ rfl)) (by kernel_rfl) ?_
  rintro e wk15 ⟨lb, sa, sc, rfl, hsq, hlb, hsb, hk⟩
  have HF : Hid (Fr No w (wk15) [(gk1, 25, Bv.cells ⟨up, ⟨ea, en, ec⟩, ⟨la, ln, lc⟩⟩), (g, 54, (enL (es ++ [markE])).toArray), (h, 64, (laL (ls ++ [markL])).toArray), (gk4, 25, Bv.cells ⟨up, ⟨(some ⟨g, 0, none⟩), en, (en + 1)⟩, ⟨(some ⟨h, 0, none⟩), ln, (ln + 1)⟩⟩), (gk8, 54, En.cells fe), (gk12, 64, La.cells fl)]) := HF.out.no hk
  have HSq : Hid (SeqAt wk15 lb sa sc ns) := hsq
  clear hsq hlb hsb
  clear hk
  refine ⟨.func (.func 46) #[] #[.pointer (some ⟨lb, 0, none⟩)], rfl, ?_⟩
  try simp only [pA, pB, p1, p2, p3]
  refine tK (.func (.func 46) #[] #[.pointer (some ⟨lb, 0, none⟩)]) ?_
  try simp only [pA, pB, p1, p2, p3]
  refine WL.nil ?_
  try simp only [pA, pB, p1, p2, p3]
  go_upto_region 5 with fail
  refine WL.start ?_
  refine tK (.func (.func 46) #[] #[.pointer (some ⟨lb, 0, none⟩)]) ?_
  try simp only [pA, pB, p1, p2, p3]
  refine tW (.bool false) (exec_bin .eql 76 _ _ _ rfl (.func (.func 46) #[] #[.pointer (some ⟨lb, 0, none⟩)]) (.nilFunc) (.bool false) (by kernel_rfl) (by kernel_rfl) (by kernel_rfl) (by kernel_rfl)) ?_
  try simp only [pA, pB, p1, p2, p3]
  refine WL.nil ?_
  try simp only [pA, pB, p1, p2, p3]
  go_upto_region 7 with fail
  refine WL.start ?_
  refine wp_runW (.pointer (some ⟨wk15.heap.size, 0, none⟩)) (wk15.alloc (.cells (#[.slice none 0 0]) 22)) (exec_alloc1 22 rfl (.slice none 0 0) rfl zero22) (by kernel_rfl) ?_
  try simp only [pA, pB, p1, p2, p3]
  have HBl : Hid (∀ k, SB lb sa k → k < wk15.heap.size) := fun k hk => HSq.out.lt hk
  have HSq : Hid (SeqAt (wk15.alloc (.cells (#[.slice none 0 0]) 22)) lb sa sc ns) := HSq.out.no ((Kept.refl No _).alloc _)
  have HF : Hid (Fr No w (wk15.alloc (.cells (#[.slice none 0 0]) 22)) [(gk1, 25, Bv.cells ⟨up, ⟨ea, en, ec⟩, ⟨la, ln, lc⟩⟩), (g, 54, (enL (es ++ [markE])).toArray), (h, 64, (laL (ls ++ [markL])).toArray), (gk4, 25, Bv.cells ⟨up, ⟨(some ⟨g, 0, none⟩), en, (en + 1)⟩, ⟨(some ⟨h, 0, none⟩), ln, (ln + 1)⟩⟩), (gk8, 54, En.cells fe), (gk12, 64, La.cells fl), (wk15.heap.size, 22, #[.slice none 0 0])]) := HF.out.alloc _ _
  generalize wk15.alloc (.cells (#[.slice none 0 0]) 22) = wk16 at HF HSq ⊢
  generalize wk15.heap.size = BB at HF HBl ⊢
  refine WL.nil ?_
  try simp only [pA, pB, p1, p2, p3]
  have HBw : Hid (w.heap.size ≤ BB) := HF.out.low 6 _ _ _ rfl
  have HB5 : Hid (Box wk16 BB 22 #[.slice none 0 0]) := HF.out.box 6 _ _ _ rfl
  have HK5 : Hid (Kept No w wk16) := HF.out.kept
  have hm3 : ns.length ≤ 10000000000000 := by omega
  go_wp2
  refine (wpIn_wide (n := 3)).1 ?_
  refine' rf_B (F := Fence.wide) rfl (by omega) (gf := 46) (lb := #[.pointer (some ⟨lb, 0, none⟩)]) rfl trivial (enters_of Try.func46 (by kernel_rfl) rfl)
    (seq_mem Fence.wide (3 - 1) trivial rfl (by omega) lb sc ns.length sa ns hm3 rfl wk16 HSq.out) nb_t (nb_b HSq.out (Nat.le_refl _)) (Below.refl _ _) (fun _ => rfl)
    (fun pre W => One w.heap.size BB wk16.heap.size (vals pre) W ∧ Kept (Only BB) wk16 W)
    (fun _ _ _ => False) ?own (fun _ _ _ _ _ hs _ _ => hs) ⟨⟨none, 0, HB5.out, Own.nil _ _ _ _, fun k e => absurd e At.none⟩, Kept.refl _ _⟩ (fun W o => (Kept.refl _ W).alloc o) 54 (fun x => #[.string x.1.nm, .int .i64 x.1.f0, .int .i64 x.1.f1, .int .i64 x.1.sz]) _ ?assign ?body ?done ?stop
  case own =>
    rintro pre A' B' row ⟨⟨a1, c1, h1, h2, h5⟩, h4⟩ hg hr
    have hr' : ∀ r, row = some r → ∃ o : Obj, A'.heap[r]? = some o ∧ o.isCells = false := fun r e => by obtain ⟨_, o, h, h'⟩ := hr r e; exact ⟨o, h, h'⟩
    exact ⟨⟨a1, c1, box_cells h1 hg hr', own_cells h2 hg hr', h5⟩, h4.grown hg (fun k e hk => by have := (hr k e).1; omega)⟩
  case assign =>
    intro l x W K vb hvb hK
    gi_wp2
    rw [← hvb]
    exact hK
  case stop =>
    rintro D c pre W hD hpre h _
    exact h.elim
  case body =>
    clear HFI HLA HNA HRF HRL HRN HE HL HF
    rintro l pre ⟨x2, hx⟩ vb W hl hlo ⟨⟨a1, c1, hb1, ho1, hat1⟩, hk⟩ hbv hlen
    have HAt : Hid (∀ k, At a1 k → wk16.heap.size ≤ k) := hat1
    have H5W : Hid (wk16.heap.size ≤ W.heap.size) := hk.size
    clear hat1
    have hbv : Box W vb 54 x2.cells := hbv
    have HFx : Hid (vals (pre ++ [(⟨x2, hx⟩ : { x : En // x ∈ ns })]) = vals pre ++ [x2]) := vals_snoc _ _
    have HPn : Hid ((vals pre).length < ns.length) := by show _ < _; rw [vals_len]; exact hlen
    generalize hvp : vals pre = xs at hb1 ho1 HFx HPn
    clear hvp
    have H1 : Hid (Box W BB 22 #[.slice a1 xs.length c1]) := hb1
    have O1 : Hid (Own 54 4 W w.heap.size a1 c1 xs.length (enL xs)) := ho1
    have HKW : Hid (Kept (Only BB) wk16 W) := hk
    have e1 : W.cell? ⟨BB, 0, none⟩ = some (.slice a1 xs.length c1) := hb1.cell 0
    have v0 : W.cell? ⟨vb, 0, none⟩ = some (.string x2.nm) := hbv.cell 0
    have v1 : W.cell? ⟨vb, 1, none⟩ = some (.int .i64 x2.f0) := hbv.cell 1
    have v2 : W.cell? ⟨vb, 2, none⟩ = some (.int .i64 x2.f1) := hbv.cell 2
    have v3 : W.cell? ⟨vb, 3, none⟩ = some (.int .i64 x2.sz) := hbv.cell 3
    have HRW : Hid (w.heap.size ≤ W.heap.size) := Nat.le_trans HK5.out.size hk.size
    clear hb1 ho1 hk hbv hlo hlen
    simp only
    gi_wp2_with (first
      | (gi_at_builtin
         refine wpIn_appV rfl _ _ 22 54 4 40 (.agg enZ.cells) Try.und22 Try.info54 rfl (by omega) rfl w.heap.size _ c1 a1 _ rfl (O1.out.no ((Kept.refl No W).alloc _)) ⟨W.heap.size, 0, none⟩ 1 1 x2.cs rfl rfl (cell_newL _ _ _) x2.oneL (by have := HPn.out; omega) (by have := HPn.out; omega) (by omega) (by have := HRW.out; simp; omega) (xs.length + 1) rfl ?_
         intro g1 d1 w6 HO6 HK6 HKo6 HAt6
         have HK16 : Hid (Kept (At a1) W w6) := ((((Kept.refl No W).alloc (.cells x2.cells 54))).of_no : Kept (At a1) W _).then HK6.out
         have hoff : ∀ k, At a1 k → k ≠ BB := fun k hk => box_row H1.out (by decide) O1.out hk
         have HB6 : Hid (Box w6 BB 22 #[.slice a1 xs.length c1]) := H1.out.kept HK16.out (fun e => hoff _ e rfl)
         have f1 := HB6.out.frozen 0
         have e1' : w6.cell? ⟨BB, 0, none⟩ = some (.slice a1 xs.length c1) := HB6.out.cell 0
         clear hoff e1 v0 v1 v2 v3))
    obtain ⟨W7, hW7⟩ : ∃ W7, W7 = w6.setCell ⟨BB, 0, none⟩ (.slice (some ⟨g1, 0, none⟩) (xs.length + 1) d1) := ⟨_, rfl⟩
    have hke : Kept (fun k => k = BB ∨ At a1 k) W W7 := by
      rw [hW7]
      exact (HK16.out.mono (fun i _ e => .inr e)).setCell (p := ⟨BB, 0, none⟩) (fun _ => .inl rfl) _
    have hko : KeepsOthers W W7 := by
      rw [hW7]
      exact ((KeepsOthers.alloc W _).trans HKo6.out).trans (KeepsOthers.setCell _ _ _)
    have hks : Kept (Only BB) w6 W7 := by
      rw [hW7]
      exact (Kept.refl (Only BB) w6).setCell (p := ⟨BB, 0, none⟩) (fun _ => rfl) _
    have hbx : Box W7 BB 22 #[.slice (some ⟨g1, 0, none⟩) (xs.length + 1) d1] := by
      rw [hW7]
      exact HB6.out.set 0 _
    rw [← hW7]
    refine ⟨hko.from _, hke.mono (fun i _ e f => ?_), ⟨some ⟨g1, 0, none⟩, d1, ?_, ?_, ?_⟩, HKW.out.trans hke (fun _ e => e) (fun i hi e => ?_)⟩
    · have h1 := HBl.out i f
      have h2 := HSq.out.lt f
      rcases e with e | e
      · omega
      · have := HAt.out i e; omega
    · rw [HFx.out]
      simpa using hbx
    · rw [HFx.out, enL_app, enL_1]
      have := HO6.out.kept hks (fun k hk e => box_row HB6.out (by decide) HO6.out hk e)
      simpa using this
    · rintro k ⟨ad, e, rfl⟩
      cases e
      rcases HAt6.out with h | h
      · exact HAt.out _ h
      · have h1 := H5W.out
        have h2 : g1 = W.heap.size + 1 := by simpa using h
        show wk16.heap.size ≤ g1
        omega
    · rcases e with e | e
      · exact e
      · have := HAt.out i e; omega
  case done =>
    rintro D ys W hD hys ⟨⟨a1, c1, hb1, ho1, hat1⟩, hk⟩ hK
    have hys : ys.map Subtype.val = ns := hys
    have eys : vals ys = ns := hys
    rw [eys] at hb1 ho1
    have HO : Hid (OwE W w.heap.size ⟨a1, ns.length, c1⟩ ns) := ⟨ho1, rfl⟩
    have HAt : Hid (∀ k, At a1 k → wk16.heap.size ≤ k) := hat1
    have hgs : g < wk16.heap.size := (HF.out.box 1 _ _ _ rfl).lt
    have hhs : h < wk16.heap.size := (HF.out.box 2 _ _ _ rfl).lt
    have HD : Hid (DefAt W D) := hK
    have HF : Hid (Fr No w W [(gk1, 25, Bv.cells ⟨up, ⟨ea, en, ec⟩, ⟨la, ln, lc⟩⟩), (g, 54, (enL (es ++ [markE])).toArray), (h, 64, (laL (ls ++ [markL])).toArray), (gk4, 25, Bv.cells ⟨up, ⟨(some ⟨g, 0, none⟩), en, (en + 1)⟩, ⟨(some ⟨h, 0, none⟩), ln, (ln + 1)⟩⟩), (gk8, 54, En.cells fe), (gk12, 64, La.cells fl), (BB, 22, #[.slice a1 ns.length c1])]) := HF.out.only 6 rfl hk hb1
    have HDl : Hid (w.heap.size ≤ D) := Nat.le_trans HK5.out.size hD
    clear hb1 ho1 hk hK hD hys eys hat1 HSq HBl HB5 HFI HLA HNA HK5 HBw
    generalize wk16.heap.size = s5 at HAt hgs hhs
    go_upto_region 11 with fail
    refine WL.start ?_
    refine tW (.agg (Bv.cells ⟨up, ⟨(some ⟨g, 0, none⟩), en, (en + 1)⟩, ⟨(some ⟨h, 0, none⟩), ln, (ln + 1)⟩⟩)) (exec_load 25 _ rfl ⟨gk4, 0, none⟩ (by kernel_rfl) (.agg (Bv.cells ⟨up, ⟨(some ⟨g, 0, none⟩), en, (en + 1)⟩, ⟨(some ⟨h, 0, none⟩), ln, (ln + 1)⟩⟩)) (ld25 (HF.out.box 3 _ _ _ rfl))) ?_
    try simp only [pA, pB, p1, p2, p3]
    refine tW (.agg (Bv.cells ⟨up, ⟨ea, en, ec⟩, ⟨la, ln, lc⟩⟩)) (exec_load 25 _ rfl ⟨gk1, 0, none⟩ (by kernel_rfl) (.agg (Bv.cells ⟨up, ⟨ea, en, ec⟩, ⟨la, ln, lc⟩⟩)) (ld25 (HF.out.box 0 _ _ _ rfl))) ?_
    try simp only [pA, pB, p1, p2, p3]
    refine wp_callW 19 #[.agg (Bv.cells ⟨up, ⟨(some ⟨g, 0, none⟩), en, (en + 1)⟩, ⟨(some ⟨h, 0, none⟩), ln, (ln + 1)⟩⟩), .agg (Bv.cells ⟨up, ⟨ea, en, ec⟩, ⟨la, ln, lc⟩⟩)] (by kernel_rfl) _ (back_any g h up ea en ec la ln lc es ls _ (HF.out.box 1 _ _ _ rfl) (HF.out.box 2 _ _ _ rfl) (HE.out.no HF.out.kept) (HL.out.no HF.out.kept) hb hbl) (by kernel_rfl) ?_
    rintro e wk17 ⟨rfl, hk⟩
    have HO : Hid (OwE wk17 w.heap.size ⟨a1, ns.length, c1⟩ ns) := HO.out.kept hk (fun k hk' e => by have := HAt.out k hk'; rcases e with rfl | rfl <;> omega)
    have HD : Hid (DefAt wk17 D) := HD.out.kept hk (fun e => by rcases e with e | e; exact HD.out.ne (HF.out.box 1 _ _ _ rfl) e; exact HD.out.ne (HF.out.box 2 _ _ _ rfl) e)
    have HF : Hid (Fr No w wk17 [(gk1, 25, Bv.cells ⟨up, ⟨ea, en, ec⟩, ⟨la, ln, lc⟩⟩), (gk4, 25, Bv.cells ⟨up, ⟨(some ⟨g, 0, none⟩), en, (en + 1)⟩, ⟨(some ⟨h, 0, none⟩), ln, (ln + 1)⟩⟩), (gk8, 54, En.cells fe), (gk12, 64, La.cells fl), (BB, 22, #[.slice a1 ns.length c1])]) := HF.out.lend2 hk
    clear hk hgs hhs HAt
    refine ⟨.bool true, rfl, ?_⟩
    try simp only [pA, pB, p1, p2, p3]
    refine tK (.bool false) ?_
    try simp only [pA, pB, p1, p2, p3]
    refine WL.nil ?_
    try simp only [pA, pB, p1, p2, p3]
    go_upto_region 13 with fail
    refine WL.start ?_
    refine tW (.agg (Bv.cells ⟨up, ⟨ea, en, ec⟩, ⟨la, ln, lc⟩⟩)) (exec_load 25 _ rfl ⟨gk1, 0, none⟩ (by kernel_rfl) (.agg (Bv.cells ⟨up, ⟨ea, en, ec⟩, ⟨la, ln, lc⟩⟩)) (ld25 (HF.out.box 0 _ _ _ rfl))) ?_
    try simp only [pA, pB, p1, p2, p3]
    refine tK (.string n) ?_
    try simp only [pA, pB, p1, p2, p3]
    refine wp_callW 33 #[.agg (Bv.cells ⟨up, ⟨ea, en, ec⟩, ⟨la, ln, lc⟩⟩), .string n] (by kernel_rfl) _ (HRF.out _ HF.out.kept) (by kernel_rfl) ?_
    rintro e wk18 ⟨rfl, hk⟩
    have HO : Hid (OwE (wk18) w.heap.size ⟨a1, ns.length, c1⟩ ns) := HO.out.no hk
    have HD : Hid (DefAt (wk18) D) := HD.out.no hk
    have HF : Hid (Fr No w (wk18) [(gk1, 25, Bv.cells ⟨up, ⟨ea, en, ec⟩, ⟨la, ln, lc⟩⟩), (gk4, 25, Bv.cells ⟨up, ⟨(some ⟨g, 0, none⟩), en, (en + 1)⟩, ⟨(some ⟨h, 0, none⟩), ln, (ln + 1)⟩⟩), (gk8, 54, En.cells fe), (gk12, 64, La.cells fl), (BB, 22, #[.slice a1 ns.length c1])]) := HF.out.no hk
    clear hk
    refine ⟨.tuple #[.agg (En.cells fe), .bool be], rfl, ?_⟩
    try simp only [pA, pB, p1, p2, p3]
    refine tK (.tuple #[.agg (En.cells fe), .bool be]) ?_
    try simp only [pA, pB, p1, p2, p3]
    refine tK (.agg (En.cells fe)) ?_
    try simp only [pA, pB, p1, p2, p3]
    refine tK (.bool be) ?_
    try simp only [pA, pB, p1, p2, p3]
    refine wp_runW (.pointer (some ⟨wk18.heap.size, 0, none⟩)) (wk18.alloc (.cells (En.cells enZ) 54)) (exec_alloc 54 rfl (En.cells enZ) zero54) (by kernel_rfl) ?_
    try simp only [pA, pB, p1, p2, p3]
    have HO_s : Hid (OwE wk18 w.heap.size ⟨a1, ns.length, c1⟩ ns) := HO
    have HD_s : Hid (DefAt wk18 D) := HD
    have HKs : Hid (Kept No wk18 wk18) := Kept.refl _ _
    have HG_gk19 : Hid (wk18.heap.size ≤ wk18.heap.size) := Nat.le_refl _
    have HO : Hid (OwE (wk18.alloc (.cells (En.cells enZ) 54)) w.heap.size ⟨a1, ns.length, c1⟩ ns) := HO.out.no ((Kept.refl No _).alloc _)
    have HD : Hid (DefAt (wk18.alloc (.cells (En.cells enZ) 54)) D) := HD.out.no ((Kept.refl No _).alloc _)
    have HKs : Hid (Kept No wk18 (wk18.alloc (.cells (En.cells enZ) 54))) := HKs.out.no ((Kept.refl No _).alloc _)
    have HF : Hid (Fr No w (wk18.alloc (.cells (En.cells enZ) 54)) [(gk1, 25, Bv.cells ⟨up, ⟨ea, en, ec⟩, ⟨la, ln, lc⟩⟩), (gk4, 25, Bv.cells ⟨up, ⟨(some ⟨g, 0, none⟩), en, (en + 1)⟩, ⟨(some ⟨h, 0, none⟩), ln, (ln + 1)⟩⟩), (gk8, 54, En.cells fe), (gk12, 64, La.cells fl), (BB, 22, #[.slice a1 ns.length c1]), (wk18.heap.size, 54, En.cells enZ)]) := HF.out.alloc _ _
    generalize wk18.alloc (.cells (En.cells enZ) 54) = wk20 at HF HO HD HKs ⊢
    obtain ⟨gk19, hg⟩ : ∃ g, g = wk18.heap.size := ⟨_, rfl⟩
    have HG_gk19 : Hid (wk18.heap.size ≤ gk19) := by show _ ≤ _; rw [hg]; exact HG_gk19.out
    rw [← hg] at HF ⊢
    clear hg
    refine wp_storeW 54 _ _ rfl ⟨gk19, 0, none⟩ (.agg (En.cells fe)) (by kernel_rfl) (by kernel_rfl) (wk20.setRow gk19 (En.cells fe)) (st54 (HF.out.box 5 _ _ _ rfl) rfl) (by kernel_rfl) ?_
    try simp only [pA, pB, p1, p2, p3]
    have HO : Hid (OwE (wk20.setRow gk19 (En.cells fe)) w.heap.size ⟨a1, ns.length, c1⟩ ns) := HO_s.out.no (HKs.out.newRow HG_gk19.out _)
    have HD : Hid (DefAt (wk20.setRow gk19 (En.cells fe)) D) := HD_s.out.no (HKs.out.newRow HG_gk19.out _)
    have HKs : Hid (Kept No wk18 (wk20.setRow gk19 (En.cells fe))) := HKs.out.newRow HG_gk19.out _
    have HF : Hid (Fr No w (wk20.setRow gk19 (En.cells fe)) [(gk1, 25, Bv.cells ⟨up, ⟨ea, en, ec⟩, ⟨la, ln, lc⟩⟩), (gk4, 25, Bv.cells ⟨up, ⟨(some ⟨g, 0, none⟩), en, (en + 1)⟩, ⟨(some ⟨h, 0, none⟩), ln, (ln + 1)⟩⟩), (gk8, 54, En.cells fe), (gk12, 64, La.cells fl), (BB, 22, #[.slice a1 ns.length c1]), (gk19, 54, En.cells fe)]) := HF.out.set 5 rfl _
    generalize wk20.setRow gk19 (En.cells fe) = wk21 at HF HO HD HKs ⊢
    refine tK (.bool be) ?_
    try simp only [pA, pB, p1, p2, p3]
    refine WL.nil ?_
    try simp only [pA, pB, p1, p2, p3]
    clear HKs HO_s HD_s HG_gk19
    go_upto_region 14 with fail
    refine WL.start ?_
    refine tW (.agg (Bv.cells ⟨up, ⟨ea, en, ec⟩, ⟨la, ln, lc⟩⟩)) (exec_load 25 _ rfl ⟨gk1, 0, none⟩ (by kernel_rfl) (.agg (Bv.cells ⟨up, ⟨ea, en, ec⟩, ⟨la, ln, lc⟩⟩)) (ld25 (HF.out.box 0 _ _ _ rfl))) ?_
    try simp only [pA, pB, p1, p2, p3]
    refine tK (.int .i64 cl) ?_
    try simp only [pA, pB, p1, p2, p3]
    refine wp_callW 34 #[.agg (Bv.cells ⟨up, ⟨ea, en, ec⟩, ⟨la, ln, lc⟩⟩), .int .i64 cl] (by kernel_rfl) _ (HRL.out _ HF.out.kept) (by kernel_rfl) ?_
    rintro e wk22 ⟨rfl, hk⟩
    have HO : Hid (OwE (wk22) w.heap.size ⟨a1, ns.length, c1⟩ ns) := HO.out.no hk
    have HD : Hid (DefAt (wk22) D) := HD.out.no hk
    have HF : Hid (Fr No w (wk22) [(gk1, 25, Bv.cells ⟨up, ⟨ea, en, ec⟩, ⟨la, ln, lc⟩⟩), (gk4, 25, Bv.cells ⟨up, ⟨(some ⟨g, 0, none⟩), en, (en + 1)⟩, ⟨(some ⟨h, 0, none⟩), ln, (ln + 1)⟩⟩), (gk8, 54, En.cells fe), (gk12, 64, La.cells fl), (BB, 22, #[.slice a1 ns.length c1]), (gk19, 54, En.cells fe)]) := HF.out.no hk
    clear hk
    refine ⟨.tuple #[.agg (La.cells fl), .bool bl], rfl, ?_⟩
    try simp only [pA, pB, p1, p2, p3]
    refine tK (.tuple #[.agg (La.cells fl), .bool bl]) ?_
    try simp only [pA, pB, p1, p2, p3]
    refine tK (.agg (La.cells fl)) ?_
    try simp only [pA, pB, p1, p2, p3]
    refine tK (.bool bl) ?_
    try simp only [pA, pB, p1, p2, p3]
    refine wp_runW (.pointer (some ⟨wk22.heap.size, 0, none⟩)) (wk22.alloc (.cells (La.cells laZ) 64)) (exec_alloc 64 rfl (La.cells laZ) zero64) (by kernel_rfl) ?_
    try simp only [pA, pB, p1, p2, p3]
    have HO_s : Hid (OwE wk22 w.heap.size ⟨a1, ns.length, c1⟩ ns) := HO
    have HD_s : Hid (DefAt wk22 D) := HD
    have HKs : Hid (Kept No wk22 wk22) := Kept.refl _ _
    have HG_gk23 : Hid (wk22.heap.size ≤ wk22.heap.size) := Nat.le_refl _
    have HO : Hid (OwE (wk22.alloc (.cells (La.cells laZ) 64)) w.heap.size ⟨a1, ns.length, c1⟩ ns) := HO.out.no ((Kept.refl No _).alloc _)
    have HD : Hid (DefAt (wk22.alloc (.cells (La.cells laZ) 64)) D) := HD.out.no ((Kept.refl No _).alloc _)
    have HKs : Hid (Kept No wk22 (wk22.alloc (.cells (La.cells laZ) 64))) := HKs.out.no ((Kept.refl No _).alloc _)
    have HF : Hid (Fr No w (wk22.alloc (.cells (La.cells laZ) 64)) [(gk1, 25, Bv.cells ⟨up, ⟨ea, en, ec⟩, ⟨la, ln, lc⟩⟩), (gk4, 25, Bv.cells ⟨up, ⟨(some ⟨g, 0, none⟩), en, (en + 1)⟩, ⟨(some ⟨h, 0, none⟩), ln, (ln + 1)⟩⟩), (gk8, 54, En.cells fe), (gk12, 64, La.cells fl), (BB, 22, #[.slice a1 ns.length c1]), (gk19, 54, En.cells fe), (wk22.heap.size, 64, La.cells laZ)]) := HF.out.alloc _ _
    generalize wk22.alloc (.cells (La.cells laZ) 64) = wk24 at HF HO HD HKs ⊢
    obtain ⟨gk23, hg⟩ : ∃ g, g = wk22.heap.size := ⟨_, rfl⟩
    have HG_gk23 : Hid (wk22.heap.size ≤ gk23) := by show _ ≤ _; rw [hg]; exact HG_gk23.out
    rw [← hg] at HF ⊢
    clear hg
    refine wp_storeW 64 _ _ rfl ⟨gk23, 0, none⟩ (.agg (La.cells fl)) (by kernel_rfl) (by kernel_rfl) (wk24.setRow gk23 (La.cells fl)) (st64 (HF.out.box 6 _ _ _ rfl) rfl) (by kernel_rfl) ?_
    try simp only [pA, pB, p1, p2, p3]
    have HO : Hid (OwE (wk24.setRow gk23 (La.cells fl)) w.heap.size ⟨a1, ns.length, c1⟩ ns) := HO_s.out.no (HKs.out.newRow HG_gk23.out _)
    have HD : Hid (DefAt (wk24.setRow gk23 (La.cells fl)) D) := HD_s.out.no (HKs.out.newRow HG_gk23.out _)
    have HKs : Hid (Kept No wk22 (wk24.setRow gk23 (La.cells fl))) := HKs.out.newRow HG_gk23.out _
    have HF : Hid (Fr No w (wk24.setRow gk23 (La.cells fl)) [(gk1, 25, Bv.cells ⟨up, ⟨ea, en, ec⟩, ⟨la, ln, lc⟩⟩), (gk4, 25, Bv.cells ⟨up, ⟨(some ⟨g, 0, none⟩), en, (en + 1)⟩, ⟨(some ⟨h, 0, none⟩), ln, (ln + 1)⟩⟩), (gk8, 54, En.cells fe), (gk12, 64, La.cells fl), (BB, 22, #[.slice a1 ns.length c1]), (gk19, 54, En.cells fe), (gk23, 64, La.cells fl)]) := HF.out.set 6 rfl _
    generalize wk24.setRow gk23 (La.cells fl) = wk25 at HF HO HD HKs ⊢
    refine tK (.bool bl) ?_
    try simp only [pA, pB, p1, p2, p3]
    refine WL.nil ?_
    try simp only [pA, pB, p1, p2, p3]
    clear HKs HO_s HD_s HG_gk23
    go_upto_region 15 with fail
    refine wp_np ?_
    refine wp_region_held_drew (S := fun w' => Box w' gk8 54 (En.cells fe) ∧ Box w' gk19 54 (En.cells fe) ∧ Box w' gk12 64 (La.cells fl) ∧ Box w' gk23 64 (La.cells fl) ∧ Box w' BB 22 (#[.slice a1 ns.length c1]) ∧ Box w' gk1 25 (Bv.cells ⟨up, ⟨ea, en, ec⟩, ⟨la, ln, lc⟩⟩)) rfl ⟨HF.out.box 2 _ _ _ rfl, HF.out.box 5 _ _ _ rfl, HF.out.box 3 _ _ _ rfl, HF.out.box 6 _ _ _ rfl, HF.out.box 4 _ _ _ rfl, HF.out.box 0 _ _ _ rfl⟩ (fun hH => ?_)
    have HO : Hid (OwE (wk25.drew) w.heap.size ⟨a1, ns.length, c1⟩ ns) := HO.out.no (Kept.refl No _).drew
    have HD : Hid (DefAt (wk25.drew) D) := HD.out.no (Kept.refl No _).drew
    have HF : Hid (Fr No w (wk25.drew) [(gk1, 25, Bv.cells ⟨up, ⟨ea, en, ec⟩, ⟨la, ln, lc⟩⟩), (gk4, 25, Bv.cells ⟨up, ⟨(some ⟨g, 0, none⟩), en, (en + 1)⟩, ⟨(some ⟨h, 0, none⟩), ln, (ln + 1)⟩⟩), (gk8, 54, En.cells fe), (gk12, 64, La.cells fl), (BB, 22, #[.slice a1 ns.length c1]), (gk19, 54, En.cells fe), (gk23, 64, La.cells fl)]) := HF.out.drew
    generalize wk25.drew = wk26 at HF HO HD hH ⊢
    refine any_take (i := 0) (oi := { dst := some 60, op := Op.move (Operand.tmp 9), type := 4, pos := "law.go:146", after := #[], guard := none }) (v := .bool be) rfl (by kernel_rfl) (by kernel_rfl) (by kernel_rfl) np (by kernel_rfl) (fun _ _ => by kernel_rfl) hH ?_
    try simp only [pA, pB, p1, p2, p3]
    refine any_take (i := 1) (oi := { dst := some 61, op := Op.move (Operand.tmp 16), type := 4, pos := "law.go:146", after := #[], guard := none }) (v := .bool be) rfl (by kernel_rfl) (by kernel_rfl) (by kernel_rfl) np (by kernel_rfl) (fun _ _ => by kernel_rfl) hH ?_
    try simp only [pA, pB, p1, p2, p3]
    refine any_take (i := 2) (oi := { dst := some 62, op := Op.binOp BinOp.eql 4 (Operand.tmp 60) (Operand.tmp 61) 4, type := 4, pos := "law.go:146", after := #[{ on := 0, ground := Ground.data }, { on := 1, ground := Ground.data }], guard := none }) (v := .bool true) rfl (by kernel_rfl) (by kernel_rfl) (by kernel_rfl) np (by kernel_rfl) (fun w' hw => exec_bin .eql 4 _ _ _ rfl (.bool be) (.bool be) (.bool true) (by kernel_rfl) (by kernel_rfl) (by kernel_rfl) (b_eqlB _ _)) hH ?_
    try simp only [pA, pB, p1, p2, p3]
    refine any_take (i := 3) (oi := { dst := some 63, op := Op.move (Operand.tmp 62), type := 4, pos := "law.go:146", after := #[{ on := 2, ground := Ground.data }], guard := none }) (v := .bool true) rfl (by kernel_rfl) (by kernel_rfl) (by kernel_rfl) np (by kernel_rfl) (fun _ _ => by kernel_rfl) hH ?_
    try simp only [pA, pB, p1, p2, p3]
    refine any_take (i := 4) (oi := { dst := some 64, op := Op.load 54 (Operand.tmp 8), type := 54, pos := "law.go:146", after := #[{ on := 3, ground := Ground.guard }], guard := some (3, true) }) (v := .agg (En.cells fe)) rfl (by kernel_rfl) (by kernel_rfl) (by kernel_rfl) np (by kernel_rfl) (fun w' hw => exec_load 54 _ rfl ⟨gk8, 0, none⟩ (by kernel_rfl) (.agg (En.cells fe)) (ld54 hw.1)) hH ?_
    try simp only [pA, pB, p1, p2, p3]
    refine any_take (i := 5) (oi := { dst := some 65, op := Op.load 54 (Operand.tmp 15), type := 54, pos := "law.go:146", after := #[{ on := 3, ground := Ground.guard }], guard := some (3, true) }) (v := .agg (En.cells fe)) rfl (by kernel_rfl) (by kernel_rfl) (by kernel_rfl) np (by kernel_rfl) (fun w' hw => exec_load 54 _ rfl ⟨gk19, 0, none⟩ (by kernel_rfl) (.agg (En.cells fe)) (ld54 hw.2.1)) hH ?_
    try simp only [pA, pB, p1, p2, p3]
    refine any_take (i := 6) (oi := { dst := some 66, op := Op.binOp BinOp.eql 54 (Operand.tmp 64) (Operand.tmp 65) 54, type := 4, pos := "law.go:146", after := #[{ on := 4, ground := Ground.data }, { on := 5, ground := Ground.data }, { on := 3, ground := Ground.guard }], guard := some (3, true) }) (v := .bool true) rfl (by kernel_rfl) (by kernel_rfl) (by kernel_rfl) np (by kernel_rfl) (fun w' hw => exec_bin .eql 54 _ _ _ rfl (.agg (En.cells fe)) (.agg (En.cells fe)) (.bool true) (by kernel_rfl) (by kernel_rfl) (by kernel_rfl) (by rw [eqE_eql, eqE_iff.2 rfl])) hH ?_
    try simp only [pA, pB, p1, p2, p3]
    refine any_take (i := 7) (oi := { dst := some 67, op := Op.pick (Operand.tmp 63) (Operand.tmp 66) (Operand.const (Value.bool false)), type := 4, pos := "law.go:146", after := #[{ on := 3, ground := Ground.data }, { on := 6, ground := Ground.data }], guard := none }) (v := .bool true) rfl (by kernel_rfl) (by kernel_rfl) (by kernel_rfl) np (by kernel_rfl) (fun _ _ => by kernel_rfl) hH ?_
    try simp only [pA, pB, p1, p2, p3]
    refine any_take (i := 8) (oi := { dst := some 68, op := Op.move (Operand.tmp 67), type := 4, pos := "law.go:146", after := #[{ on := 7, ground := Ground.data }, { on := 3, ground := Ground.chain }], guard := none }) (v := .bool true) rfl (by kernel_rfl) (by kernel_rfl) (by kernel_rfl) np (by kernel_rfl) (fun _ _ => by kernel_rfl) hH ?_
    try simp only [pA, pB, p1, p2, p3]
    refine any_take (i := 9) (oi := { dst := some 69, op := Op.move (Operand.tmp 11), type := 4, pos := "law.go:146", after := #[{ on := 8, ground := Ground.guard }], guard := some (8, true) }) (v := .bool bl) rfl (by kernel_rfl) (by kernel_rfl) (by kernel_rfl) np (by kernel_rfl) (fun _ _ => by kernel_rfl) hH ?_
    try simp only [pA, pB, p1, p2, p3]
    refine any_take (i := 10) (oi := { dst := some 70, op := Op.move (Operand.tmp 18), type := 4, pos := "law.go:146", after := #[{ on := 8, ground := Ground.guard }], guard := some (8, true) }) (v := .bool bl) rfl (by kernel_rfl) (by kernel_rfl) (by kernel_rfl) np (by kernel_rfl) (fun _ _ => by kernel_rfl) hH ?_
    try simp only [pA, pB, p1, p2, p3]
    refine any_take (i := 11) (oi := { dst := some 71, op := Op.binOp BinOp.eql 4 (Operand.tmp 69) (Operand.tmp 70) 4, type := 4, pos := "law.go:146", after := #[{ on := 9, ground := Ground.data }, { on := 10, ground := Ground.data }, { on := 8, ground := Ground.guard }], guard := some (8, true) }) (v := .bool true) rfl (by kernel_rfl) (by kernel_rfl) (by kernel_rfl) np (by kernel_rfl) (fun w' hw => exec_bin .eql 4 _ _ _ rfl (.bool bl) (.bool bl) (.bool true) (by kernel_rfl) (by kernel_rfl) (by kernel_rfl) (b_eqlB _ _)) hH ?_
    try simp only [pA, pB, p1, p2, p3]
    refine any_take (i := 12) (oi := { dst := some 72, op := Op.pick (Operand.tmp 68) (Operand.tmp 71) (Operand.const (Value.bool false)), type := 4, pos := "law.go:146", after := #[{ on := 8, ground := Ground.data }, { on := 11, ground := Ground.data }], guard := none }) (v := .bool true) rfl (by kernel_rfl) (by kernel_rfl) (by kernel_rfl) np (by kernel_rfl) (fun _ _ => by kernel_rfl) hH ?_
    try simp only [pA, pB, p1, p2, p3]
    refine any_take (i := 13) (oi := { dst := some 73, op := Op.move (Operand.tmp 72), type := 4, pos := "law.go:146", after := #[{ on := 12, ground := Ground.data }, { on := 8, ground := Ground.chain }], guard := none }) (v := .bool true) rfl (by kernel_rfl) (by kernel_rfl) (by kernel_rfl) np (by kernel_rfl) (fun _ _ => by kernel_rfl) hH ?_
    try simp only [pA, pB, p1, p2, p3]
    refine any_take (i := 14) (oi := { dst := some 74, op := Op.load 64 (Operand.tmp 10), type := 64, pos := "law.go:146", after := #[{ on := 13, ground := Ground.guard }], guard := some (13, true) }) (v := .agg (La.cells fl)) rfl (by kernel_rfl) (by kernel_rfl) (by kernel_rfl) np (by kernel_rfl) (fun w' hw => exec_load 64 _ rfl ⟨gk12, 0, none⟩ (by kernel_rfl) (.agg (La.cells fl)) (ld64 hw.2.2.1)) hH ?_
    try simp only [pA, pB, p1, p2, p3]
    refine any_take (i := 15) (oi := { dst := some 75, op := Op.load 64 (Operand.tmp 17), type := 64, pos := "law.go:146", after := #[{ on := 13, ground := Ground.guard }], guard := some (13, true) }) (v := .agg (La.cells fl)) rfl (by kernel_rfl) (by kernel_rfl) (by kernel_rfl) np (by kernel_rfl) (fun w' hw => exec_load 64 _ rfl ⟨gk23, 0, none⟩ (by kernel_rfl) (.agg (La.cells fl)) (ld64 hw.2.2.2.1)) hH ?_
    try simp only [pA, pB, p1, p2, p3]
    refine any_take (i := 16) (oi := { dst := some 76, op := Op.binOp BinOp.eql 64 (Operand.tmp 74) (Operand.tmp 75) 64, type := 4, pos := "law.go:146", after := #[{ on := 14, ground := Ground.data }, { on := 15, ground := Ground.data }, { on := 13, ground := Ground.guard }], guard := some (13, true) }) (v := .bool true) rfl (by kernel_rfl) (by kernel_rfl) (by kernel_rfl) np (by kernel_rfl) (fun w' hw => exec_bin .eql 64 _ _ _ rfl (.agg (La.cells fl)) (.agg (La.cells fl)) (.bool true) (by kernel_rfl) (by kernel_rfl) (by kernel_rfl) (by rw [eqL_eql, eqL_iff.2 rfl])) hH ?_
    try simp only [pA, pB, p1, p2, p3]
    refine any_take (i := 17) (oi := { dst := some 77, op := Op.pick (Operand.tmp 73) (Operand.tmp 76) (Operand.const (Value.bool false)), type := 4, pos := "law.go:146", after := #[{ on := 13, ground := Ground.data }, { on := 16, ground := Ground.data }], guard := none }) (v := .bool true) rfl (by kernel_rfl) (by kernel_rfl) (by kernel_rfl) np (by kernel_rfl) (fun _ _ => by kernel_rfl) hH ?_
    try simp only [pA, pB, p1, p2, p3]
    refine any_take (i := 18) (oi := { dst := some 78, op := Op.move (Operand.tmp 77), type := 4, pos := "law.go:146", after := #[{ on := 17, ground := Ground.data }, { on := 13, ground := Ground.chain }], guard := none }) (v := .bool true) rfl (by kernel_rfl) (by kernel_rfl) (by kernel_rfl) np (by kernel_rfl) (fun _ _ => by kernel_rfl) hH ?_
    try simp only [pA, pB, p1, p2, p3]
    refine any_take (i := 19) (oi := { dst := some 79, op := Op.load 22 (Operand.tmp 13), type := 22, pos := "law.go:146", after := #[{ on := 18, ground := Ground.guard }], guard := some (18, true) }) (v := .slice a1 ns.length c1) rfl (by kernel_rfl) (by kernel_rfl) (by kernel_rfl) np (by kernel_rfl) (fun w' hw => exec_load 22 _ rfl ⟨BB, 0, none⟩ (by kernel_rfl) (.slice a1 ns.length c1) (ld22 (hw.2.2.2.2.1.cell 0))) hH ?_
    try simp only [pA, pB, p1, p2, p3]
    refine any_take (i := 20) (oi := { dst := some 80, op := Op.load 25 (Operand.tmp 3), type := 25, pos := "law.go:146", after := #[{ on := 18, ground := Ground.guard }], guard := some (18, true) }) (v := .agg (Bv.cells ⟨up, ⟨ea, en, ec⟩, ⟨la, ln, lc⟩⟩)) rfl (by kernel_rfl) (by kernel_rfl) (by kernel_rfl) np (by kernel_rfl) (fun w' hw => exec_load 25 _ rfl ⟨gk1, 0, none⟩ (by kernel_rfl) (.agg (Bv.cells ⟨up, ⟨ea, en, ec⟩, ⟨la, ln, lc⟩⟩)) (ld25 hw.2.2.2.2.2)) hH ?_
    try simp only [pA, pB, p1, p2, p3]
    refine any_take (i := 21) (oi := { dst := some 81, op := Op.move (Operand.tmp 1), type := 9, pos := "law.go:146", after := #[{ on := 18, ground := Ground.guard }], guard := some (18, true) }) (v := .string n) rfl (by kernel_rfl) (by kernel_rfl) (by kernel_rfl) np (by kernel_rfl) (fun _ _ => by kernel_rfl) hH ?_
    try simp only [pA, pB, p1, p2, p3]
    have HF0 : Hid (w.heap.size ≤ wk26.heap.size) := HF.out.kept.size
    refine any_call (i := 22) (o := { dst := some 82, op := Op.call { callee := Callee.value (Operand.func 36), args := #[Operand.tmp 80, Operand.tmp 81], argTypes := #[25, 9] }, type := 22, pos := "law.go:146", after := #[{ on := 20, ground := Ground.data }, { on := 21, ground := Ground.data }, { on := 18, ground := Ground.chain }, { on := 18, ground := Ground.guard }], guard := some (18, true) }) rfl (by kernel_rfl) (by kernel_rfl) 36 #[.agg (Bv.cells ⟨up, ⟨ea, en, ec⟩, ⟨la, ln, lc⟩⟩), .string n] (by kernel_rfl) _ (HRN.out _ HF.out.kept) ?_
    rintro e wk27 ⟨⟨ma, mn, mc⟩, rfl, hM, hk⟩
    have hH2 : Box wk27 gk8 54 (En.cells fe) ∧ Box wk27 gk19 54 (En.cells fe) ∧ Box wk27 gk12 64 (La.cells fl) ∧ Box wk27 gk23 64 (La.cells fl) ∧ Box wk27 BB 22 (#[.slice a1 ns.length c1]) ∧ Box wk27 gk1 25 (Bv.cells ⟨up, ⟨ea, en, ec⟩, ⟨la, ln, lc⟩⟩) := ⟨hH.1.kept hk (fun e => e), hH.2.1.kept hk (fun e => e), hH.2.2.1.kept hk (fun e => e), hH.2.2.2.1.kept hk (fun e => e), hH.2.2.2.2.1.kept hk (fun e => e), hH.2.2.2.2.2.kept hk (fun e => e)⟩
    have HO : Hid (OwE (wk27) w.heap.size ⟨a1, ns.length, c1⟩ ns) := HO.out.no hk
    have HD : Hid (DefAt (wk27) D) := HD.out.no hk
    have HF : Hid (Fr No w (wk27) [(gk1, 25, Bv.cells ⟨up, ⟨ea, en, ec⟩, ⟨la, ln, lc⟩⟩), (gk4, 25, Bv.cells ⟨up, ⟨(some ⟨g, 0, none⟩), en, (en + 1)⟩, ⟨(some ⟨h, 0, none⟩), ln, (ln + 1)⟩⟩), (gk8, 54, En.cells fe), (gk12, 64, La.cells fl), (BB, 22, #[.slice a1 ns.length c1]), (gk19, 54, En.cells fe), (gk23, 64, La.cells fl)]) := HF.out.no hk
    have HM : Hid (OwE wk27 w.heap.size ⟨ma, mn, mc⟩ ns) := hM.lower HF0.out
    clear hM HF0
    clear hk
    refine ⟨.slice ma mn mc, rfl, hH2, fun hH => ?_⟩
    clear hH2
    try simp only [pA, pB, p1, p2, p3]
    refine any_call (i := 23) (o := { dst := some 83, op := Op.call { callee := Callee.value (Operand.func 35), args := #[Operand.tmp 79, Operand.tmp 82], argTypes := #[22, 22] }, type := 4, pos := "law.go:146", after := #[{ on := 19, ground := Ground.data }, { on := 22, ground := Ground.data }, { on := 22, ground := Ground.chain }, { on := 18, ground := Ground.guard }], guard := some (18, true) }) rfl (by kernel_rfl) (by kernel_rfl) 35 #[.slice a1 ns.length c1, .slice ma mn mc] (by kernel_rfl) _ (sameE_any a1 ns.length c1 ma mn mc ns ns _ HO.out.rd HM.out.rd (by omega)) ?_
    rintro e wk28 ⟨rfl, hk⟩
    have hH2 : Box wk28 gk8 54 (En.cells fe) ∧ Box wk28 gk19 54 (En.cells fe) ∧ Box wk28 gk12 64 (La.cells fl) ∧ Box wk28 gk23 64 (La.cells fl) ∧ Box wk28 BB 22 (#[.slice a1 ns.length c1]) ∧ Box wk28 gk1 25 (Bv.cells ⟨up, ⟨ea, en, ec⟩, ⟨la, ln, lc⟩⟩) := ⟨hH.1.kept hk (fun e => e), hH.2.1.kept hk (fun e => e), hH.2.2.1.kept hk (fun e => e), hH.2.2.2.1.kept hk (fun e => e), hH.2.2.2.2.1.kept hk (fun e => e), hH.2.2.2.2.2.kept hk (fun e => e)⟩
    have HO : Hid (OwE (wk28) w.heap.size ⟨a1, ns.length, c1⟩ ns) := HO.out.no hk
    have HD : Hid (DefAt (wk28) D) := HD.out.no hk
    have HM : Hid (OwE (wk28) w.heap.size ⟨ma, mn, mc⟩ ns) := HM.out.no hk
    have HF : Hid (Fr No w (wk28) [(gk1, 25, Bv.cells ⟨up, ⟨ea, en, ec⟩, ⟨la, ln, lc⟩⟩), (gk4, 25, Bv.cells ⟨up, ⟨(some ⟨g, 0, none⟩), en, (en + 1)⟩, ⟨(some ⟨h, 0, none⟩), ln, (ln + 1)⟩⟩), (gk8, 54, En.cells fe), (gk12, 64, La.cells fl), (BB, 22, #[.slice a1 ns.length c1]), (gk19, 54, En.cells fe), (gk23, 64, La.cells fl)]) := HF.out.no hk
    clear hk
    refine ⟨.bool true, by rw [sameE_iff.2 rfl], hH2, fun hH => ?_⟩
    clear hH2
    try simp only [pA, pB, p1, p2, p3]
    refine any_take (i := 24) (oi := { dst := some 84, op := Op.pick (Operand.tmp 78) (Operand.tmp 83) (Operand.const (Value.bool false)), type := 4, pos := "law.go:146", after := #[{ on := 18, ground := Ground.data }, { on := 23, ground := Ground.data }], guard := none }) (v := .bool true) rfl (by kernel_rfl) (by kernel_rfl) (by kernel_rfl) np (by kernel_rfl) (fun _ _ => by kernel_rfl) hH ?_
    try simp only [pA, pB, p1, p2, p3]
    refine any_take (i := 25) (oi := { dst := some 6, op := Op.assign (Operand.tmp 84), type := 4, pos := "law.go:146", after := #[{ on := 24, ground := Ground.data }, { on := 23, ground := Ground.chain }, { on := 0, ground := Ground.phase }, { on := 1, ground := Ground.phase }, { on := 2, ground := Ground.phase }, { on := 3, ground := Ground.phase }, { on := 4, ground := Ground.phase }, { on := 5, ground := Ground.phase }, { on := 6, ground := Ground.phase }, { on := 7, ground := Ground.phase }, { on := 8, ground := Ground.phase }, { on := 9, ground := Ground.phase }, { on := 10, ground := Ground.phase }, { on := 11, ground := Ground.phase }, { on := 12, ground := Ground.phase }, { on := 13, ground := Ground.phase }, { on := 14, ground := Ground.phase }, { on := 15, ground := Ground.phase }, { on := 16, ground := Ground.phase }, { on := 17, ground := Ground.phase }, { on := 18, ground := Ground.phase }, { on := 19, ground := Ground.phase }, { on := 20, ground := Ground.phase }, { on := 21, ground := Ground.phase }, { on := 22, ground := Ground.phase }, { on := 23, ground := Ground.phase }, { on := 24, ground := Ground.phase }], guard := none }) (v := .bool true) rfl (by kernel_rfl) (by kernel_rfl) (by kernel_rfl) np (by kernel_rfl) (fun _ _ => by kernel_rfl) hH ?_
    try simp only [pA, pB, p1, p2, p3]
    refine wpAnyH_done (by kernel_rfl) ?_ _
    refine ⟨nofun, ?_⟩
    try simp only [pA, pB, p1, p2, p3]
    clear hH
    go_wp2
    rw [HC.out]
    have hgr := grownBy_putObj' wk28 D (.deferred none)
    have hDl := HDl.out
    refine ⟨by simp, .inl ⟨_, _, rfl, run_takeDeferred HD.out, ?_⟩⟩
    refine ⟨.bool true, ?_, ?_⟩
    · exact results_tmp (fn := Try.f13) rfl _ _ _
    · exact ⟨rfl, HF.out.kept.grown hgr (fun k e hk => by cases e; omega)⟩
theorem asked_any (up : Int) (ea : Option Addr) (en ec : Nat) (la : Option Addr) (ln lc : Nat) (es : List En) (ls : List La) (n : ByteArray) (cl : Int) (w : World) (he : RdE w ⟨ea, en, ec⟩ es) (hl : RdL w ⟨la, ln, lc⟩ ls) (hG : Good up es ls) : Calls Try.prog 13 #[.agg (Bv.cells ⟨up, ⟨ea, en, ec⟩, ⟨la, ln, lc⟩⟩), .string n, .int .i64 cl] w (fun e w' => e = .returned (.bool true) ∧ Kept No w w') :=
  asked_rise up ea en ec la ln lc es ls n cl w he hl hG.re hG.rl (by have h1 : es.length = en := he.len; have h2 := hG.n; omega) (by have h1 : ls.length = ln := hl.len; have h2 := hG.ln; omega)

end Go.Proofs.Ytfemlnfknebalaa
