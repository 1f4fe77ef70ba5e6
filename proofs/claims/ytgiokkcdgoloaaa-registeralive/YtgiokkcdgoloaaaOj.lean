import Derived.Test.YtgiokkcdgoloaaaWAtomic
import Derived.ProofKit
import Derived.OpenShut
import Derived.ShutString
import Derived.ChangeOld
import Derived.SizedLaws
import Derived.Deep.Slices
import Derived.Test.YtgiokkcdgoloaaaWAlive
namespace Go.Proofs.Ytgiokkcdgoloaaa.Md
open Go.ChangeShapes Go.WideShapes Go.ChangeAt Go.RowKit
open Go.ChangeMaps (open_string shut_string)
set_option linter.unusedVariables false
set_option linter.unusedSimpArgs false
theorem own : ownKnob Try.prog.godebug = none := by kernel_rfl
theorem laidOut : laidOutB Try.prog = true := by kernel_rfl
theorem cutL {α : Type} {l : List α} (a n : Nat) : l.drop a = (l.drop a).take n ++ l.drop (a + n) := by
  rw [← List.drop_drop]; exact (List.take_append_drop _ _).symm
theorem Try.cells3 : Try.prog.cellsOf 3 = 1 := by kernel_rfl
theorem Try.cells5 : Try.prog.cellsOf 5 = 1 := by kernel_rfl
theorem Try.cells26 : Try.prog.cellsOf 25 = 1 := by kernel_rfl
theorem Try.bytes5 : Try.prog.bytesOf 5 = 1 := by kernel_rfl
theorem bytes_ok {H : Type} {enc : TypeId × Value → H} {W : World} {fuel : Nat} {v : Value} {x : DataW H × List MemPlace}
    (hf : DataW.trod enc Try.prog W 0 (fun _ => true) true fuel 25 [v] = some x) (hs : ∀ n ∈ x.1.weights Try.prog 25, n ≤ reachBytes) :
    ∃ (s : Sl) (xs : List Int), v = s.v ∧ RdB W s xs ∧ s.l ≤ 140737488351232 ∧ s.l ≤ s.k := by
  rcases Go.Deep.open_slice Try.und26 hf with ⟨hcs, _⟩ | ⟨ad, l, cp, m, n, D, PP, hcs, hq, hl, hm, hmm, hx, hel⟩
  · simp at hcs
    exact ⟨slZ, [], hcs, ⟨Nums.nil _ _ _, rfl, fun _ => rfl⟩, by show 0 ≤ _; omega, Nat.le_refl _⟩
  · simp at hcs
    simp only [if_true] at hmm
    subst hmm
    have hb : l ≤ 140737488351232 := by
      have h1 := hs _ (by rw [hx]; simp only [DataW.weights, Try.und26]; exact List.mem_cons_self ..)
      rw [Try.bytes5] at h1
      simp [reachBytes] at h1
      omega
    rw [Try.cells5] at hel
    have key : ∀ i, i < l → ∃ z : Int, W.cells? 0 (ad.add (i * 1)) 1 = some [.int .u8 z] := by
      intro i hi
      obtain ⟨cs', hc, htr⟩ := hel i (by omega)
      obtain ⟨z, e, _, _⟩ := DataW.trod_int Try.und5 htr
      subst e
      exact ⟨z, hc⟩
    obtain ⟨f, hfm⟩ := Go.Deep.choose_lt key
    refine ⟨⟨some ad, l, m⟩, (List.range l).map f, hcs, ⟨?_, by simp, fun e => by cases e⟩, hb, (by show l ≤ m; omega)⟩
    intro i hi0
    have hi : i < l := by simpa using hi0
    have hc := hfm i hi
    have hcs := (World.cells?_some hc).2.2 0 (by omega)
    obtain ⟨b, off, spot⟩ := ad
    have h00' : [Value.int .u8 (f i)][0]? = some (.int .u8 (f i)) := rfl
    rw [h00'] at hcs
    have hspot : spot = none := by
      have h0 := (World.cells?_some (hfm 0 (by omega))).2.2 0 (by omega)
      have h00 : [Value.int .u8 (f 0)][0]? = some (.int .u8 (f 0)) := rfl
      rw [h00] at h0
      have := World.cell?_spot h0
      simpa [Addr.add] using this
    subst hspot
    refine ⟨b, off, rfl, ?_⟩
    rw [Go.Deep.add_add, addr_add] at hcs
    rw [show off + i = off + (i * 1 + 0) by omega]
    simpa [hi] using hcs
theorem weights_all {H : Type} {P : Program} {e : TypeId} : ∀ {ds : List (DataW H)} {d : DataW H}, d ∈ ds → ∀ n ∈ d.weights P e, n ∈ DataW.weightsAll P e ds
  | d0 :: r, d, hd, n, hn => by
    rw [DataW.weightsAll, List.mem_append]
    rcases List.mem_cons.1 hd with rfl | h
    · exact .inl hn
    · exact .inr (weights_all h n hn)
theorem rdB_lt {w : World} {l : Sl} {z : List Int} (h : RdB w l z) : z ≠ [] → ∀ k, At l.a k → k < w.heap.size := fun hne k e => by
  obtain ⟨b, off, ha, hc⟩ := h.row 0 (List.length_pos_iff.2 hne)
  rw [ha] at e
  rw [at_blk e]
  exact World.block_lt_of_cell? _ _ hc
theorem Try.cells107 : Try.prog.cellsOf 107 = 3 := by kernel_rfl
theorem Try.bytes107 : Try.prog.bytesOf 107 = 40 := by kernel_rfl
theorem U64 : Try.prog.underlying 64 = some (.slice 107) := by kernel_rfl
set_option maxRecDepth 100000 in
theorem ev_ok {H : Type} {enc : TypeId × Value → H} {W : World} {fuel : Nat} {l : List Value} {x : DataW H × List MemPlace}
    (hf : DataW.trod enc Try.prog W 0 (fun _ => true) true fuel 107 l = some x) (hs : ∀ n ∈ x.1.weights Try.prog 107, n ≤ reachBytes) :
    ∃ (q : Ev) (zs : List Int), l = q.cs ∧ RdB W q.d zs ∧ q.d.l ≤ 140737488351232 := by
  obtain ⟨xs, n, _, rfl, hl, hlen, hfs⟩ := DataW.trod_struct U107 hf
  rw [Try.cells107] at hl
  have hlen : xs.length = 3 := hlen
  match xs, hlen, hfs, hs with
  | [y0, y1, y2], _, hfs, hs =>
    have h0 : DataW.trod enc Try.prog W 0 (fun _ => true) true n 3 ((l.drop 0).take (Try.prog.cellsOf 3)) = some y0 := hfs 0 _ rfl
    rw [Try.cells3] at h0
    obtain ⟨n0, e0, _, _⟩ := DataW.trod_int Try.und3 h0
    have h1 : DataW.trod enc Try.prog W 0 (fun _ => true) true n 3 ((l.drop 1).take (Try.prog.cellsOf 3)) = some y1 := hfs 1 _ rfl
    rw [Try.cells3] at h1
    obtain ⟨n1, e1, _, _⟩ := DataW.trod_int Try.und3 h1
    have h2 : DataW.trod enc Try.prog W 0 (fun _ => true) true n 25 ((l.drop 2).take (Try.prog.cellsOf 25)) = some y2 := hfs 2 _ rfl
    rw [Try.cells26] at h2
    obtain ⟨c2, hc2⟩ : ∃ c, (l.drop 2).take 1 = [c] := List.length_eq_one_iff.1 (by rw [List.length_take, List.length_drop]; omega)
    rw [hc2] at h2
    obtain ⟨n2, z2, u2, a2, b2, d2⟩ := bytes_ok h2 (fun w hw => hs w (by
      simp only [DataW.weights, U107]
      exact DataW.weights_mem_each (j := 2) (t := 25) (d := y2.1) (by kernel_rfl) rfl w hw))
    have e2 : (l.drop 2).take 1 = [n2.v] := by rw [hc2, u2]
    have s : l = l.drop 0 := rfl
    have s0 : l.drop 0 = (l.drop 0).take 1 ++ l.drop 1 := cutL 0 1
    rw [e0] at s0
    have s1 : l.drop 1 = (l.drop 1).take 1 ++ l.drop 2 := cutL 1 1
    rw [e1] at s1
    have s2 : l.drop 2 = (l.drop 2).take 1 ++ l.drop 3 := cutL 2 1
    rw [e2] at s2
    have sz : l.drop 3 = [] := List.drop_of_length_le (by omega)
    refine ⟨⟨n0, n1, n2⟩, z2, ?_, a2, b2⟩
    rw [s, s0, s1, s2, sz]
    rfl
theorem opened_script (H : Type) (enc : TypeId × Value → H) (W : World) (a0 : Option Addr) (len0 cap0 : Nat) (d0 : DataW H) (p0 : List MemPlace)
    (h0 : DataW.Trod enc Try.prog W 0 (fun _ => true) true 64 (.slice a0 len0 cap0) d0 p0)
    {ts : List TypeId} {ds : List (DataW H)} (hsz : (DataW.weightsEach Try.prog ts ds).all (· ≤ reachBytes) = true) {j : Nat} (ht : ts[j]? = some 64) (hd : ds[j]? = some d0) :
    ∃ ss : List (Ev × List Int), len0 ≤ 140737488351232 ∧ Scr W W.heap.size ⟨a0, len0, cap0⟩ ss := by
  obtain ⟨fuel, hf⟩ := h0
  rcases Go.Deep.open_slice U64 hf with ⟨hcs, _⟩ | ⟨x, l, c, m, n, D, Pl, hcs, hq, hl, hm, hmm, hx, hel⟩
  · simp [Value.cells] at hcs
    obtain ⟨rfl, rfl, rfl⟩ := hcs
    exact ⟨[], by omega, ⟨RowsAt.nil _ _ _, rfl, fun q hq => by simp at hq, fun h => absurd rfl h⟩⟩
  · simp [Value.cells] at hcs
    obtain ⟨rfl, rfl, rfl⟩ := hcs
    simp only [if_true] at hmm
    subst hmm
    simp only [Prod.mk.injEq] at hx
    have hw : ∀ n ∈ d0.weights Try.prog 64, n ≤ reachBytes := fun n hn => by
      have := List.all_eq_true.1 hsz _ (DataW.weights_mem_each ht hd n hn)
      simpa using this
    have hb : len0 ≤ 140737488351232 := by
      have := sized_slice hsz (j := j) (t := 64) (e := 107) ht (by rw [hd, hx.1]) U64
      rw [Try.bytes107] at this
      simp [reachBytes] at this
      omega
    rw [Try.cells107] at hel
    have key : ∀ i, i < len0 → ∃ it : Ev × List Int, W.cells? 0 (x.add (i * 3)) 3 = some it.1.cs ∧ RdB W it.1.d it.2 ∧ it.1.d.l ≤ 140737488351232 := by
      intro i hi
      obtain ⟨cs', hc, htr⟩ := hel i (by omega)
      obtain ⟨it, zs, rfl, h1, h2⟩ := ev_ok htr (fun n hn => hw n (by
        rw [hx.1]; simp only [DataW.weights, U64]
        refine List.mem_cons_of_mem _ (List.mem_append.2 (.inl (weights_all (d := D i) ?_ n hn)))
        exact List.mem_map.2 ⟨i, List.mem_range.2 hi, rfl⟩))
      exact ⟨(it, zs), hc, h1, h2⟩
    haveI : Inhabited (Ev × List Int) := ⟨(⟨0, 0, slZ⟩, [])⟩
    obtain ⟨f, hfm⟩ := Go.Deep.choose_lt key
    have hrow : RowsAt 3 W (some x) (((List.range len0).map f).map (fun q => Ev.cs q.1)) := by
      intro i it hit
      have hi : i < len0 := by have := (List.getElem?_eq_some_iff.1 hit).1; simpa using this
      have e : (f i).1.cs = it := by simpa [hi] using hit
      obtain ⟨hc, _⟩ := hfm i hi
      have hcs := (World.cells?_some hc).2.2
      obtain ⟨b, off, spot⟩ := x
      have hspot : spot = none := by
        have h00 := (World.cells?_some (hfm 0 (by omega)).1).2.2 0 (by omega)
        have h00' : (f 0).1.cs[0]? = some (.int .i64 (f 0).1.k) := rfl
        rw [h00'] at h00
        have := World.cell?_spot h00
        simpa [Addr.add] using this
      subst hspot
      refine ⟨b, off, rfl, fun j u hu => ?_⟩
      rw [← e] at hu
      have hj : j < 3 := (List.getElem?_eq_some_iff.1 hu).1
      have h := hcs j hj
      rw [hu, Go.Deep.add_add, addr_add] at h
      rw [show off + i * 3 + j = off + (i * 3 + j) by omega]
      exact h
    refine ⟨(List.range len0).map f, hb, ⟨hrow, by simp, ?_, ?_⟩⟩
    · intro q hq
      obtain ⟨i, hi, rfl⟩ := List.mem_map.1 hq
      obtain ⟨_, h1, h2⟩ := hfm i (List.mem_range.1 hi)
      exact ⟨h1, by rw [h1.len]; exact h2, fun hne k e => .inl (rdB_lt h1 hne k e)⟩
    · intro hne k e
      obtain ⟨q, hq⟩ := List.exists_mem_of_ne_nil _ hne
      obtain ⟨i, hi, rfl⟩ := List.mem_map.1 hq
      have hi := List.mem_range.1 hi
      obtain ⟨b, off, ha, hc⟩ := hrow 0 (f 0).1.cs (by rw [List.getElem?_map, List.getElem?_map, List.getElem?_range (by omega)]; rfl)
      rw [ha] at e
      rw [at_blk e]
      exact World.block_lt_of_cell? _ _ (hc 0 _ rfl)
end Go.Proofs.Ytgiokkcdgoloaaa.Md
namespace Go.Proofs.Ytgiokkcdgoloaaa.Md
open Go.ChangeShapes Go.WideShapes Go.ChangeAt Go.RowKit
open Go.ChangeMaps (open_string shut_string)
set_option linter.unusedVariables false
set_option linter.unusedSimpArgs false
theorem Try.bytes3 : Try.prog.bytesOf 3 = 8 := by kernel_rfl
theorem ints_ok {H : Type} {enc : TypeId × Value → H} {W : World} {fuel : Nat} {v : Value} {x : DataW H × List MemPlace}
    (hf : DataW.trod enc Try.prog W 0 (fun _ => true) true fuel 24 [v] = some x) : ∃ (s : Sl) (zs : List Int), v = s.v ∧ RdI W s zs ∧ (s.a = none → s.k = 0) := by
  rcases open_ints U24 U3 (by kernel_rfl) hf with ⟨hcs, _⟩ | ⟨ad, l, c, zs, hcs, hq, hl, hm, hz, hx, hcell, hwz⟩
  · simp at hcs
    exact ⟨slZ, [], hcs, ⟨Nums.nil _ _ _, rfl⟩, fun _ => rfl⟩
  · simp at hcs
    have hz' : zs.length = c := by simpa using hz
    refine ⟨⟨some ad, l, c⟩, zs.take l, hcs, ⟨?_, by simp; omega⟩, fun e => by cases e⟩
    intro i hi
    simp only [List.length_take] at hi
    obtain ⟨b, off, rfl, hc⟩ := ints_at hcell (by omega)
    refine ⟨b, off, rfl, ?_⟩
    rw [List.getElem?_take, if_pos (by omega), hc i (by omega)]
    simp
theorem opened_ints (H : Type) (enc : TypeId × Value → H) (W : World) (a0 : Option Addr) (len0 cap0 : Nat) (d0 : DataW H) (p0 : List MemPlace)
    (h0 : DataW.Trod enc Try.prog W 0 (fun _ => true) true 24 (.slice a0 len0 cap0) d0 p0)
    {ts : List TypeId} {ds : List (DataW H)} (hsz : (DataW.weightsEach Try.prog ts ds).all (· ≤ reachBytes) = true) {j : Nat} (ht : ts[j]? = some 24) (hd : ds[j]? = some d0) :
    ∃ zs : List Int, len0 ≤ 140737488351232 ∧ RdI W ⟨a0, len0, cap0⟩ zs := by
  obtain ⟨fuel, hf⟩ := h0
  have hb : len0 ≤ 140737488351232 := by
    rcases open_ints U24 U3 (by kernel_rfl) hf with ⟨hcs, _⟩ | ⟨ad, l, c, zs, hcs, hq, hl, hm, hz, hx, hcell, hwz⟩
    · simp [Value.cells] at hcs
      omega
    · simp [Value.cells] at hcs
      obtain ⟨_, rfl, rfl⟩ := hcs
      have := List.all_eq_true.1 hsz ((len0 + (zs.length - len0)) * Try.prog.bytesOf 3) (DataW.weights_mem_each ht hd _ (by
        have e := congrArg Prod.fst hx
        dsimp only at e
        rw [e]; simp only [DataW.weights, U24]
        refine List.mem_cons.2 (.inl ?_)
        simp only [lits, List.length_map, List.length_take, List.length_drop]
        have : zs.length = cap0 := by simpa using hz
        rw [Nat.min_eq_left (by omega)]))
      have h5 := of_decide_eq_true this
      rw [Try.bytes3] at h5
      simp only [reachBytes] at h5
      omega
  obtain ⟨s, zs, e, h1, _⟩ := ints_ok (v := .slice a0 len0 cap0) hf
  have es : (⟨a0, len0, cap0⟩ : Sl) = s := by
    obtain ⟨sa, sl, sk⟩ := s
    unfold Sl.v at e
    simp only [Value.slice.injEq] at e
    obtain ⟨e1, e2, e3⟩ := e
    subst e1 e2 e3
    rfl
  exact ⟨zs, hb, by rw [es]; exact h1⟩
end Go.Proofs.Ytgiokkcdgoloaaa.Md
