import Derived.Test.YtnhjpghkmbgeaabO
import Derived.Test.YtnhjpghkmbgeaabWBook
import Derived.Test.YtnhjpghkmbgeaabIt
import Derived.Deep.Slices
namespace Go.Proofs.Ytnhjpghkmbgeaab
open Go.ChangeShapes Go.WideShapes Go.ChangeAt Go.RowKit
set_option linter.unusedVariables false

/-- Bytes in memory that came in, somewhere. -/
theorem bytes_sl {H : Type} {enc : TypeId × Value → H} {W : World} {fuel : Nat} {c : Value} {x : DataW H × List MemPlace}
    (hf : DataW.trod enc Try.prog W 0 (fun _ => true) true fuel 22 [c] = some x) (hs : ∀ n ∈ x.1.weights Try.prog 22, n ≤ reachBytes) :
    ∃ a m cap zs, c = .slice a m cap ∧ Sl W a m cap zs := by
  rcases open_ints Try.underlying22 Try.underlying5 (by kernel_rfl) hf with ⟨hcs, _⟩ | ⟨y, l, cap, zs, hcs, hq, hl, hm, hz, hx, hcell, hwz⟩
  · simp at hcs
    exact ⟨none, 0, 0, [], hcs, Sl.nilS _⟩
  · simp at hcs
    have hz' : zs.length = cap := by simpa using hz
    have hb : l ≤ 140737488351232 := by
      have := hs ((l + (zs.length - l)) * Try.prog.bytesOf 5) (by
        rw [hx]; simp only [DataW.weights, Try.underlying22]
        refine List.mem_cons.2 (.inl ?_)
        simp only [lits, List.length_map, List.length_take, List.length_drop]
        rw [Nat.min_eq_left (by omega)])
      rw [Try.bytes5] at this
      simp only [reachBytes] at this
      omega
    unfold maxLen at hm
    refine ⟨_, _, _, zs.take l, hcs, by simp; omega, ?_, ?_, hl, by omega, hb, fun e => by cases e⟩
    · intro i hi
      simp only [List.length_take] at hi
      obtain ⟨b, off, rfl, hc⟩ := ints_at hcell (by omega)
      refine ⟨b, off, rfl, ?_⟩
      rw [List.getElem?_take, if_pos (by omega), hc i (by omega)]
      simp
    · exact U8.take (fun i => range_u8 hwz i) _

theorem weights_all {H : Type} {P : Program} {e : TypeId} : ∀ {ds : List (DataW H)} {d : DataW H}, d ∈ ds → ∀ n ∈ d.weights P e, n ∈ DataW.weightsAll P e ds
  | d0 :: r, d, hd, n, hn => by
    rw [DataW.weightsAll, List.mem_append]
    rcases List.mem_cons.1 hd with rfl | h
    · exact .inl hn
    · exact .inr (weights_all h n hn)

theorem Try.fields42 : ∃ f0 f1 f2, Try.prog.underlying 42 = some (.struct #[f0, f1, f2]) ∧ (f0.type = 3 ∧ f0.offset = 0) ∧ (f1.type = 3 ∧ f1.offset = 1) ∧ (f2.type = 22 ∧ f2.offset = 2) :=
  ⟨_, _, _, Try.underlying42, ⟨rfl, rfl⟩, ⟨rfl, rfl⟩, ⟨rfl, rfl⟩⟩
theorem Try.cells42 : Try.prog.cellsOf 42 = 3 := by kernel_rfl
theorem Try.cells3 : Try.prog.cellsOf 3 = 1 := by kernel_rfl
theorem Try.cells22 : Try.prog.cellsOf 22 = 1 := by kernel_rfl
theorem Try.bytes42 : Try.prog.bytesOf 42 = 40 := by kernel_rfl

/-- One thing that came in. -/
theorem item_ok {H : Type} {enc : TypeId × Value → H} {W : World} {fuel : Nat} {cs : List Value} {x : DataW H × List MemPlace}
    (hf : DataW.trod enc Try.prog W 0 (fun _ => true) true fuel 42 cs = some x) (hs : ∀ n ∈ x.1.weights Try.prog 42, n ≤ reachBytes) :
    ∃ it : Item, cs = [.int .i64 it.k, .int .i64 it.n, .slice it.a it.m it.c] ∧ ItOk W it := by
  obtain ⟨f0, f1, f2, hu, ⟨t0, o0⟩, ⟨t1, o1⟩, ⟨t2, o2⟩⟩ := Try.fields42
  obtain ⟨xs, n, _, rfl, hl, hlen, hfs⟩ := DataW.trod_struct hu hf
  rw [Try.cells42] at hl
  match cs, hl, xs, hlen with
  | [c0, c1, c2], _, [y0, y1, y2], _ =>
    have h0 := hfs 0 f0 rfl
    have h1 := hfs 1 f1 rfl
    have h2 := hfs 2 f2 rfl
    rw [t0, o0, Try.cells3] at h0
    rw [t1, o1, Try.cells3] at h1
    rw [t2, o2, Try.cells22] at h2
    simp only [List.drop_zero, List.take_succ_cons, List.take_zero, List.drop_succ_cons, List.getElem?_cons_zero, List.getElem?_cons_succ] at h0 h1 h2
    obtain ⟨k, e0, _, wk⟩ := DataW.trod_int Try.underlying3 h0
    obtain ⟨m, e1, _, wm⟩ := DataW.trod_int Try.underlying3 h1
    obtain ⟨a, l, cap, zs, e2, hsl⟩ := bytes_sl h2 (fun w hw => hs w (by
      simp only [DataW.weights, hu]
      exact DataW.weights_mem_each (j := 2) (t := 22) (d := y2.1) (by simp [t2]) rfl w hw))
    simp at e0 e1
    refine ⟨⟨k, m, a, l, cap, zs⟩, by rw [e0, e1, e2], hsl, ?_, ?_⟩
    · have := bounds_i64 wm; simp only; omega
    · have := bounds_i64 wm; simp only; omega

instance : Inhabited Item := ⟨⟨0, 0, none, 0, 0, []⟩⟩

theorem opened_its (H : Type) (enc : TypeId × Value → H) (W : World) (a0 : Option Addr) (len0 cap0 : Nat) (d0 : DataW H) (p0 : List MemPlace)
    (h0 : DataW.Trod enc Try.prog W 0 (fun _ => true) true 34 (.slice a0 len0 cap0) d0 p0)
    {ts : List TypeId} {ds : List (DataW H)} (hsz : (DataW.weightsEach Try.prog ts ds).all (· ≤ reachBytes) = true) {j : Nat} (ht : ts[j]? = some 34) (hd : ds[j]? = some d0) :
    ∃ xs : List Item, xs.length = len0 ∧ len0 ≤ 140737488351232 ∧ Its W a0 xs ∧ ∀ x ∈ xs, ItOk W x := by
  obtain ⟨fuel, hf⟩ := h0
  rcases Go.Deep.open_slice Try.underlying34 hf with ⟨hcs, _⟩ | ⟨x, l, c, m, n, D, Pl, hcs, hq, hl, hm, hmm, hx, hel⟩
  · simp [Value.cells] at hcs
    obtain ⟨rfl, rfl, rfl⟩ := hcs
    exact ⟨[], rfl, by omega, fun i x hx => by simp at hx, fun x hx => by simp at hx⟩
  · simp [Value.cells] at hcs
    obtain ⟨rfl, rfl, rfl⟩ := hcs
    simp only [if_true] at hmm
    subst hmm
    simp only [Prod.mk.injEq] at hx
    have hw : ∀ n ∈ d0.weights Try.prog 34, n ≤ reachBytes := fun n hn => by
      have := List.all_eq_true.1 hsz _ (DataW.weights_mem_each ht hd n hn)
      simpa using this
    have hb : len0 ≤ 140737488351232 := by
      have := sized_slice hsz (j := j) (t := 34) (e := 42) ht (by rw [hd, hx.1]) Try.underlying34
      rw [Try.bytes42] at this
      simp [reachBytes] at this
      omega
    rw [Try.cells42] at hel
    have key : ∀ i, i < len0 → ∃ it : Item, W.cells? 0 (x.add (i * 3)) 3 = some [.int .i64 it.k, .int .i64 it.n, .slice it.a it.m it.c] ∧ ItOk W it := by
      intro i hi
      obtain ⟨cs', hc, htr⟩ := hel i (by omega)
      obtain ⟨it, rfl, hok⟩ := item_ok htr (fun n hn => hw n (by
        rw [hx.1]; simp only [DataW.weights, Try.underlying34]
        refine List.mem_cons_of_mem _ (List.mem_append.2 (.inl (weights_all (d := D i) ?_ n hn)))
        exact List.mem_map.2 ⟨i, List.mem_range.2 hi, rfl⟩))
      exact ⟨it, hc, hok⟩
    obtain ⟨f, hfm⟩ := Go.Deep.choose_lt key
    refine ⟨(List.range len0).map f, by simp, hb, ?_, ?_⟩
    · intro i it hit
      have hi : i < len0 := by have := (List.getElem?_eq_some_iff.1 hit).1; simpa using this
      have e : f i = it := by simpa [hi] using hit
      obtain ⟨hc, _⟩ := hfm i hi
      rw [e] at hc
      have hcs := (World.cells?_some hc).2.2
      have hc0 := hcs 0 (by omega)
      have hc1 := hcs 1 (by omega)
      have hc2 := hcs 2 (by omega)
      simp only [List.getElem?_cons_zero, List.getElem?_cons_succ] at hc0 hc1 hc2
      rw [Go.Deep.add_add] at hc0 hc1 hc2
      obtain ⟨b, off, spot⟩ := x
      have hspot : spot = none := by
        have h00 := (World.cells?_some (hfm 0 (by omega)).1).2.2 0 (by omega)
        simp only [List.getElem?_cons_zero] at h00
        have := World.cell?_spot h00
        simpa [Addr.add] using this
      subst hspot
      rw [addr_add] at hc0 hc1 hc2
      exact ⟨b, off, rfl, hc0, hc1, hc2⟩
    · intro it hit
      obtain ⟨i, hi, rfl⟩ := List.mem_map.1 hit
      exact (hfm i (List.mem_range.1 hi)).2

theorem Try.cells22' : Try.prog.cellsOf 22 = 1 := by kernel_rfl
theorem Try.bytes22 : Try.prog.bytesOf 22 = 24 := by kernel_rfl
open wireBook (Bod Bods)
theorem opened_bods (H : Type) (enc : TypeId × Value → H) (W : World) (a0 : Option Addr) (len0 cap0 : Nat) (d0 : DataW H) (p0 : List MemPlace)
    (h0 : DataW.Trod enc Try.prog W 0 (fun _ => true) true 53 (.slice a0 len0 cap0) d0 p0)
    {ts : List TypeId} {ds : List (DataW H)} (hsz : (DataW.weightsEach Try.prog ts ds).all (· ≤ reachBytes) = true) {j : Nat} (ht : ts[j]? = some 53) (hd : ds[j]? = some d0) :
    ∃ xs : List Bod, xs.length = len0 ∧ len0 ≤ 140737488351232 ∧ Bods W a0 xs := by
  obtain ⟨fuel, hf⟩ := h0
  rcases Go.Deep.open_slice Try.und53 hf with ⟨hcs, _⟩ | ⟨x, l, c, m, n, D, Pl, hcs, hq, hl, hm, hmm, hx, hel⟩
  · simp [Value.cells] at hcs
    obtain ⟨rfl, rfl, rfl⟩ := hcs
    exact ⟨[], rfl, by omega, fun i x hx => by simp at hx⟩
  · simp [Value.cells] at hcs
    obtain ⟨rfl, rfl, rfl⟩ := hcs
    simp only [if_true] at hmm
    subst hmm
    simp only [Prod.mk.injEq] at hx
    have hw : ∀ n ∈ d0.weights Try.prog 53, n ≤ reachBytes := fun n hn => by
      have := List.all_eq_true.1 hsz _ (DataW.weights_mem_each ht hd n hn)
      simpa using this
    have hb : len0 ≤ 140737488351232 := by
      have := sized_slice hsz (j := j) (t := 53) (e := 22) ht (by rw [hd, hx.1]) Try.und53
      rw [Try.bytes22] at this
      simp [reachBytes] at this
      omega
    rw [Try.cells22'] at hel
    have key : ∀ i, i < len0 → ∃ b : Bod, W.cells? 0 (x.add (i * 1)) 1 = some [.slice b.a b.l b.c] ∧ Sl W b.a b.l b.c b.zs := by
      intro i hi
      obtain ⟨cs', hc, htr⟩ := hel i (by omega)
      have hlen := (World.cells?_some hc).2.1
      obtain ⟨c0, rfl⟩ : ∃ c0, cs' = [c0] := by
        match cs', hlen with
        | [c0], _ => exact ⟨c0, rfl⟩
      obtain ⟨ba, bm, bc, zs, rfl, hsl⟩ := bytes_sl htr (fun n hn => hw n (by
        rw [hx.1]; simp only [DataW.weights, Try.und53]
        refine List.mem_cons_of_mem _ (List.mem_append.2 (.inl (weights_all (d := D i) ?_ n hn)))
        exact List.mem_map.2 ⟨i, List.mem_range.2 hi, rfl⟩))
      exact ⟨⟨ba, bm, bc, zs⟩, hc, hsl⟩
    haveI : Inhabited Bod := ⟨⟨none, 0, 0, []⟩⟩
    obtain ⟨f, hfm⟩ := Go.Deep.choose_lt key
    refine ⟨(List.range len0).map f, by simp, hb, ?_⟩
    intro i it hit
    have hi : i < len0 := by have := (List.getElem?_eq_some_iff.1 hit).1; simpa using this
    have e : f i = it := by simpa [hi] using hit
    obtain ⟨hc, hsl⟩ := hfm i hi
    rw [e] at hc hsl
    have hcs := (World.cells?_some hc).2.2
    have hc0 := hcs 0 (by omega)
    simp only [List.getElem?_cons_zero] at hc0
    rw [Go.Deep.add_add] at hc0
    obtain ⟨b, off, spot⟩ := x
    have hspot : spot = none := by
      have h00 := (World.cells?_some (hfm 0 (by omega)).1).2.2 0 (by omega)
      simp only [List.getElem?_cons_zero] at h00
      have := World.cell?_spot h00
      simpa [Addr.add] using this
    subst hspot
    rw [addr_add] at hc0
    simp only [Nat.mul_one, Nat.add_zero] at hc0
    exact ⟨b, off, rfl, hc0, hsl⟩

end Go.Proofs.Ytnhjpghkmbgeaab
