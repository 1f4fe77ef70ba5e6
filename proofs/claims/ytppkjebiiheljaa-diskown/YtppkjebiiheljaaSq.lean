import Derived.Test.YtppkjebiiheljaaSp
import Derived.Test.YtppkjebiiheljaaOc
namespace Go.Proofs.Ytppkjebiiheljaa
open Go.ChangeShapes Go.WideShapes Go.ChangeAt Go.RowKit
open Go.ChangeMaps (open_string shut_string)
set_option linter.unusedVariables false
set_option linter.unusedSimpArgs false

/-- Bytes in memory that came in, somewhere. -/
theorem bytes_sl2 {H : Type} {enc : TypeId × Value → H} {W : World} {fuel : Nat} {c : Value} {x : DataW H × List MemPlace}
    (hf : DataW.trod enc Try.prog W 0 (fun _ => true) true fuel 22 [c] = some x) (hs : ∀ n ∈ x.1.weights Try.prog 22, n ≤ reachBytes) :
    ∃ a m cap zs, c = .slice a m cap ∧ zs.length = m ∧ m ≤ cap ∧ cap ≤ 140737488351232 ∧ Nums .u8 W a zs ∧ U8 zs := by
  rcases open_ints Try.und22 Try.und5 (by kernel_rfl) hf with ⟨hcs, _⟩ | ⟨y, l, cap, zs, hcs, hq, hl, hm, hz, hx, hcell, hwz⟩
  · simp at hcs
    exact ⟨none, 0, 0, [], hcs, rfl, by omega, by omega, Nums.nil _ _ _, fun i => by simp⟩
  · simp at hcs
    have hz' : zs.length = cap := by simpa using hz
    have hb : cap ≤ 140737488351232 := by
      have := hs ((l + (zs.length - l)) * Try.prog.bytesOf 5) (by
        rw [hx]; simp only [DataW.weights, Try.und22]
        refine List.mem_cons.2 (.inl ?_)
        simp only [lits, List.length_map, List.length_take, List.length_drop]
        rw [Nat.min_eq_left (by omega)])
      rw [Try.bytes5] at this
      simp only [reachBytes] at this
      omega
    refine ⟨_, _, _, zs.take l, hcs, by simp; omega, hl, by omega, ?_, U8.take (fun i => range_u8 hwz i) _⟩
    intro i hi
    simp only [List.length_take] at hi
    obtain ⟨b, off, rfl, hc⟩ := ints_at hcell (by omega)
    refine ⟨b, off, rfl, ?_⟩
    rw [List.getElem?_take, if_pos (by omega), hc i (by omega)]
    simp

set_option maxRecDepth 100000 in
theorem stp_ok2 {H : Type} {enc : TypeId × Value → H} {W : World} {fuel : Nat} {cs : List Value} {x : DataW H × List MemPlace}
    (hf : DataW.trod enc Try.prog W 0 (fun _ => true) true fuel 53 cs = some x) (hs : ∀ n ∈ x.1.weights Try.prog 53, n ≤ reachBytes) :
    ∃ it : Stp, cs = [.int .i64 it.k, .int .i64 it.n, .int .i64 it.m, .slice it.a it.l it.c] ∧ StpOk W it ∧ it.c ≤ 140737488351232 := by
  obtain ⟨f0, f1, f2, f3, hu, ⟨t0, o0⟩, ⟨t1, o1⟩, ⟨t2, o2⟩, ⟨t3, o3⟩⟩ := Try.fields53
  obtain ⟨xs, n, _, rfl, hl, hlen, hfs⟩ := DataW.trod_struct hu hf
  rw [Try.cells53] at hl
  match cs, hl, xs, hlen with
  | [c0, c1, c2, c3], _, [y0, y1, y2, y3], _ =>
    have h0 := hfs 0 f0 rfl
    have h1 := hfs 1 f1 rfl
    have h2 := hfs 2 f2 rfl
    have h3 := hfs 3 f3 rfl
    rw [t0, o0, Try.cells3] at h0
    rw [t1, o1, Try.cells3] at h1
    rw [t2, o2, Try.cells3] at h2
    rw [t3, o3, Try.cells22] at h3
    simp only [List.drop_zero, List.take_succ_cons, List.take_zero, List.drop_succ_cons, List.getElem?_cons_zero, List.getElem?_cons_succ] at h0 h1 h2 h3
    obtain ⟨n0, e0, _, w0⟩ := DataW.trod_int Try.und3 h0
    obtain ⟨n1, e1, _, w1⟩ := DataW.trod_int Try.und3 h1
    obtain ⟨n2, e2, _, w2⟩ := DataW.trod_int Try.und3 h2
    obtain ⟨a, l, cap, zs, e3, hzl, hle, hle2, hnu, hal⟩ := bytes_sl2 h3 (fun w hw => hs w (by
      simp only [DataW.weights, hu]
      exact DataW.weights_mem_each (j := 3) (t := 22) (d := y3.1) (by simp [t3]) rfl w hw))
    simp at e0 e1 e2
    exact ⟨⟨n0, n1, n2, a, l, cap, zs⟩, by rw [e0, e1, e2, e3], ⟨hnu, hzl, hle, by show cap ≤ _; omega, hal, bounds_i64 w0, bounds_i64 w1, bounds_i64 w2⟩, hle2⟩

theorem opened_stps2 (H : Type) (enc : TypeId × Value → H) (W : World) (a0 : Option Addr) (len0 cap0 : Nat) (d0 : DataW H) (p0 : List MemPlace)
    (h0 : DataW.Trod enc Try.prog W 0 (fun _ => true) true 48 (.slice a0 len0 cap0) d0 p0)
    {ts : List TypeId} {ds : List (DataW H)} (hsz : (DataW.weightsEach Try.prog ts ds).all (· ≤ reachBytes) = true) {j : Nat} (ht : ts[j]? = some 48) (hd : ds[j]? = some d0) :
    ∃ xs : List Stp, xs.length = len0 ∧ len0 ≤ 140737488351232 ∧ Stps W a0 xs ∧ ∀ x ∈ xs, StpOk W x ∧ x.c ≤ 140737488351232 := by
  obtain ⟨fuel, hf⟩ := h0
  rcases Go.Deep.open_slice Try.und48 hf with ⟨hcs, _⟩ | ⟨x, l, c, m, n, D, Pl, hcs, hq, hl, hm, hmm, hx, hel⟩
  · simp [Value.cells] at hcs
    obtain ⟨rfl, rfl, rfl⟩ := hcs
    exact ⟨[], rfl, by omega, fun i x hx => by simp at hx, fun x hx => by simp at hx⟩
  · simp [Value.cells] at hcs
    obtain ⟨rfl, rfl, rfl⟩ := hcs
    simp only [if_true] at hmm
    subst hmm
    simp only [Prod.mk.injEq] at hx
    have hw : ∀ n ∈ d0.weights Try.prog 48, n ≤ reachBytes := fun n hn => by
      have := List.all_eq_true.1 hsz _ (DataW.weights_mem_each ht hd n hn)
      simpa using this
    have hb : len0 ≤ 140737488351232 := by
      have := sized_slice hsz (j := j) (t := 48) (e := 53) ht (by rw [hd, hx.1]) Try.und48
      rw [Try.bytes53] at this
      simp [reachBytes] at this
      omega
    rw [Try.cells53] at hel
    have key : ∀ i, i < len0 → ∃ it : Stp, W.cells? 0 (x.add (i * 4)) 4 = some [.int .i64 it.k, .int .i64 it.n, .int .i64 it.m, .slice it.a it.l it.c] ∧ StpOk W it ∧ it.c ≤ 140737488351232 := by
      intro i hi
      obtain ⟨cs', hc, htr⟩ := hel i (by omega)
      obtain ⟨it, rfl, hok⟩ := stp_ok2 htr (fun n hn => hw n (by
        rw [hx.1]; simp only [DataW.weights, Try.und48]
        refine List.mem_cons_of_mem _ (List.mem_append.2 (.inl (weights_all (d := D i) ?_ n hn)))
        exact List.mem_map.2 ⟨i, List.mem_range.2 hi, rfl⟩))
      exact ⟨it, hc, hok⟩
    obtain ⟨f, hfm⟩ := Go.Deep.choose_lt key
    refine ⟨(List.range len0).map f, by simp, hb, ?_, ?_⟩
    · intro i it hit
      have hi : i < len0 := by have := (List.getElem?_eq_some_iff.1 hit).1; simpa using this
      have e : f i = it := by simpa [hi] using hit
      obtain ⟨hc, _⟩ := hfm i hi
      rw [e] at hc
      have hcs := (World.cells?_some hc).2.2
      have hc0 := hcs 0 (by omega)
      have hc1 := hcs 1 (by omega)
      have hc2 := hcs 2 (by omega)
      have hc3 := hcs 3 (by omega)
      simp only [List.getElem?_cons_zero, List.getElem?_cons_succ] at hc0 hc1 hc2 hc3
      rw [Go.Deep.add_add] at hc0 hc1 hc2 hc3
      obtain ⟨b, off, spot⟩ := x
      have hspot : spot = none := by
        have h00 := (World.cells?_some (hfm 0 (by omega)).1).2.2 0 (by omega)
        simp only [List.getElem?_cons_zero] at h00
        have := World.cell?_spot h00
        simpa [Addr.add] using this
      subst hspot
      rw [addr_add] at hc0 hc1 hc2 hc3
      exact ⟨b, off, rfl, hc0, hc1, hc2, hc3⟩
    · intro it hit
      obtain ⟨i, hi, rfl⟩ := List.mem_map.1 hit
      exact (hfm i (List.mem_range.1 hi)).2


end Go.Proofs.Ytppkjebiiheljaa
