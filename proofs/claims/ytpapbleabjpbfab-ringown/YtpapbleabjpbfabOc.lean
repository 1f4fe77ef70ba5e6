import Derived.Test.YtpapbleabjpbfabAr
import Derived.ProofKit
import Derived.OpenShut
import Derived.ShutString
import Derived.ChangeOld
import Derived.SizedLaws
import Derived.Deep.Slices
namespace Go.Proofs.Ytpapbleabjpbfab
open Go.ChangeShapes Go.WideShapes Go.ChangeAt Go.RowKit
open Go.ChangeMaps (open_string shut_string)
set_option linter.unusedVariables false

theorem own : ownKnob Try.prog.godebug = none := by kernel_rfl
theorem laidOut : laidOutB Try.prog = true := by kernel_rfl
theorem Try.bytes3 : Try.prog.bytesOf 3 = 8 := by kernel_rfl
theorem Try.cells3 : Try.prog.cellsOf 3 = 1 := by kernel_rfl
theorem Try.cells22 : Try.prog.cellsOf 22 = 1 := by kernel_rfl
theorem Try.cells24 : Try.prog.cellsOf 24 = 6 := by kernel_rfl
theorem Try.cells35 : Try.prog.cellsOf 35 = 4 := by kernel_rfl
theorem Try.bytes24 : Try.prog.bytesOf 24 = 64 := by kernel_rfl
theorem Try.bytes35 : Try.prog.bytesOf 35 = 32 := by kernel_rfl

/-- Numbers in memory that came in, somewhere. -/
theorem ints_sl {H : Type} {enc : TypeId × Value → H} {W : World} {fuel : Nat} {c : Value} {x : DataW H × List MemPlace}
    (hf : DataW.trod enc Try.prog W 0 (fun _ => true) true fuel 22 [c] = some x) (hs : ∀ n ∈ x.1.weights Try.prog 22, n ≤ reachBytes) :
    ∃ a m cap zs, c = .slice a m cap ∧ zs.length = m ∧ m ≤ 17592186043904 ∧ Nums .i64 W a zs ∧ AllI zs := by
  rcases open_ints Try.underlying22 Try.underlying3 (by kernel_rfl) hf with ⟨hcs, _⟩ | ⟨y, l, cap, zs, hcs, hq, hl, hm, hz, hx, hcell, hwz⟩
  · simp at hcs
    exact ⟨none, 0, 0, [], hcs, rfl, by omega, Nums.nil _ _ _, by intro i; simp [I64]⟩
  · simp at hcs
    have hz' : zs.length = cap := by simpa using hz
    have hb : l ≤ 17592186043904 := by
      have := hs ((l + (zs.length - l)) * Try.prog.bytesOf 3) (by
        rw [hx]; simp only [DataW.weights, Try.underlying22]
        refine List.mem_cons.2 (.inl ?_)
        simp only [lits, List.length_map, List.length_take, List.length_drop]
        rw [Nat.min_eq_left (by omega)])
      rw [Try.bytes3] at this
      simp only [reachBytes] at this
      omega
    unfold maxLen at hm
    refine ⟨_, _, _, zs.take l, hcs, by simp; omega, hb, ?_, ?_⟩
    · intro i hi
      simp only [List.length_take] at hi
      obtain ⟨b, off, rfl, hc⟩ := ints_at hcell (by omega)
      refine ⟨b, off, rfl, ?_⟩
      rw [List.getElem?_take, if_pos (by omega), hc i (by omega)]
      simp
    · intro i
      rw [List.getElem?_take]
      split
      · have := range_i64 hwz i
        unfold I64
        exact this
      · simp [I64]

theorem Try.fields24 : ∃ f0 f1 f2 f3 f4 f5, Try.prog.underlying 24 = some (.struct #[f0, f1, f2, f3, f4, f5]) ∧ (f0.type = 22 ∧ f0.offset = 0) ∧ (f1.type = 3 ∧ f1.offset = 1) ∧ (f2.type = 3 ∧ f2.offset = 2) ∧ (f3.type = 3 ∧ f3.offset = 3) ∧ (f4.type = 3 ∧ f4.offset = 4) ∧ (f5.type = 3 ∧ f5.offset = 5) :=
  ⟨_, _, _, _, _, _, Try.underlying24, ⟨rfl, rfl⟩, ⟨rfl, rfl⟩, ⟨rfl, rfl⟩, ⟨rfl, rfl⟩, ⟨rfl, rfl⟩, ⟨rfl, rfl⟩⟩
theorem Try.fields35 : ∃ f0 f1 f2 f3, Try.prog.underlying 35 = some (.struct #[f0, f1, f2, f3]) ∧ (f0.type = 3 ∧ f0.offset = 0) ∧ (f1.type = 3 ∧ f1.offset = 1) ∧ (f2.type = 3 ∧ f2.offset = 2) ∧ (f3.type = 3 ∧ f3.offset = 3) :=
  ⟨_, _, _, _, Try.underlying35, ⟨rfl, rfl⟩, ⟨rfl, rfl⟩, ⟨rfl, rfl⟩, ⟨rfl, rfl⟩⟩

theorem weights_all {H : Type} {P : Program} {e : TypeId} : ∀ {ds : List (DataW H)} {d : DataW H}, d ∈ ds → ∀ n ∈ d.weights P e, n ∈ DataW.weightsAll P e ds
  | d0 :: r, d, hd, n, hn => by
    rw [DataW.weightsAll, List.mem_append]
    rcases List.mem_cons.1 hd with rfl | h
    · exact .inl hn
    · exact .inr (weights_all h n hn)

-- One configuration that came in.
set_option maxRecDepth 100000 in
theorem cfg_ok {H : Type} {enc : TypeId × Value → H} {W : World} {fuel : Nat} {cs : List Value} {x : DataW H × List MemPlace}
    (hf : DataW.trod enc Try.prog W 0 (fun _ => true) true fuel 24 cs = some x) (hs : ∀ n ∈ x.1.weights Try.prog 24, n ≤ reachBytes) :
    ∃ it : Cfg, cs = [.slice it.a it.n it.c, .int .i64 it.f, .int .i64 it.p, .int .i64 it.bu, .int .i64 it.bl, .int .i64 it.ro] ∧ CfgOk W it := by
  obtain ⟨f0, f1, f2, f3, f4, f5, hu, ⟨t0, o0⟩, ⟨t1, o1⟩, ⟨t2, o2⟩, ⟨t3, o3⟩, ⟨t4, o4⟩, ⟨t5, o5⟩⟩ := Try.fields24
  obtain ⟨xs, n, _, rfl, hl, hlen, hfs⟩ := DataW.trod_struct hu hf
  rw [Try.cells24] at hl
  match cs, hl, xs, hlen with
  | [c0, c1, c2, c3, c4, c5], _, [y0, y1, y2, y3, y4, y5], _ =>
    have h0 := hfs 0 f0 rfl
    have h1 := hfs 1 f1 rfl
    have h2 := hfs 2 f2 rfl
    have h3 := hfs 3 f3 rfl
    have h4 := hfs 4 f4 rfl
    have h5 := hfs 5 f5 rfl
    rw [t0, o0, Try.cells22] at h0
    rw [t1, o1, Try.cells3] at h1
    rw [t2, o2, Try.cells3] at h2
    rw [t3, o3, Try.cells3] at h3
    rw [t4, o4, Try.cells3] at h4
    rw [t5, o5, Try.cells3] at h5
    simp only [List.drop_zero, List.take_succ_cons, List.take_zero, List.drop_succ_cons, List.getElem?_cons_zero, List.getElem?_cons_succ] at h0 h1 h2 h3 h4 h5
    obtain ⟨n1, e1, _, w1⟩ := DataW.trod_int Try.underlying3 h1
    obtain ⟨n2, e2, _, w2⟩ := DataW.trod_int Try.underlying3 h2
    obtain ⟨n3, e3, _, w3⟩ := DataW.trod_int Try.underlying3 h3
    obtain ⟨n4, e4, _, w4⟩ := DataW.trod_int Try.underlying3 h4
    obtain ⟨n5, e5, _, w5⟩ := DataW.trod_int Try.underlying3 h5
    obtain ⟨a, l, cap, zs, e0, hzl, hle, hnu, hal⟩ := ints_sl h0 (fun w hw => hs w (by
      simp only [DataW.weights, hu]
      exact DataW.weights_mem_each (j := 0) (t := 22) (d := y0.1) (by simp [t0]) rfl w hw))
    simp at e1 e2 e3 e4 e5
    exact ⟨⟨a, l, cap, zs, n1, n2, n3, n4, n5⟩, by rw [e0, e1, e2, e3, e4, e5], hnu, hzl, hal, hle, bounds_i64 w1, bounds_i64 w2, bounds_i64 w3⟩

set_option maxRecDepth 100000 in
theorem key_ok {H : Type} {enc : TypeId × Value → H} {W : World} {fuel : Nat} {cs : List Value} {x : DataW H × List MemPlace}
    (hf : DataW.trod enc Try.prog W 0 (fun _ => true) true fuel 35 cs = some x) :
    ∃ it : Ky, cs = [.int .i64 it.kd, .int .i64 it.a, .int .i64 it.b, .int .i64 it.c] ∧ I64 it.kd ∧ I64 it.a ∧ I64 it.b ∧ I64 it.c := by
  obtain ⟨f0, f1, f2, f3, hu, ⟨t0, o0⟩, ⟨t1, o1⟩, ⟨t2, o2⟩, ⟨t3, o3⟩⟩ := Try.fields35
  obtain ⟨xs, n, _, rfl, hl, hlen, hfs⟩ := DataW.trod_struct hu hf
  rw [Try.cells35] at hl
  match cs, hl, xs, hlen with
  | [c0, c1, c2, c3], _, [y0, y1, y2, y3], _ =>
    have h0 := hfs 0 f0 rfl
    have h1 := hfs 1 f1 rfl
    have h2 := hfs 2 f2 rfl
    have h3 := hfs 3 f3 rfl
    rw [t0, o0, Try.cells3] at h0
    rw [t1, o1, Try.cells3] at h1
    rw [t2, o2, Try.cells3] at h2
    rw [t3, o3, Try.cells3] at h3
    simp only [List.drop_zero, List.take_succ_cons, List.take_zero, List.drop_succ_cons, List.getElem?_cons_zero, List.getElem?_cons_succ] at h0 h1 h2 h3
    obtain ⟨n0, e0, _, w0⟩ := DataW.trod_int Try.underlying3 h0
    obtain ⟨n1, e1, _, w1⟩ := DataW.trod_int Try.underlying3 h1
    obtain ⟨n2, e2, _, w2⟩ := DataW.trod_int Try.underlying3 h2
    obtain ⟨n3, e3, _, w3⟩ := DataW.trod_int Try.underlying3 h3
    simp at e0 e1 e2 e3
    exact ⟨⟨n0, n1, n2, n3⟩, by rw [e0, e1, e2, e3], bounds_i64 w0, bounds_i64 w1, bounds_i64 w2, bounds_i64 w3⟩

instance : Inhabited Cfg := ⟨⟨none, 0, 0, [], 0, 0, 0, 0, 0⟩⟩
instance : Inhabited Ky := ⟨⟨0, 0, 0, 0⟩⟩

theorem opened_keys (H : Type) (enc : TypeId × Value → H) (W : World) (a0 : Option Addr) (len0 cap0 : Nat) (d0 : DataW H) (p0 : List MemPlace)
    (h0 : DataW.Trod enc Try.prog W 0 (fun _ => true) true 25 (.slice a0 len0 cap0) d0 p0)
    {ts : List TypeId} {ds : List (DataW H)} (hsz : (DataW.weightsEach Try.prog ts ds).all (· ≤ reachBytes) = true) {j : Nat} (ht : ts[j]? = some 25) (hd : ds[j]? = some d0) :
    ∃ xs : List Ky, xs.length = len0 ∧ len0 ≤ 140737488351232 ∧ Keys W a0 xs ∧ ∀ x ∈ xs, I64 x.kd ∧ I64 x.a ∧ I64 x.b ∧ I64 x.c := by
  obtain ⟨fuel, hf⟩ := h0
  rcases Go.Deep.open_slice Try.underlying25 hf with ⟨hcs, _⟩ | ⟨x, l, c, m, n, D, Pl, hcs, hq, hl, hm, hmm, hx, hel⟩
  · simp [Value.cells] at hcs
    obtain ⟨rfl, rfl, rfl⟩ := hcs
    exact ⟨[], rfl, by omega, fun i x hx => by simp at hx, fun x hx => by simp at hx⟩
  · simp [Value.cells] at hcs
    obtain ⟨rfl, rfl, rfl⟩ := hcs
    simp only [if_true] at hmm
    subst hmm
    simp only [Prod.mk.injEq] at hx
    have hw : ∀ n ∈ d0.weights Try.prog 25, n ≤ reachBytes := fun n hn => by
      have := List.all_eq_true.1 hsz _ (DataW.weights_mem_each ht hd n hn)
      simpa using this
    have hb : len0 ≤ 140737488351232 := by
      have := sized_slice hsz (j := j) (t := 25) (e := 35) ht (by rw [hd, hx.1]) Try.underlying25
      rw [Try.bytes35] at this
      simp [reachBytes] at this
      omega
    rw [Try.cells35] at hel
    have key : ∀ i, i < len0 → ∃ it : Ky, W.cells? 0 (x.add (i * 4)) 4 = some [.int .i64 it.kd, .int .i64 it.a, .int .i64 it.b, .int .i64 it.c] ∧ I64 it.kd ∧ I64 it.a ∧ I64 it.b ∧ I64 it.c := by
      intro i hi
      obtain ⟨cs', hc, htr⟩ := hel i (by omega)
      obtain ⟨it, rfl, hok⟩ := key_ok htr
      exact ⟨it, hc, hok⟩
    obtain ⟨f, hfm⟩ := Go.Deep.choose_lt key
    refine ⟨(List.range len0).map f, by simp, hb, ?_, ?_⟩
    · intro i it hit
      have hi : i < len0 := by have := (List.getElem?_eq_some_iff.1 hit).1; simpa using this
      have e : f i = it := by simpa [hi] using hit
      obtain ⟨hc, _⟩ := hfm i hi
      rw [e] at hc
      have hcs := (World.cells?_some hc).2.2
      have hc0 := hcs 0 (by omega)
      have hc1 := hcs 1 (by omega)
      have hc2 := hcs 2 (by omega)
      have hc3 := hcs 3 (by omega)
      simp only [List.getElem?_cons_zero, List.getElem?_cons_succ] at hc0 hc1 hc2 hc3
      rw [Go.Deep.add_add] at hc0 hc1 hc2 hc3
      obtain ⟨b, off, spot⟩ := x
      have hspot : spot = none := by
        have h00 := (World.cells?_some (hfm 0 (by omega)).1).2.2 0 (by omega)
        simp only [List.getElem?_cons_zero] at h00
        have := World.cell?_spot h00
        simpa [Addr.add] using this
      subst hspot
      rw [addr_add] at hc0 hc1 hc2 hc3
      exact ⟨b, off, rfl, hc0, hc1, hc2, hc3⟩
    · intro it hit
      obtain ⟨i, hi, rfl⟩ := List.mem_map.1 hit
      exact (hfm i (List.mem_range.1 hi)).2

end Go.Proofs.Ytpapbleabjpbfab
