import Derived.Test.YtphiokehcgbldaaOa
import Derived.ProofKit
import Derived.OpenShut
import Derived.ShutString
import Derived.ChangeOld
import Derived.SizedLaws
import Derived.Deep.Slices
namespace Go.Proofs.Ytphiokehcgbldaa
open Go.ChangeShapes Go.WideShapes Go.ChangeAt Go.RowKit
open Go.ChangeMaps (open_string shut_string)
set_option linter.unusedVariables false
set_option linter.unusedSimpArgs false

theorem own : ownKnob Try.prog.godebug = none := by kernel_rfl
theorem laidOut : laidOutB Try.prog = true := by kernel_rfl
theorem Try.und4 : Try.prog.underlying 4 = some .bool := by kernel_rfl
theorem Try.und5 : Try.prog.underlying 5 = some (.int .u8) := by kernel_rfl
theorem Try.und35 : Try.prog.underlying 35 = some (.slice 5) := by kernel_rfl
theorem Try.und22 : Try.prog.underlying 22 = some (.slice 37) := by kernel_rfl
theorem Try.und59 : Try.prog.underlying 59 = some (.slice 35) := by kernel_rfl
theorem Try.bytes5 : Try.prog.bytesOf 5 = 1 := by kernel_rfl
theorem Try.bytes37 : Try.prog.bytesOf 37 = 72 := by kernel_rfl
theorem Try.bytes35 : Try.prog.bytesOf 35 = 24 := by kernel_rfl
theorem Try.cells3 : Try.prog.cellsOf 3 = 1 := by kernel_rfl
theorem Try.cells4 : Try.prog.cellsOf 4 = 1 := by kernel_rfl
theorem Try.cells34 : Try.prog.cellsOf 34 = 2 := by kernel_rfl
theorem Try.cells35 : Try.prog.cellsOf 35 = 1 := by kernel_rfl
theorem Try.cells37 : Try.prog.cellsOf 37 = 7 := by kernel_rfl
theorem Try.fields34 : ∃ f0 f1, Try.prog.underlying 34 = some (.struct #[f0, f1]) ∧ (f0.type = 4 ∧ f0.offset = 0) ∧ (f1.type = 3 ∧ f1.offset = 1) :=
  ⟨_, _, Try.underlying34, ⟨rfl, rfl⟩, ⟨rfl, rfl⟩⟩
theorem Try.fields37 : ∃ f0 f1 f2 f3 f4, Try.prog.underlying 37 = some (.struct #[f0, f1, f2, f3, f4]) ∧ (f0.type = 3 ∧ f0.offset = 0) ∧ (f1.type = 34 ∧ f1.offset = 1) ∧ (f2.type = 34 ∧ f2.offset = 3) ∧ (f3.type = 3 ∧ f3.offset = 5) ∧ (f4.type = 35 ∧ f4.offset = 6) :=
  ⟨_, _, _, _, _, Try.underlying37, ⟨rfl, rfl⟩, ⟨rfl, rfl⟩, ⟨rfl, rfl⟩, ⟨rfl, rfl⟩, ⟨rfl, rfl⟩⟩

/-- Bytes in memory that came in, somewhere. -/
theorem bytes_sl {H : Type} {enc : TypeId × Value → H} {W : World} {fuel : Nat} {c : Value} {x : DataW H × List MemPlace}
    (hf : DataW.trod enc Try.prog W 0 (fun _ => true) true fuel 35 [c] = some x) (hs : ∀ n ∈ x.1.weights Try.prog 35, n ≤ reachBytes) :
    ∃ a m cap zs, c = .slice a m cap ∧ zs.length = m ∧ m ≤ cap ∧ cap ≤ 140737488351232 ∧ Bytes W a zs ∧ (a = none → m = 0 ∧ cap = 0) := by
  rcases open_ints Try.und35 Try.und5 (by kernel_rfl) hf with ⟨hcs, _⟩ | ⟨y, l, cap, zs, hcs, hq, hl, hm, hz, hx, hcell, hwz⟩
  · simp at hcs
    exact ⟨none, 0, 0, [], hcs, rfl, by omega, by omega, Nums.nil _ _ _, fun _ => ⟨rfl, rfl⟩⟩
  · simp at hcs
    have hz' : zs.length = cap := by simpa using hz
    have hb : cap ≤ 140737488351232 := by
      have := hs ((l + (zs.length - l)) * Try.prog.bytesOf 5) (by
        rw [hx]; simp only [DataW.weights, Try.und35]
        refine List.mem_cons.2 (.inl ?_)
        simp only [lits, List.length_map, List.length_take, List.length_drop]
        rw [Nat.min_eq_left (by omega)])
      rw [Try.bytes5] at this
      simp only [reachBytes] at this
      omega
    refine ⟨_, _, _, zs.take l, hcs, by simp; omega, hl, by omega, ?_, fun e => by cases e⟩
    intro i hi
    simp only [List.length_take] at hi
    obtain ⟨b, off, rfl, hc⟩ := ints_at hcell (by omega)
    refine ⟨b, off, rfl, ?_⟩
    rw [List.getElem?_take, if_pos (by omega), hc i (by omega)]
    simp

theorem weights_all {H : Type} {P : Program} {e : TypeId} : ∀ {ds : List (DataW H)} {d : DataW H}, d ∈ ds → ∀ n ∈ d.weights P e, n ∈ DataW.weightsAll P e ds
  | d0 :: r, d, hd, n, hn => by
    rw [DataW.weightsAll, List.mem_append]
    rcases List.mem_cons.1 hd with rfl | h
    · exact .inl hn
    · exact .inr (weights_all h n hn)

set_option maxRecDepth 100000 in
theorem addr_ok {H : Type} {enc : TypeId × Value → H} {W : World} {fuel : Nat} {cs : List Value} {x : DataW H × List MemPlace}
    (hf : DataW.trod enc Try.prog W 0 (fun _ => true) true fuel 34 cs = some x) : ∃ a : Ad, cs = [.bool a.1, .int .i64 a.2] := by
  obtain ⟨f0, f1, hu, ⟨t0, o0⟩, ⟨t1, o1⟩⟩ := Try.fields34
  obtain ⟨xs, n, _, rfl, hl, hlen, hfs⟩ := DataW.trod_struct hu hf
  rw [Try.cells34] at hl
  match cs, hl, xs, hlen with
  | [c0, c1], _, [y0, y1], _ =>
    have h0 := hfs 0 f0 rfl
    have h1 := hfs 1 f1 rfl
    rw [t0, o0, Try.cells4] at h0
    rw [t1, o1, Try.cells3] at h1
    simp only [List.drop_zero, List.take_succ_cons, List.take_zero, List.drop_succ_cons, List.getElem?_cons_zero, List.getElem?_cons_succ] at h0 h1
    obtain ⟨n0, e0, _⟩ := DataW.trod_bool Try.und4 h0
    obtain ⟨n1, e1, _, w1⟩ := DataW.trod_int Try.und3 h1
    simp at e0 e1
    exact ⟨(n0, n1), by rw [e0, e1]⟩

set_option maxRecDepth 100000 in
theorem step_ok {H : Type} {enc : TypeId × Value → H} {W : World} {fuel : Nat} {cs : List Value} {x : DataW H × List MemPlace}
    (hf : DataW.trod enc Try.prog W 0 (fun _ => true) true fuel 37 cs = some x) (hs : ∀ n ∈ x.1.weights Try.prog 37, n ≤ reachBytes) :
    ∃ it : St, cs = it.cs ∧ StOk W it := by
  obtain ⟨f0, f1, f2, f3, f4, hu, ⟨t0, o0⟩, ⟨t1, o1⟩, ⟨t2, o2⟩, ⟨t3, o3⟩, ⟨t4, o4⟩⟩ := Try.fields37
  obtain ⟨xs, n, _, rfl, hl, hlen, hfs⟩ := DataW.trod_struct hu hf
  rw [Try.cells37] at hl
  match cs, hl, xs, hlen with
  | [c0, c1, c2, c3, c4, c5, c6], _, [y0, y1, y2, y3, y4], _ =>
    have h0 := hfs 0 f0 rfl
    have h1 := hfs 1 f1 rfl
    have h2 := hfs 2 f2 rfl
    have h3 := hfs 3 f3 rfl
    have h4 := hfs 4 f4 rfl
    rw [t0, o0, Try.cells3] at h0
    rw [t1, o1, Try.cells34] at h1
    rw [t2, o2, Try.cells34] at h2
    rw [t3, o3, Try.cells3] at h3
    rw [t4, o4, Try.cells35] at h4
    simp only [List.drop_zero, List.take_succ_cons, List.take_zero, List.drop_succ_cons, List.getElem?_cons_zero, List.getElem?_cons_succ] at h0 h1 h2 h3 h4
    obtain ⟨k, e0, _, _⟩ := DataW.trod_int Try.und3 h0
    obtain ⟨f, e1⟩ := addr_ok h1
    obtain ⟨t, e2⟩ := addr_ok h2
    obtain ⟨c, e3, _, _⟩ := DataW.trod_int Try.und3 h3
    obtain ⟨a, l, cap, zs, e4, hzl, hle, hle2, hnu, hnil⟩ := bytes_sl h4 (fun w hw => hs w (by
      simp only [DataW.weights, hu]
      exact DataW.weights_mem_each (j := 4) (t := 35) (d := y4.1) (by simp [t4]) rfl w hw))
    simp at e0 e1 e2 e3
    refine ⟨⟨k, f, t, c, a, l, cap, zs⟩, ?_, hnu, hzl, ?_⟩
    · rw [e0, e1.1, e1.2, e2.1, e2.2, e3, e4]; rfl
    · show l ≤ _; omega

theorem opened_steps (H : Type) (enc : TypeId × Value → H) (W : World) (a0 : Option Addr) (len0 cap0 : Nat) (d0 : DataW H) (p0 : List MemPlace)
    (h0 : DataW.Trod enc Try.prog W 0 (fun _ => true) true 22 (.slice a0 len0 cap0) d0 p0)
    {ts : List TypeId} {ds : List (DataW H)} (hsz : (DataW.weightsEach Try.prog ts ds).all (· ≤ reachBytes) = true) {j : Nat} (ht : ts[j]? = some 22) (hd : ds[j]? = some d0) :
    ∃ xs : List St, xs.length = len0 ∧ len0 ≤ 140737488351232 ∧ Sts W a0 xs ∧ ∀ x ∈ xs, StOk W x := by
  obtain ⟨fuel, hf⟩ := h0
  rcases Go.Deep.open_slice Try.und22 hf with ⟨hcs, _⟩ | ⟨x, l, c, m, n, D, Pl, hcs, hq, hl, hm, hmm, hx, hel⟩
  · simp [Value.cells] at hcs
    obtain ⟨rfl, rfl, rfl⟩ := hcs
    exact ⟨[], rfl, by omega, fun i x hx => by simp at hx, fun x hx => by simp at hx⟩
  · simp [Value.cells] at hcs
    obtain ⟨rfl, rfl, rfl⟩ := hcs
    simp only [if_true] at hmm
    subst hmm
    simp only [Prod.mk.injEq] at hx
    have hw : ∀ n ∈ d0.weights Try.prog 22, n ≤ reachBytes := fun n hn => by
      have := List.all_eq_true.1 hsz _ (DataW.weights_mem_each ht hd n hn)
      simpa using this
    have hb : len0 ≤ 140737488351232 := by
      have := sized_slice hsz (j := j) (t := 22) (e := 37) ht (by rw [hd, hx.1]) Try.und22
      rw [Try.bytes37] at this
      simp [reachBytes] at this
      omega
    rw [Try.cells37] at hel
    have key : ∀ i, i < len0 → ∃ it : St, W.cells? 0 (x.add (i * 7)) 7 = some it.cs ∧ StOk W it := by
      intro i hi
      obtain ⟨cs', hc, htr⟩ := hel i (by omega)
      obtain ⟨it, rfl, hok⟩ := step_ok htr (fun n hn => hw n (by
        rw [hx.1]; simp only [DataW.weights, Try.und22]
        refine List.mem_cons_of_mem _ (List.mem_append.2 (.inl (weights_all (d := D i) ?_ n hn)))
        exact List.mem_map.2 ⟨i, List.mem_range.2 hi, rfl⟩))
      exact ⟨it, hc, hok⟩
    obtain ⟨f, hfm⟩ := Go.Deep.choose_lt key
    refine ⟨(List.range len0).map f, by simp, hb, ?_, ?_⟩
    · intro i it hit
      have hi : i < len0 := by have := (List.getElem?_eq_some_iff.1 hit).1; simpa using this
      have e : f i = it := by simpa [hi] using hit
      obtain ⟨hc, _⟩ := hfm i hi
      rw [e] at hc
      have hcs := (World.cells?_some hc).2.2
      obtain ⟨b, off, spot⟩ := x
      have hspot : spot = none := by
        have h00 := (World.cells?_some (hfm 0 (by omega)).1).2.2 0 (by omega)
        simp only [St.cs, List.getElem?_cons_zero] at h00
        have := World.cell?_spot h00
        simpa [Addr.add] using this
      subst hspot
      refine ⟨b, off, rfl, fun j u hu => ?_⟩
      have hj : j < 7 := (List.getElem?_eq_some_iff.1 hu).1
      have h := hcs j hj
      rw [Go.Deep.add_add, addr_add] at h
      rw [Nat.add_assoc, h]
      exact hu
    · intro it hit
      obtain ⟨i, hi, rfl⟩ := List.mem_map.1 hit
      exact (hfm i (List.mem_range.1 hi)).2
end Go.Proofs.Ytphiokehcgbldaa
