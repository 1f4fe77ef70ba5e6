import Derived.Test.YtmhjbkpojndhkabBa
import Derived.ProofKit
import Derived.OpenShut
import Derived.ShutString
import Derived.ChangeOld
import Derived.SizedLaws
import Derived.SliceStrings
import Derived.Deep.Slices
namespace Go.Proofs.Ytmhjbkpojndhkab
open Go.ChangeShapes Go.WideShapes Go.ChangeAt Go.RowKit
open Go.ChangeMaps (open_string shut_string)
set_option linter.unusedVariables false

theorem own : ownKnob Try.prog.godebug = none := by kernel_rfl
theorem laidOut : laidOutB Try.prog = true := by kernel_rfl
theorem Try.und4 : Try.prog.underlying 4 = some .bool := by kernel_rfl
theorem Try.und9 : Try.prog.underlying 9 = some .string := by kernel_rfl
theorem Try.und23 : Try.prog.underlying 23 = some (.slice 35) := by kernel_rfl
theorem Try.und95 : Try.prog.underlying 95 = some (.slice 57) := by kernel_rfl
theorem Try.bytes3 : Try.prog.bytesOf 3 = 8 := by kernel_rfl
theorem Try.bytes35 : Try.prog.bytesOf 35 = 24 := by kernel_rfl
theorem Try.bytes57 : Try.prog.bytesOf 57 = 16 := by kernel_rfl
theorem Try.cells3 : Try.prog.cellsOf 3 = 1 := by kernel_rfl
theorem Try.cells4 : Try.prog.cellsOf 4 = 1 := by kernel_rfl
theorem Try.cells35 : Try.prog.cellsOf 35 = 3 := by kernel_rfl
theorem Try.cells57 : Try.prog.cellsOf 57 = 2 := by kernel_rfl
theorem Try.fields35 : ∃ f0 f1 f2, Try.prog.underlying 35 = some (.struct #[f0, f1, f2]) ∧ (f0.type = 3 ∧ f0.offset = 0) ∧ (f1.type = 3 ∧ f1.offset = 1) ∧ (f2.type = 4 ∧ f2.offset = 2) :=
  ⟨⟨"Server", 3, 0, false, "", "", 0⟩, ⟨"Value", 3, 1, false, "", "", 8⟩, ⟨"Look", 4, 2, false, "", "", 16⟩, by kernel_rfl, ⟨rfl, rfl⟩, ⟨rfl, rfl⟩, ⟨rfl, rfl⟩⟩
theorem Try.fields57 : ∃ f0 f1, Try.prog.underlying 57 = some (.struct #[f0, f1]) ∧ (f0.type = 3 ∧ f0.offset = 0) ∧ (f1.type = 3 ∧ f1.offset = 1) :=
  ⟨⟨"N", 3, 0, false, "", "", 0⟩, ⟨"Client", 3, 1, false, "", "", 8⟩, by kernel_rfl, ⟨rfl, rfl⟩, ⟨rfl, rfl⟩⟩
def AllI (zs : List Int) : Prop := ∀ i : Nat, I64 (zs[i]?.getD 0)

theorem opened_ints (H : Type) (enc : TypeId × Value → H) (W : World) (a0 : Option Addr) (len0 cap0 : Nat) (d0 : DataW H) (p0 : List MemPlace)
    (h0 : DataW.Trod enc Try.prog W 0 (fun _ => true) true 22 (.slice a0 len0 cap0) d0 p0)
    {ts : List TypeId} {ds : List (DataW H)} (hsz : (DataW.weightsEach Try.prog ts ds).all (· ≤ reachBytes) = true) {j : Nat} (ht : ts[j]? = some 22) (hd : ds[j]? = some d0) :
    ∃ zs : List Int, zs.length = len0 ∧ len0 ≤ 17592186043904 ∧ Nums .i64 W a0 zs ∧ AllI zs := by
  obtain ⟨fuel, hf⟩ := h0
  rcases open_ints Try.und22 Try.und3 (by kernel_rfl) hf with ⟨hcs, _⟩ | ⟨x, l, c, zs, hcs, hq, hl, hm, hz, hx, hcell, hwz⟩
  · simp [Value.cells] at hcs
    obtain ⟨rfl, rfl, rfl⟩ := hcs
    exact ⟨[], rfl, by omega, Nums.nil _ _ _, fun i => by simp [I64]⟩
  · simp [Value.cells] at hcs
    obtain ⟨rfl, rfl, rfl⟩ := hcs
    have hz' : zs.length = cap0 := by simpa using hz
    have hb : len0 ≤ 17592186043904 := by
      simp only [Prod.mk.injEq] at hx
      have := sized_slice hsz (j := j) (t := 22) (e := 3) ht (by rw [hd, hx.1]) Try.und22
      rw [Try.bytes3] at this
      simp [lits, reachBytes] at this
      omega
    refine ⟨zs.take len0, by simp; omega, hb, ?_, ?_⟩
    · intro i hi
      simp only [List.length_take] at hi
      obtain ⟨b, off, rfl, hc⟩ := ints_at hcell (by omega)
      refine ⟨b, off, rfl, ?_⟩
      rw [List.getElem?_take, if_pos (by omega), hc i (by omega)]
      simp
    · intro i
      rw [List.getElem?_take]
      split
      · exact range_i64 hwz i
      · simp [I64]

/-- A vote; a row of them. -/
structure Vo where
  s : Int
  v : Int
  l : Bool
instance : Inhabited Vo := ⟨⟨0, 0, false⟩⟩
def vAt (vs : List Vo) (i : Nat) : Vo := vs[i]?.getD default
def Vts (W : World) (a : Option Addr) (vs : List Vo) : Prop :=
  ∀ i, i < vs.length → ∃ b off, a = some ⟨b, off, none⟩ ∧ W.cell? ⟨b, off + i * 3, none⟩ = some (.int .i64 (vAt vs i).s) ∧ W.cell? ⟨b, off + i * 3 + 1, none⟩ = some (.int .i64 (vAt vs i).v) ∧ W.cell? ⟨b, off + i * 3 + 2, none⟩ = some (.bool (vAt vs i).l)
theorem Vts.no {w w' : World} {a : Option Addr} {vs : List Vo} (h : Vts w a vs) (hk : Kept No w w') : Vts w' a vs := fun i hi => by
  obtain ⟨b, off, e, h1, h2, h3⟩ := h i hi
  exact ⟨b, off, e, hk.cell h1 (fun e => e), hk.cell h2 (fun e => e), hk.cell h3 (fun e => e)⟩

set_option maxRecDepth 100000 in
theorem vote_ok {H : Type} {enc : TypeId × Value → H} {W : World} {fuel : Nat} {cs : List Value} {x : DataW H × List MemPlace}
    (hf : DataW.trod enc Try.prog W 0 (fun _ => true) true fuel 35 cs = some x) :
    ∃ it : Vo, cs = [.int .i64 it.s, .int .i64 it.v, .bool it.l] ∧ I64 it.s ∧ I64 it.v := by
  obtain ⟨f0, f1, f2, hu, ⟨t0, o0⟩, ⟨t1, o1⟩, ⟨t2, o2⟩⟩ := Try.fields35
  obtain ⟨xs, n, _, rfl, hl, hlen, hfs⟩ := DataW.trod_struct hu hf
  rw [Try.cells35] at hl
  match cs, hl, xs, hlen with
  | [c0, c1, c2], _, [y0, y1, y2], _ =>
    have h0 := hfs 0 f0 rfl
    have h1 := hfs 1 f1 rfl
    have h2 := hfs 2 f2 rfl
    rw [t0, o0, Try.cells3] at h0
    rw [t1, o1, Try.cells3] at h1
    rw [t2, o2, Try.cells4] at h2
    simp only [List.drop_zero, List.take_succ_cons, List.take_zero, List.drop_succ_cons, List.getElem?_cons_zero, List.getElem?_cons_succ] at h0 h1 h2
    obtain ⟨n0, e0, _, w0⟩ := DataW.trod_int Try.und3 h0
    obtain ⟨n1, e1, _, w1⟩ := DataW.trod_int Try.und3 h1
    obtain ⟨n2, e2, _⟩ := DataW.trod_bool Try.und4 h2
    simp at e0 e1 e2
    exact ⟨⟨n0, n1, n2⟩, by rw [e0, e1, e2], bounds_i64 w0, bounds_i64 w1⟩

theorem opened_votes (H : Type) (enc : TypeId × Value → H) (W : World) (a0 : Option Addr) (len0 cap0 : Nat) (d0 : DataW H) (p0 : List MemPlace)
    (h0 : DataW.Trod enc Try.prog W 0 (fun _ => true) true 23 (.slice a0 len0 cap0) d0 p0)
    {ts : List TypeId} {ds : List (DataW H)} (hsz : (DataW.weightsEach Try.prog ts ds).all (· ≤ reachBytes) = true) {j : Nat} (ht : ts[j]? = some 23) (hd : ds[j]? = some d0) :
    ∃ xs : List Vo, xs.length = len0 ∧ len0 ≤ 5864062014634 ∧ Vts W a0 xs ∧ ∀ x ∈ xs, I64 x.s ∧ I64 x.v := by
  obtain ⟨fuel, hf⟩ := h0
  rcases Go.Deep.open_slice Try.und23 hf with ⟨hcs, _⟩ | ⟨x, l, c, m, n, D, Pl, hcs, hq, hl, hm, hmm, hx, hel⟩
  · simp [Value.cells] at hcs
    obtain ⟨rfl, rfl, rfl⟩ := hcs
    exact ⟨[], rfl, by omega, fun i hi => absurd hi (Nat.not_lt_zero _), fun x hx => by simp at hx⟩
  · simp [Value.cells] at hcs
    obtain ⟨rfl, rfl, rfl⟩ := hcs
    simp only [if_true] at hmm
    subst hmm
    simp only [Prod.mk.injEq] at hx
    have hb : len0 ≤ 5864062014634 := by
      have := sized_slice hsz (j := j) (t := 23) (e := 35) ht (by rw [hd, hx.1]) Try.und23
      rw [Try.bytes35] at this
      simp [reachBytes] at this
      omega
    rw [Try.cells35] at hel
    have key : ∀ i, i < len0 → ∃ it : Vo, W.cells? 0 (x.add (i * 3)) 3 = some [.int .i64 it.s, .int .i64 it.v, .bool it.l] ∧ I64 it.s ∧ I64 it.v := by
      intro i hi
      obtain ⟨cs', hc, htr⟩ := hel i (by omega)
      obtain ⟨it, rfl, hok⟩ := vote_ok htr
      exact ⟨it, hc, hok⟩
    obtain ⟨f, hfm⟩ := Go.Deep.choose_lt key
    refine ⟨(List.range len0).map f, by simp, hb, ?_, ?_⟩
    · intro i hi
      have hi : i < len0 := by simpa using hi
      have e : vAt ((List.range len0).map f) i = f i := by simp [vAt, hi]
      rw [e]
      obtain ⟨hc, _⟩ := hfm i hi
      have hcs := (World.cells?_some hc).2.2
      have hc0 := hcs 0 (by omega)
      have hc1 := hcs 1 (by omega)
      have hc2 := hcs 2 (by omega)
      simp only [List.getElem?_cons_zero, List.getElem?_cons_succ] at hc0 hc1 hc2
      rw [Go.Deep.add_add] at hc0 hc1 hc2
      obtain ⟨b, off, spot⟩ := x
      have hspot : spot = none := by
        have h00 := (World.cells?_some (hfm 0 (by omega)).1).2.2 0 (by omega)
        simp only [List.getElem?_cons_zero] at h00
        have := World.cell?_spot h00
        simpa [Addr.add] using this
      subst hspot
      rw [addr_add] at hc0 hc1 hc2
      exact ⟨b, off, rfl, hc0, hc1, hc2⟩
    · intro it hit
      obtain ⟨i, hi, rfl⟩ := List.mem_map.1 hit
      exact (hfm i (List.mem_range.1 hi)).2

/-- A row of stamps. -/
def pAt (ps : List (Int × Int)) (i : Nat) : Int × Int := ps[i]?.getD (0, 0)
def Sts (W : World) (a : Option Addr) (ps : List (Int × Int)) : Prop :=
  ∀ i, i < ps.length → ∃ b off, a = some ⟨b, off, none⟩ ∧ W.cell? ⟨b, off + i * 2, none⟩ = some (.int .i64 (pAt ps i).1) ∧ W.cell? ⟨b, off + i * 2 + 1, none⟩ = some (.int .i64 (pAt ps i).2)
theorem Sts.no {w w' : World} {a : Option Addr} {vs : List (Int × Int)} (h : Sts w a vs) (hk : Kept No w w') : Sts w' a vs := fun i hi => by
  obtain ⟨b, off, e, h1, h2⟩ := h i hi
  exact ⟨b, off, e, hk.cell h1 (fun e => e), hk.cell h2 (fun e => e)⟩

set_option maxRecDepth 100000 in
theorem stamp_ok {H : Type} {enc : TypeId × Value → H} {W : World} {fuel : Nat} {cs : List Value} {x : DataW H × List MemPlace}
    (hf : DataW.trod enc Try.prog W 0 (fun _ => true) true fuel 57 cs = some x) :
    ∃ it : Int × Int, cs = [.int .i64 it.1, .int .i64 it.2] := by
  obtain ⟨f0, f1, hu, ⟨t0, o0⟩, ⟨t1, o1⟩⟩ := Try.fields57
  obtain ⟨xs, n, _, rfl, hl, hlen, hfs⟩ := DataW.trod_struct hu hf
  rw [Try.cells57] at hl
  match cs, hl, xs, hlen with
  | [c0, c1], _, [y0, y1], _ =>
    have h0 := hfs 0 f0 rfl
    have h1 := hfs 1 f1 rfl
    rw [t0, o0, Try.cells3] at h0
    rw [t1, o1, Try.cells3] at h1
    simp only [List.drop_zero, List.take_succ_cons, List.take_zero, List.drop_succ_cons, List.getElem?_cons_zero, List.getElem?_cons_succ] at h0 h1
    obtain ⟨n0, e0, _, w0⟩ := DataW.trod_int Try.und3 h0
    obtain ⟨n1, e1, _, w1⟩ := DataW.trod_int Try.und3 h1
    simp at e0 e1
    exact ⟨(n0, n1), by rw [e0, e1]⟩

theorem opened_stamps (H : Type) (enc : TypeId × Value → H) (W : World) (a0 : Option Addr) (len0 cap0 : Nat) (d0 : DataW H) (p0 : List MemPlace)
    (h0 : DataW.Trod enc Try.prog W 0 (fun _ => true) true 95 (.slice a0 len0 cap0) d0 p0)
    {ts : List TypeId} {ds : List (DataW H)} (hsz : (DataW.weightsEach Try.prog ts ds).all (· ≤ reachBytes) = true) {j : Nat} (ht : ts[j]? = some 95) (hd : ds[j]? = some d0) :
    ∃ xs : List (Int × Int), xs.length = len0 ∧ len0 ≤ 8796093021952 ∧ Sts W a0 xs := by
  obtain ⟨fuel, hf⟩ := h0
  rcases Go.Deep.open_slice Try.und95 hf with ⟨hcs, _⟩ | ⟨x, l, c, m, n, D, Pl, hcs, hq, hl, hm, hmm, hx, hel⟩
  · simp [Value.cells] at hcs
    obtain ⟨rfl, rfl, rfl⟩ := hcs
    exact ⟨[], rfl, by omega, fun i hi => absurd hi (Nat.not_lt_zero _)⟩
  · simp [Value.cells] at hcs
    obtain ⟨rfl, rfl, rfl⟩ := hcs
    simp only [if_true] at hmm
    subst hmm
    simp only [Prod.mk.injEq] at hx
    have hb : len0 ≤ 8796093021952 := by
      have := sized_slice hsz (j := j) (t := 95) (e := 57) ht (by rw [hd, hx.1]) Try.und95
      rw [Try.bytes57] at this
      simp [reachBytes] at this
      omega
    rw [Try.cells57] at hel
    have key : ∀ i, i < len0 → ∃ it : Int × Int, W.cells? 0 (x.add (i * 2)) 2 = some [.int .i64 it.1, .int .i64 it.2] := by
      intro i hi
      obtain ⟨cs', hc, htr⟩ := hel i (by omega)
      obtain ⟨it, rfl⟩ := stamp_ok htr
      exact ⟨it, hc⟩
    obtain ⟨f, hfm⟩ := Go.Deep.choose_lt key
    refine ⟨(List.range len0).map f, by simp, hb, ?_⟩
    intro i hi
    have hi : i < len0 := by simpa using hi
    have e : pAt ((List.range len0).map f) i = f i := by simp [pAt, hi]
    rw [e]
    have hc := hfm i hi
    have hcs := (World.cells?_some hc).2.2
    have hc0 := hcs 0 (by omega)
    have hc1 := hcs 1 (by omega)
    simp only [List.getElem?_cons_zero, List.getElem?_cons_succ] at hc0 hc1
    rw [Go.Deep.add_add] at hc0 hc1
    obtain ⟨b, off, spot⟩ := x
    have hspot : spot = none := by
      have h00 := (World.cells?_some (hfm 0 (by omega))).2.2 0 (by omega)
      simp only [List.getElem?_cons_zero] at h00
      have := World.cell?_spot h00
      simpa [Addr.add] using this
    subst hspot
    rw [addr_add] at hc0 hc1
    exact ⟨b, off, rfl, hc0, hc1⟩

end Go.Proofs.Ytmhjbkpojndhkab
