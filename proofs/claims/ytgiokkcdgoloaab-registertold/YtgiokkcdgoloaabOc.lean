import Derived.Test.YtgiokkcdgoloaabCl
import Derived.ProofKit
import Derived.OpenShut
import Derived.ShutString
import Derived.ChangeOld
import Derived.SizedLaws
import Derived.Deep.Slices
namespace Go.Proofs.Ytgiokkcdgoloaab
open Go.ChangeShapes Go.WideShapes Go.ChangeAt Go.RowKit
open Go.ChangeMaps (open_string shut_string)
set_option linter.unusedVariables false
set_option linter.unusedSimpArgs false

theorem own : ownKnob Try.prog.godebug = none := by kernel_rfl
theorem laidOut : laidOutB Try.prog = true := by kernel_rfl
theorem Try.und4 : Try.prog.underlying 4 = some .bool := by kernel_rfl
theorem Try.und5 : Try.prog.underlying 5 = some (.int .u8) := by kernel_rfl
theorem Try.und22 : Try.prog.underlying 22 = some (.slice 5) := by kernel_rfl
theorem Try.und165 : Try.prog.underlying 165 = some (.slice 31) := by kernel_rfl
theorem Try.bytes5 : Try.prog.bytesOf 5 = 1 := by kernel_rfl
theorem Try.bytes31 : Try.prog.bytesOf 31 = 40 := by kernel_rfl
theorem Try.cells3 : Try.prog.cellsOf 3 = 1 := by kernel_rfl
theorem Try.cells22 : Try.prog.cellsOf 22 = 1 := by kernel_rfl
theorem Try.cells29 : Try.prog.cellsOf 29 = 2 := by kernel_rfl
theorem Try.cells31 : Try.prog.cellsOf 31 = 3 := by kernel_rfl
theorem Try.fields29 : ∃ f0 f1, Try.prog.underlying 29 = some (.struct #[f0, f1]) ∧ (f0.type = 3 ∧ f0.offset = 0) ∧ (f1.type = 3 ∧ f1.offset = 1) :=
  ⟨_, _, Try.underlying29, ⟨rfl, rfl⟩, ⟨rfl, rfl⟩⟩
theorem Try.fields31 : ∃ f0 f1, Try.prog.underlying 31 = some (.struct #[f0, f1]) ∧ (f0.type = 29 ∧ f0.offset = 0) ∧ (f1.type = 22 ∧ f1.offset = 2) :=
  ⟨_, _, Try.underlying31, ⟨rfl, rfl⟩, ⟨rfl, rfl⟩⟩

/-- A block that came in. -/
structure Bl where
  n : Int
  c : Int
  a : Option Addr
  l : Nat
  k : Nat
  bs : List Int
instance : Inhabited Bl := ⟨⟨0, 0, none, 0, 0, []⟩⟩
def Bl.cs (b : Bl) : List Value := [.int .i64 b.n, .int .i64 b.c, .slice b.a b.l b.k]
structure BlOk (w : World) (b : Bl) : Prop where
  nums : Bytes w b.a b.bs
  len : b.bs.length = b.l
  cap : b.l ≤ b.k
  big : b.k ≤ 140737488351232
  u8 : U8 b.bs
  nil : b.a = none → b.l = 0 ∧ b.k = 0
def Bls (w : World) (a : Option Addr) (xs : List Bl) : Prop :=
  ∀ (i : Nat) it, xs[i]? = some it → ∃ b off, a = some ⟨b, off, none⟩ ∧ w.cell? ⟨b, off + i * 3, none⟩ = some (.int .i64 it.n) ∧ w.cell? ⟨b, off + i * 3 + 1, none⟩ = some (.int .i64 it.c) ∧ w.cell? ⟨b, off + i * 3 + 2, none⟩ = some (.slice it.a it.l it.k)
theorem Bls.no {w w' : World} {a : Option Addr} {xs : List Bl} (h : Bls w a xs) (hk : Kept No w w') : Bls w' a xs := by
  intro i it hi
  obtain ⟨b, off, e, c0, c1, c2⟩ := h i it hi
  exact ⟨b, off, e, hk.cell c0 (fun e => e), hk.cell c1 (fun e => e), hk.cell c2 (fun e => e)⟩
theorem BlOk.no {w w' : World} {it : Bl} (h : BlOk w it) (hk : Kept No w w') : BlOk w' it := ⟨h.nums.no hk, h.len, h.cap, h.big, h.u8, h.nil⟩

/-- Bytes in memory that came in, somewhere. -/
theorem bytes_sl {H : Type} {enc : TypeId × Value → H} {W : World} {fuel : Nat} {c : Value} {x : DataW H × List MemPlace}
    (hf : DataW.trod enc Try.prog W 0 (fun _ => true) true fuel 22 [c] = some x) (hs : ∀ n ∈ x.1.weights Try.prog 22, n ≤ reachBytes) :
    ∃ a m cap zs, c = .slice a m cap ∧ zs.length = m ∧ m ≤ cap ∧ cap ≤ 140737488351232 ∧ Bytes W a zs ∧ U8 zs ∧ (a = none → m = 0 ∧ cap = 0) := by
  rcases open_ints Try.und22 Try.und5 (by kernel_rfl) hf with ⟨hcs, _⟩ | ⟨y, l, cap, zs, hcs, hq, hl, hm, hz, hx, hcell, hwz⟩
  · simp at hcs
    exact ⟨none, 0, 0, [], hcs, rfl, by omega, by omega, Nums.nil _ _ _, fun i => by simp, fun _ => ⟨rfl, rfl⟩⟩
  · simp at hcs
    have hz' : zs.length = cap := by simpa using hz
    have hb : cap ≤ 140737488351232 := by
      have := hs ((l + (zs.length - l)) * Try.prog.bytesOf 5) (by
        rw [hx]; simp only [DataW.weights, Try.und22]
        refine List.mem_cons.2 (.inl ?_)
        simp only [lits, List.length_map, List.length_take, List.length_drop]
        rw [Nat.min_eq_left (by omega)])
      rw [Try.bytes5] at this
      simp only [reachBytes] at this
      omega
    refine ⟨_, _, _, zs.take l, hcs, by simp; omega, hl, by omega, ?_, U8.take (fun i => range_u8 hwz i) _, fun e => by cases e⟩
    intro i hi
    simp only [List.length_take] at hi
    obtain ⟨b, off, rfl, hc⟩ := ints_at hcell (by omega)
    refine ⟨b, off, rfl, ?_⟩
    rw [List.getElem?_take, if_pos (by omega), hc i (by omega)]
    simp

theorem weights_all {H : Type} {P : Program} {e : TypeId} : ∀ {ds : List (DataW H)} {d : DataW H}, d ∈ ds → ∀ n ∈ d.weights P e, n ∈ DataW.weightsAll P e ds
  | d0 :: r, d, hd, n, hn => by
    rw [DataW.weightsAll, List.mem_append]
    rcases List.mem_cons.1 hd with rfl | h
    · exact .inl hn
    · exact .inr (weights_all h n hn)

set_option maxRecDepth 100000 in
theorem stamp_ok {H : Type} {enc : TypeId × Value → H} {W : World} {fuel : Nat} {cs : List Value} {x : DataW H × List MemPlace}
    (hf : DataW.trod enc Try.prog W 0 (fun _ => true) true fuel 29 cs = some x) : ∃ n c : Int, cs = [.int .i64 n, .int .i64 c] := by
  obtain ⟨f0, f1, hu, ⟨t0, o0⟩, ⟨t1, o1⟩⟩ := Try.fields29
  obtain ⟨xs, n, _, rfl, hl, hlen, hfs⟩ := DataW.trod_struct hu hf
  rw [Try.cells29] at hl
  match cs, hl, xs, hlen with
  | [c0, c1], _, [y0, y1], _ =>
    have h0 := hfs 0 f0 rfl
    have h1 := hfs 1 f1 rfl
    rw [t0, o0, Try.cells3] at h0
    rw [t1, o1, Try.cells3] at h1
    simp only [List.drop_zero, List.take_succ_cons, List.take_zero, List.drop_succ_cons, List.getElem?_cons_zero, List.getElem?_cons_succ] at h0 h1
    obtain ⟨n0, e0, _, w0⟩ := DataW.trod_int Try.und3 h0
    obtain ⟨n1, e1, _, w1⟩ := DataW.trod_int Try.und3 h1
    simp at e0 e1
    exact ⟨n0, n1, by rw [e0, e1]⟩

set_option maxRecDepth 100000 in
theorem blk_ok {H : Type} {enc : TypeId × Value → H} {W : World} {fuel : Nat} {cs : List Value} {x : DataW H × List MemPlace}
    (hf : DataW.trod enc Try.prog W 0 (fun _ => true) true fuel 31 cs = some x) (hs : ∀ n ∈ x.1.weights Try.prog 31, n ≤ reachBytes) :
    ∃ it : Bl, cs = it.cs ∧ BlOk W it := by
  obtain ⟨f0, f1, hu, ⟨t0, o0⟩, ⟨t1, o1⟩⟩ := Try.fields31
  obtain ⟨xs, n, _, rfl, hl, hlen, hfs⟩ := DataW.trod_struct hu hf
  rw [Try.cells31] at hl
  match cs, hl, xs, hlen with
  | [c0, c1, c2], _, [y0, y1], _ =>
    have h0 := hfs 0 f0 rfl
    have h1 := hfs 1 f1 rfl
    rw [t0, o0, Try.cells29] at h0
    rw [t1, o1, Try.cells22] at h1
    simp only [List.drop_zero, List.take_succ_cons, List.take_zero, List.drop_succ_cons, List.getElem?_cons_zero, List.getElem?_cons_succ] at h0 h1
    obtain ⟨n0, n1, e0⟩ := stamp_ok h0
    obtain ⟨a, l, cap, zs, e3, hzl, hle, hle2, hnu, hal, hnil⟩ := bytes_sl h1 (fun w hw => hs w (by
      simp only [DataW.weights, hu]
      exact DataW.weights_mem_each (j := 1) (t := 22) (d := y1.1) (by simp [t1]) rfl w hw))
    simp at e0
    exact ⟨⟨n0, n1, a, l, cap, zs⟩, by rw [e0.1, e0.2, e3]; rfl, hnu, hzl, hle, hle2, hal, hnil⟩

set_option maxRecDepth 100000 in
theorem opened_blk (H : Type) (enc : TypeId × Value → H) (W : World) (b0 : Nat) (v : Value) (d0 : DataW H) (p0 : List MemPlace) (hv : Value.okWide Try.prog W .any b0 31 v)
    (h0 : DataW.Trod enc Try.prog W 0 (fun _ => true) true 31 v d0 p0)
    {ts : List TypeId} {ds : List (DataW H)} (hsz : (DataW.weightsEach Try.prog ts ds).all (· ≤ reachBytes) = true) {j : Nat} (ht : ts[j]? = some 31) (hd : ds[j]? = some d0) :
    ∃ it : Bl, v = .agg #[.int .i64 it.n, .int .i64 it.c, .slice it.a it.l it.k] ∧ BlOk W it := by
  obtain ⟨cs, rfl, _⟩ := okWide_struct Try.underlying31 hv
  obtain ⟨fuel, hf⟩ := h0
  have hs : ∀ n ∈ d0.weights Try.prog 31, n ≤ reachBytes := fun n hn => by
    have := List.all_eq_true.1 hsz _ (DataW.weights_mem_each ht hd n hn)
    simpa using this
  obtain ⟨it, e, hok⟩ := blk_ok hf hs
  simp only [Value.cells] at e
  refine ⟨it, ?_, hok⟩
  obtain ⟨l⟩ := cs
  simp only [] at e
  rw [e]
  rfl

theorem opened_blks (H : Type) (enc : TypeId × Value → H) (W : World) (a0 : Option Addr) (len0 cap0 : Nat) (d0 : DataW H) (p0 : List MemPlace)
    (h0 : DataW.Trod enc Try.prog W 0 (fun _ => true) true 165 (.slice a0 len0 cap0) d0 p0)
    {ts : List TypeId} {ds : List (DataW H)} (hsz : (DataW.weightsEach Try.prog ts ds).all (· ≤ reachBytes) = true) {j : Nat} (ht : ts[j]? = some 165) (hd : ds[j]? = some d0) :
    ∃ xs : List Bl, xs.length = len0 ∧ len0 ≤ 140737488351232 ∧ Bls W a0 xs ∧ ∀ x ∈ xs, BlOk W x := by
  obtain ⟨fuel, hf⟩ := h0
  rcases Go.Deep.open_slice Try.und165 hf with ⟨hcs, _⟩ | ⟨x, l, c, m, n, D, Pl, hcs, hq, hl, hm, hmm, hx, hel⟩
  · simp [Value.cells] at hcs
    obtain ⟨rfl, rfl, rfl⟩ := hcs
    exact ⟨[], rfl, by omega, fun i x hx => by simp at hx, fun x hx => by simp at hx⟩
  · simp [Value.cells] at hcs
    obtain ⟨rfl, rfl, rfl⟩ := hcs
    simp only [if_true] at hmm
    subst hmm
    simp only [Prod.mk.injEq] at hx
    have hw : ∀ n ∈ d0.weights Try.prog 165, n ≤ reachBytes := fun n hn => by
      have := List.all_eq_true.1 hsz _ (DataW.weights_mem_each ht hd n hn)
      simpa using this
    have hb : len0 ≤ 140737488351232 := by
      have := sized_slice hsz (j := j) (t := 165) (e := 31) ht (by rw [hd, hx.1]) Try.und165
      rw [Try.bytes31] at this
      simp [reachBytes] at this
      omega
    rw [Try.cells31] at hel
    have key : ∀ i, i < len0 → ∃ it : Bl, W.cells? 0 (x.add (i * 3)) 3 = some [.int .i64 it.n, .int .i64 it.c, .slice it.a it.l it.k] ∧ BlOk W it := by
      intro i hi
      obtain ⟨cs', hc, htr⟩ := hel i (by omega)
      obtain ⟨it, rfl, hok⟩ := blk_ok htr (fun n hn => hw n (by
        rw [hx.1]; simp only [DataW.weights, Try.und165]
        refine List.mem_cons_of_mem _ (List.mem_append.2 (.inl (weights_all (d := D i) ?_ n hn)))
        exact List.mem_map.2 ⟨i, List.mem_range.2 hi, rfl⟩))
      exact ⟨it, hc, hok⟩
    obtain ⟨f, hfm⟩ := Go.Deep.choose_lt key
    refine ⟨(List.range len0).map f, by simp, hb, ?_, ?_⟩
    · intro i it hit
      have hi : i < len0 := by have := (List.getElem?_eq_some_iff.1 hit).1; simpa using this
      have e : f i = it := by simpa [hi] using hit
      obtain ⟨hc, _⟩ := hfm i hi
      rw [e] at hc
      have hcs := (World.cells?_some hc).2.2
      have hc0 := hcs 0 (by omega)
      have hc1 := hcs 1 (by omega)
      have hc2 := hcs 2 (by omega)
      simp only [List.getElem?_cons_zero, List.getElem?_cons_succ] at hc0 hc1 hc2
      rw [Go.Deep.add_add] at hc0 hc1 hc2
      obtain ⟨b, off, spot⟩ := x
      have hspot : spot = none := by
        have h00 := (World.cells?_some (hfm 0 (by omega)).1).2.2 0 (by omega)
        simp only [List.getElem?_cons_zero] at h00
        have := World.cell?_spot h00
        simpa [Addr.add] using this
      subst hspot
      rw [addr_add] at hc0 hc1 hc2
      exact ⟨b, off, rfl, hc0, hc1, hc2⟩
    · intro it hit
      obtain ⟨i, hi, rfl⟩ := List.mem_map.1 hit
      exact (hfm i (List.mem_range.1 hi)).2

end Go.Proofs.Ytgiokkcdgoloaab
