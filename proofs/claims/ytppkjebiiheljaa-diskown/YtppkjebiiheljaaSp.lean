import Derived.Test.YtppkjebiiheljaaLo
import Derived.Test.YtppkjebiiheljaaOc
namespace Go.Proofs.Ytppkjebiiheljaa
open Go.ChangeShapes Go.WideShapes Go.ChangeAt Go.RowKit
open Go.ChangeMaps (open_string shut_string)
set_option linter.unusedVariables false
set_option linter.unusedSimpArgs false

/-- A step that came in. -/
structure Stp where
  k : Int
  n : Int
  m : Int
  a : Option Addr
  l : Nat
  c : Nat
  bs : List Int
instance : Inhabited Stp := ⟨⟨0, 0, 0, none, 0, 0, []⟩⟩
def I64 (x : Int) : Prop := -9223372036854775808 ≤ x ∧ x ≤ 9223372036854775807
def Stps (w : World) (a : Option Addr) (xs : List Stp) : Prop :=
  ∀ (i : Nat) it, xs[i]? = some it → ∃ b off, a = some ⟨b, off, none⟩ ∧ w.cell? ⟨b, off + i * 4, none⟩ = some (.int .i64 it.k) ∧ w.cell? ⟨b, off + i * 4 + 1, none⟩ = some (.int .i64 it.n) ∧ w.cell? ⟨b, off + i * 4 + 2, none⟩ = some (.int .i64 it.m) ∧ w.cell? ⟨b, off + i * 4 + 3, none⟩ = some (.slice it.a it.l it.c)
structure StpOk (w : World) (it : Stp) : Prop where
  nums : Nums .u8 w it.a it.bs
  len : it.bs.length = it.l
  cap : it.l ≤ it.c
  cap2 : it.c ≤ 4611686018427387904
  u8 : U8 it.bs
  ik : I64 it.k
  inn : I64 it.n
  im : I64 it.m
theorem Stps.no {w w' : World} {a : Option Addr} {xs : List Stp} (h : Stps w a xs) (hk : Kept No w w') : Stps w' a xs := by
  intro i it hi
  obtain ⟨b, off, e, c0, c1, c2, c3⟩ := h i it hi
  exact ⟨b, off, e, hk.cell c0 (fun e => e), hk.cell c1 (fun e => e), hk.cell c2 (fun e => e), hk.cell c3 (fun e => e)⟩
theorem StpOk.no {w w' : World} {it : Stp} (h : StpOk w it) (hk : Kept No w w') : StpOk w' it := ⟨h.nums.no hk, h.len, h.cap, h.cap2, h.u8, h.ik, h.inn, h.im⟩

theorem Try.und48 : Try.prog.underlying 48 = some (.slice 53) := by kernel_rfl
theorem Try.cells3 : Try.prog.cellsOf 3 = 1 := by kernel_rfl
theorem Try.cells22 : Try.prog.cellsOf 22 = 1 := by kernel_rfl
theorem Try.cells53 : Try.prog.cellsOf 53 = 4 := by kernel_rfl
theorem Try.bytes53 : Try.prog.bytesOf 53 = 48 := by kernel_rfl
theorem Try.fields53 : ∃ f0 f1 f2 f3, Try.prog.underlying 53 = some (.struct #[f0, f1, f2, f3]) ∧ (f0.type = 3 ∧ f0.offset = 0) ∧ (f1.type = 3 ∧ f1.offset = 1) ∧ (f2.type = 3 ∧ f2.offset = 2) ∧ (f3.type = 22 ∧ f3.offset = 3) :=
  ⟨_, _, _, _, Try.underlying53, ⟨rfl, rfl⟩, ⟨rfl, rfl⟩, ⟨rfl, rfl⟩, ⟨rfl, rfl⟩⟩

/-- Bytes in memory that came in, somewhere. -/
theorem bytes_sl {H : Type} {enc : TypeId × Value → H} {W : World} {fuel : Nat} {c : Value} {x : DataW H × List MemPlace}
    (hf : DataW.trod enc Try.prog W 0 (fun _ => true) true fuel 22 [c] = some x) (hs : ∀ n ∈ x.1.weights Try.prog 22, n ≤ reachBytes) :
    ∃ a m cap zs, c = .slice a m cap ∧ zs.length = m ∧ m ≤ cap ∧ cap ≤ 4611686018427387904 ∧ Nums .u8 W a zs ∧ U8 zs := by
  rcases open_ints Try.und22 Try.und5 (by kernel_rfl) hf with ⟨hcs, _⟩ | ⟨y, l, cap, zs, hcs, hq, hl, hm, hz, hx, hcell, hwz⟩
  · simp at hcs
    exact ⟨none, 0, 0, [], hcs, rfl, by omega, by omega, Nums.nil _ _ _, fun i => by simp⟩
  · simp at hcs
    have hz' : zs.length = cap := by simpa using hz
    have hb : cap ≤ 140737488351232 := by
      have := hs ((l + (zs.length - l)) * Try.prog.bytesOf 5) (by
        rw [hx]; simp only [DataW.weights, Try.und22]
        refine List.mem_cons.2 (.inl ?_)
        simp only [lits, List.length_map, List.length_take, List.length_drop]
        rw [Nat.min_eq_left (by omega)])
      rw [Try.bytes5] at this
      simp only [reachBytes] at this
      omega
    refine ⟨_, _, _, zs.take l, hcs, by simp; omega, hl, by omega, ?_, U8.take (fun i => range_u8 hwz i) _⟩
    intro i hi
    simp only [List.length_take] at hi
    obtain ⟨b, off, rfl, hc⟩ := ints_at hcell (by omega)
    refine ⟨b, off, rfl, ?_⟩
    rw [List.getElem?_take, if_pos (by omega), hc i (by omega)]
    simp

theorem weights_all {H : Type} {P : Program} {e : TypeId} : ∀ {ds : List (DataW H)} {d : DataW H}, d ∈ ds → ∀ n ∈ d.weights P e, n ∈ DataW.weightsAll P e ds
  | d0 :: r, d, hd, n, hn => by
    rw [DataW.weightsAll, List.mem_append]
    rcases List.mem_cons.1 hd with rfl | h
    · exact .inl hn
    · exact .inr (weights_all h n hn)

set_option maxRecDepth 100000 in
theorem stp_ok {H : Type} {enc : TypeId × Value → H} {W : World} {fuel : Nat} {cs : List Value} {x : DataW H × List MemPlace}
    (hf : DataW.trod enc Try.prog W 0 (fun _ => true) true fuel 53 cs = some x) (hs : ∀ n ∈ x.1.weights Try.prog 53, n ≤ reachBytes) :
    ∃ it : Stp, cs = [.int .i64 it.k, .int .i64 it.n, .int .i64 it.m, .slice it.a it.l it.c] ∧ StpOk W it := by
  obtain ⟨f0, f1, f2, f3, hu, ⟨t0, o0⟩, ⟨t1, o1⟩, ⟨t2, o2⟩, ⟨t3, o3⟩⟩ := Try.fields53
  obtain ⟨xs, n, _, rfl, hl, hlen, hfs⟩ := DataW.trod_struct hu hf
  rw [Try.cells53] at hl
  match cs, hl, xs, hlen with
  | [c0, c1, c2, c3], _, [y0, y1, y2, y3], _ =>
    have h0 := hfs 0 f0 rfl
    have h1 := hfs 1 f1 rfl
    have h2 := hfs 2 f2 rfl
    have h3 := hfs 3 f3 rfl
    rw [t0, o0, Try.cells3] at h0
    rw [t1, o1, Try.cells3] at h1
    rw [t2, o2, Try.cells3] at h2
    rw [t3, o3, Try.cells22] at h3
    simp only [List.drop_zero, List.take_succ_cons, List.take_zero, List.drop_succ_cons, List.getElem?_cons_zero, List.getElem?_cons_succ] at h0 h1 h2 h3
    obtain ⟨n0, e0, _, w0⟩ := DataW.trod_int Try.und3 h0
    obtain ⟨n1, e1, _, w1⟩ := DataW.trod_int Try.und3 h1
    obtain ⟨n2, e2, _, w2⟩ := DataW.trod_int Try.und3 h2
    obtain ⟨a, l, cap, zs, e3, hzl, hle, hle2, hnu, hal⟩ := bytes_sl h3 (fun w hw => hs w (by
      simp only [DataW.weights, hu]
      exact DataW.weights_mem_each (j := 3) (t := 22) (d := y3.1) (by simp [t3]) rfl w hw))
    simp at e0 e1 e2
    exact ⟨⟨n0, n1, n2, a, l, cap, zs⟩, by rw [e0, e1, e2, e3], hnu, hzl, hle, hle2, hal, bounds_i64 w0, bounds_i64 w1, bounds_i64 w2⟩

theorem opened_stps (H : Type) (enc : TypeId × Value → H) (W : World) (a0 : Option Addr) (len0 cap0 : Nat) (d0 : DataW H) (p0 : List MemPlace)
    (h0 : DataW.Trod enc Try.prog W 0 (fun _ => true) true 48 (.slice a0 len0 cap0) d0 p0)
    {ts : List TypeId} {ds : List (DataW H)} (hsz : (DataW.weightsEach Try.prog ts ds).all (· ≤ reachBytes) = true) {j : Nat} (ht : ts[j]? = some 48) (hd : ds[j]? = some d0) :
    ∃ xs : List Stp, xs.length = len0 ∧ len0 ≤ 140737488351232 ∧ Stps W a0 xs ∧ ∀ x ∈ xs, StpOk W x := by
  obtain ⟨fuel, hf⟩ := h0
  rcases Go.Deep.open_slice Try.und48 hf with ⟨hcs, _⟩ | ⟨x, l, c, m, n, D, Pl, hcs, hq, hl, hm, hmm, hx, hel⟩
  · simp [Value.cells] at hcs
    obtain ⟨rfl, rfl, rfl⟩ := hcs
    exact ⟨[], rfl, by omega, fun i x hx => by simp at hx, fun x hx => by simp at hx⟩
  · simp [Value.cells] at hcs
    obtain ⟨rfl, rfl, rfl⟩ := hcs
    simp only [if_true] at hmm
    subst hmm
    simp only [Prod.mk.injEq] at hx
    have hw : ∀ n ∈ d0.weights Try.prog 48, n ≤ reachBytes := fun n hn => by
      have := List.all_eq_true.1 hsz _ (DataW.weights_mem_each ht hd n hn)
      simpa using this
    have hb : len0 ≤ 140737488351232 := by
      have := sized_slice hsz (j := j) (t := 48) (e := 53) ht (by rw [hd, hx.1]) Try.und48
      rw [Try.bytes53] at this
      simp [reachBytes] at this
      omega
    rw [Try.cells53] at hel
    have key : ∀ i, i < len0 → ∃ it : Stp, W.cells? 0 (x.add (i * 4)) 4 = some [.int .i64 it.k, .int .i64 it.n, .int .i64 it.m, .slice it.a it.l it.c] ∧ StpOk W it := by
      intro i hi
      obtain ⟨cs', hc, htr⟩ := hel i (by omega)
      obtain ⟨it, rfl, hok⟩ := stp_ok htr (fun n hn => hw n (by
        rw [hx.1]; simp only [DataW.weights, Try.und48]
        refine List.mem_cons_of_mem _ (List.mem_append.2 (.inl (weights_all (d := D i) ?_ n hn)))
        exact List.mem_map.2 ⟨i, List.mem_range.2 hi, rfl⟩))
      exact ⟨it, hc, hok⟩
    obtain ⟨f, hfm⟩ := Go.Deep.choose_lt key
    refine ⟨(List.range len0).map f, by simp, hb, ?_, ?_⟩
    · intro i it hit
      have hi : i < len0 := by have := (List.getElem?_eq_some_iff.1 hit).1; simpa using this
      have e : f i = it := by simpa [hi] using hit
      obtain ⟨hc, _⟩ := hfm i hi
      rw [e] at hc
      have hcs := (World.cells?_some hc).2.2
      have hc0 := hcs 0 (by omega)
      have hc1 := hcs 1 (by omega)
      have hc2 := hcs 2 (by omega)
      have hc3 := hcs 3 (by omega)
      simp only [List.getElem?_cons_zero, List.getElem?_cons_succ] at hc0 hc1 hc2 hc3
      rw [Go.Deep.add_add] at hc0 hc1 hc2 hc3
      obtain ⟨b, off, spot⟩ := x
      have hspot : spot = none := by
        have h00 := (World.cells?_some (hfm 0 (by omega)).1).2.2 0 (by omega)
        simp only [List.getElem?_cons_zero] at h00
        have := World.cell?_spot h00
        simpa [Addr.add] using this
      subst hspot
      rw [addr_add] at hc0 hc1 hc2 hc3
      exact ⟨b, off, rfl, hc0, hc1, hc2, hc3⟩
    · intro it hit
      obtain ⟨i, hi, rfl⟩ := List.mem_map.1 hit
      exact (hfm i (List.mem_range.1 hi)).2

/-- Two disks that answer alike. -/
structure Alike (x y : DS) : Prop where
  N : x.N = y.N
  c : x.c = y.c
  pw : x.pw = y.pw
  fl : x.fl = y.fl
theorem Alike.refE {x y : DS} (h : Alike x y) (n : Int) : Ytppkjebiiheljaa.refE x n = Ytppkjebiiheljaa.refE y n := by unfold Ytppkjebiiheljaa.refE; rw [h.N, h.fl]
theorem Alike.wrE {x y : DS} (h : Alike x y) (n : Int) (m : Nat) : Ytppkjebiiheljaa.wrE x n m = Ytppkjebiiheljaa.wrE y n m := by unfold Ytppkjebiiheljaa.wrE; rw [h.refE, h.pw]
theorem wrD_yes {x : DS} {n : Int} {bs : List Int} (h1 : Ytppkjebiiheljaa.refE x n = 0) (h2 : bs.length = 512) : wrD x n bs = { x with c := updC x.c n.toNat (tornS (x.c n.toNat) bs (laidP x.pw).toNat), wr := x.wr + 1, pw := spentP x.pw, fl := !holdsP x.pw } := by
  unfold wrD
  rw [if_neg (fun h => h h1), if_neg (fun h => h h2)]
theorem wrD_no {x : DS} {n : Int} {bs : List Int} (h : ¬ (Ytppkjebiiheljaa.refE x n = 0 ∧ bs.length = 512)) : wrD x n bs = x := by
  unfold wrD
  by_cases h1 : Ytppkjebiiheljaa.refE x n = 0
  · rw [if_neg (fun h => h h1), if_pos (fun h2 => h ⟨h1, h2⟩)]
  · rw [if_pos h1]
theorem Alike.write {x y : DS} (h : Alike x y) (n : Int) (bs : List Int) : Alike (wrD x n bs) (wrD y n bs) := by
  by_cases hh : Ytppkjebiiheljaa.refE y n = 0 ∧ bs.length = 512
  · rw [wrD_yes ((h.refE n).trans hh.1) hh.2, wrD_yes hh.1 hh.2]
    exact ⟨h.N, by show updC _ _ _ = updC _ _ _; rw [h.c, h.pw], by show spentP _ = spentP _; rw [h.pw], by show (!holdsP _) = (!holdsP _); rw [h.pw]⟩
  · rw [wrD_no (fun e => hh ⟨(h.refE n).symm.trans e.1, e.2⟩), wrD_no hh]; exact h
theorem Alike.read {x y : DS} (h : Alike x y) (n : Int) : Alike (rdD x n) (rdD y n) := ⟨(rdD_N _ _).trans (h.N.trans (rdD_N _ _).symm), (rdD_c _ _).trans (h.c.trans (rdD_c _ _).symm), (rdD_pw _ _).trans (h.pw.trans (rdD_pw _ _).symm), (rdD_fl _ _).trans (h.fl.trans (rdD_fl _ _).symm)⟩
theorem Alike.arm {x y : DS} (h : Alike x y) (n t : Int) : Alike (armD x n t) (armD y n t) := by
  unfold armD
  rw [h.fl]
  split
  · exact h
  · exact ⟨h.N, h.c, rfl, rfl⟩
theorem Alike.start {x y : DS} (h : Alike x y) : Alike (startD x) (startD y) := ⟨h.N, h.c, rfl, rfl⟩

theorem secTo_flat {c : Nat → List Int} {N : Nat} (hl : ∀ m, (c m).length = 512) (ho : ∀ m, N ≤ m → c m = zs) : secTo (flatN N c) N = c := by
  have key : ∀ n m, m < n → ((flatN n c).drop (m * 512)).take 512 = c m := by
    intro n
    induction n with
    | zero => intro m hm; omega
    | succ n ih =>
      intro m hm
      rw [flatN]
      have hln := flatN_len c hl n
      by_cases e : m = n
      · subst e
        have e1 : (flatN m c).drop (m * 512) = [] := List.drop_of_length_le (Nat.le_of_eq hln)
        rw [List.drop_append_of_le_length (Nat.le_of_eq hln.symm), e1, List.nil_append, List.take_of_length_le (Nat.le_of_eq (hl m))]
      · have hm' : m < n := by omega
        have hmul := Nat.mul_le_mul_right 512 hm'
        rw [Nat.succ_mul] at hmul
        have g1 : m * 512 ≤ (flatN n c).length := by rw [hln]; exact Nat.le_trans (Nat.le_add_right _ _) hmul
        have g2 : 512 ≤ ((flatN n c).drop (m * 512)).length := by rw [List.length_drop, hln]; exact Nat.le_sub_of_add_le (by rw [Nat.add_comm]; exact hmul)
        rw [List.drop_append_of_le_length g1, List.take_append_of_le_length g2]
        exact ih m hm'
  funext m
  unfold secTo secOf
  split
  · rename_i h; exact key N m h
  · rename_i h; exact (ho m (by omega)).symm

end Go.Proofs.Ytppkjebiiheljaa
