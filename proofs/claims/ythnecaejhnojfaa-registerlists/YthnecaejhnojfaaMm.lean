import Derived.Test.YthnecaejhnojfaaTt
namespace Go.Proofs.Ythnecaejhnojfaa
open Go.RowKit
set_option linter.unusedVariables false
set_option linter.unusedSimpArgs false

/-- A message: what is looked at, and the rest of its cells. -/
structure MD where
  kind : Int
  fc : Bool
  fi : Int
  tc : Bool
  ti : Int
  op : Int
  rd : Int
  k0 : Int
  k1 : Int
  k2 : Int
  k3 : Int
  sn : Int
  sc : Int
  h0 : Int
  h1 : Int
  ba : Option Addr
  bl : Nat
  bk : Nat
  rest : List Value
def MD.cells (d : MD) : Array Value := (([.int .i64 d.kind, .bool d.fc, .int .i64 d.fi, .bool d.tc, .int .i64 d.ti, .int .i64 d.op, .int .i64 d.rd, .int .i64 d.k0, .int .i64 d.k1, .int .i64 d.k2, .int .i64 d.k3, .int .i64 d.sn, .int .i64 d.sc, .int .i64 d.h0, .int .i64 d.h1, .slice d.ba d.bl d.bk] : List Value) ++ d.rest).toArray
structure MdOk (d : MD) : Prop where
  len : d.rest.length = 14
  one : ∀ v ∈ d.rest, v.oneCell' = true
theorem MD.size {d : MD} (h : MdOk d) : d.cells.size = 30 := by simp [MD.cells, h.len]
theorem MD.one {d : MD} (h : MdOk d) : d.cells.all (·.oneCell') = true := by
  simp only [MD.cells, List.all_toArray, List.all_append, Bool.and_eq_true, List.all_eq_true]
  refine ⟨?_, h.one⟩
  intro v hv
  simp only [List.mem_cons, List.not_mem_nil, or_false] at hv
  rcases hv with h | h | h | h | h | h | h | h | h | h | h | h | h | h | h | h <;> subst h <;> rfl
theorem md_at {d : MD} {w : World} {g : Nat} (h : Box w g 52 d.cells) (i : Nat) (hi : i < 16) : w.cell? ⟨g, i, none⟩ = ([.int .i64 d.kind, .bool d.fc, .int .i64 d.fi, .bool d.tc, .int .i64 d.ti, .int .i64 d.op, .int .i64 d.rd, .int .i64 d.k0, .int .i64 d.k1, .int .i64 d.k2, .int .i64 d.k3, .int .i64 d.sn, .int .i64 d.sc, .int .i64 d.h0, .int .i64 d.h1, .slice d.ba d.bl d.bk] : List Value)[i]? := by
  rw [h.cell, MD.cells, List.getElem?_toArray, List.getElem?_append_left (by simpa using hi)]

theorem Try.size52 : (Try.prog.info? 52).map (·.size) = some 30 := by kernel_rfl
section
variable {ops : Array Oper} {rest : List Oper} {o : Oper} {a : Act} {w : World} {Q : Exit → Act → World → Prop}
theorem wp_boxV (hg : o.guard = none) (t : TypeId) (x : Operand) (ho : o.op = .box t x) (cs : Array Value) (hx : a.eval x = .agg cs) (N : Nat) (hN : w.heap.size = N)
    (h : wpList Try.prog ops Q rest (a.put o.dst (.pointer (some ⟨N, 0, none⟩))) (w.alloc (.cells cs t))) : wpList Try.prog ops Q (o :: rest) a w := by
  subst hN
  refine wp_runTo hg _ (w.alloc (.cells cs t)) ?_ h
  simp only [execOp, ho, hx, Instr.box, Sem.run_bind, Result.andThen_ok, newVar, newRow, run_newObj_alloc, Sem.run_pure]
  rfl
theorem wp_loadM (hg : o.guard = none) (x : Operand) (ho : o.op = .load 52 x) (g : Nat) (cs : Array Value) (hx : a.eval x = .pointer (some ⟨g, 0, none⟩)) (hl : cs.size = 30) {t : TypeId} (hb : Box w g t cs)
    (h : wpList Try.prog ops Q rest (a.put o.dst (.agg cs)) w) : wpList Try.prog ops Q (o :: rest) a w :=
  wpList_load_row hg 52 x ho g hx t cs (0, 0) _ hb Try.underlying52 rfl (by rw [hl]; exact Try.size52) h
end
theorem load52_run {w : World} {g : Nat} {cs : Array Value} (hb : Box w g 52 cs) (hl : cs.size = 30) : (loadVar 52 ⟨g, 0, none⟩).run Try.prog w = .ok (.agg cs) w :=
  run_loadVar_row w g 52 52 cs (0, 0) _ hb Try.underlying52 rfl (by rw [hl]; exact Try.size52)

theorem flds39 : (Try.prog.fieldsOf 39).toList = [{ name := "Client", type := 4, offset := 0, embedded := false, tag := "", pkgPath := "", byteOffset := 0 }, { name := "Id", type := 3, offset := 1, embedded := false, tag := "", pkgPath := "", byteOffset := 8 }] := by kernel_rfl
theorem flds23 : (Try.prog.fieldsOf 23).toList = [{ name := "Kind", type := 3, offset := 0, embedded := false, tag := "", pkgPath := "", byteOffset := 0 }, { name := "A", type := 3, offset := 1, embedded := false, tag := "", pkgPath := "", byteOffset := 8 }, { name := "B", type := 3, offset := 2, embedded := false, tag := "", pkgPath := "", byteOffset := 16 }, { name := "C", type := 3, offset := 3, embedded := false, tag := "", pkgPath := "", byteOffset := 24 }] := by kernel_rfl
theorem eqlAddr (a c : Bool) (n m : Int) (w : World) : (binOp .eql 39 (.agg #[.bool a, .int .i64 n]) (.agg #[.bool c, .int .i64 m])).run Try.prog w = .ok (.bool (a == c && n == m)) w := by
  have h0 : ∀ (a : Bool) (n : Int) (w : World), (part 4 #[.bool a, .int .i64 n] 0).run Try.prog w = .ok (.bool a) w := fun a n w => by kernel_rfl
  have h1 : ∀ (a : Bool) (n : Int) (w : World), (part 3 #[.bool a, .int .i64 n] 1).run Try.prog w = .ok (.int .i64 n) w := fun a n w => by kernel_rfl
  have hE : ∀ (a b : Int) (w : World), (Op.equalIn 9999 3 (.int .i64 a) (.int .i64 b)).run Try.prog w = .ok (a == b) w := fun a b w => run_equalIn_int w 9998 3 .i64 .i64 a b Try.und3
  have hB : ∀ (a b : Bool) (w : World), (Op.equalIn 9999 4 (.bool a) (.bool b)).run Try.prog w = .ok (a == b) w := fun a b w => by cases a <;> cases b <;> kernel_rfl
  rw [run_eql_struct, show (10000 : Nat) = 9998 + 1 + 1 from rfl, run_equalIn_struct w (9998 + 1) 39 _ _ (by kernel_rfl) (by kernel_rfl), flds39]
  cases h : a == c <;> cases h' : n == m <;> simp [Op.eqFields, h0, h1, hE, hB, h, h', Result.andThen]
theorem eqlKey (a b c d a' b' c' d' : Int) (w : World) : (binOp .eql 23 (.agg #[.int .i64 a, .int .i64 b, .int .i64 c, .int .i64 d]) (.agg #[.int .i64 a', .int .i64 b', .int .i64 c', .int .i64 d'])).run Try.prog w = .ok (.bool (a == a' && (b == b' && (c == c' && d == d')))) w := by
  have h0 : ∀ (a b c d : Int) (w : World), (part 3 #[.int .i64 a, .int .i64 b, .int .i64 c, .int .i64 d] 0).run Try.prog w = .ok (.int .i64 a) w := fun a b c d w => by kernel_rfl
  have h1 : ∀ (a b c d : Int) (w : World), (part 3 #[.int .i64 a, .int .i64 b, .int .i64 c, .int .i64 d] 1).run Try.prog w = .ok (.int .i64 b) w := fun a b c d w => by kernel_rfl
  have h2 : ∀ (a b c d : Int) (w : World), (part 3 #[.int .i64 a, .int .i64 b, .int .i64 c, .int .i64 d] 2).run Try.prog w = .ok (.int .i64 c) w := fun a b c d w => by kernel_rfl
  have h3 : ∀ (a b c d : Int) (w : World), (part 3 #[.int .i64 a, .int .i64 b, .int .i64 c, .int .i64 d] 3).run Try.prog w = .ok (.int .i64 d) w := fun a b c d w => by kernel_rfl
  have hE : ∀ (a b : Int) (w : World), (Op.equalIn 9999 3 (.int .i64 a) (.int .i64 b)).run Try.prog w = .ok (a == b) w := fun a b w => run_equalIn_int w 9998 3 .i64 .i64 a b Try.und3
  rw [run_eql_struct, show (10000 : Nat) = 9998 + 1 + 1 from rfl, run_equalIn_struct w (9998 + 1) 23 _ _ (by kernel_rfl) (by kernel_rfl), flds23]
  cases ha : a == a' <;> cases hb : b == b' <;> cases hc : c == c' <;> cases hd : d == d' <;> simp [Op.eqFields, h0, h1, h2, h3, hE, ha, hb, hc, hd, Result.andThen]

/-- Does a server answer what is asked in the present round? -/
def hitB (x : MS) (kind : Int) (d : MD) : Bool := (d.kind == kind) && ((!d.fc) && ((d.tc && d.ti == x.cl) && ((d.op == x.op) && ((d.rd == x.rd) && (d.k0 == x.k0 && (d.k1 == x.k1 && (d.k2 == x.k2 && d.k3 == x.k3)))))))

set_option maxRecDepth 100000 in
set_option maxHeartbeats 4000000 in
theorem answered_any (m : Nat) (a : Option Addr) (cap : Nat) (x : MS) (t : TypeId) (v : Value) (d : MD) (kind : Int) (w : World) (hM : Mach w m a cap x t v) :
    Calls Try.prog 83 #[.pointer (some ⟨m, 0, none⟩), .agg d.cells, .int .i64 kind] w (fun e w' => e = .returned (.bool (hitB x kind d)) ∧ Kept No w w') := by
  obtain ⟨w1, hw1⟩ : ∃ w1, w1 = w.alloc (.cells d.cells 52) := ⟨_, rfl⟩
  obtain ⟨N, hN⟩ : ∃ N, N = w.heap.size := ⟨_, rfl⟩
  have HK1 : Hid (Kept No w w1) := by rw [hw1]; exact (Kept.refl No w).alloc _
  have hX : Box w1 N 52 d.cells := by rw [hw1, hN]; exact Box.new _ _ _
  have hB := (hM.no HK1.out).box
  have c0 := md_at hX 0 (by omega)
  have c1 := md_at hX 1 (by omega)
  have c3 := md_at hX 3 (by omega)
  have c4 := md_at hX 4 (by omega)
  have c5 := md_at hX 5 (by omega)
  have c6 := md_at hX 6 (by omega)
  have c7 := md_at hX 7 (by omega)
  have c8 := md_at hX 8 (by omega)
  have c9 := md_at hX 9 (by omega)
  have c10 := md_at hX 10 (by omega)
  simp only [List.getElem?_cons_zero, List.getElem?_cons_succ] at c0 c1 c3 c4 c5 c6 c7 c8 c9 c10
  have m0 := hB.cell 0
  have m1 := hB.cell 1
  have m2 := hB.cell 2
  have m3 := hB.cell 3
  have m4 := hB.cell 4
  have m5 := hB.cell 5
  have m6 := hB.cell 6
  have m8 := hB.cell 8
  simp only [mC, List.getElem?_toArray, List.getElem?_cons_zero, List.getElem?_cons_succ] at m0 m1 m2 m3 m4 m5 m6 m8
  have q39 : ∀ (a : Bool) (n m : Int) (w : World), (binOp .eql 39 (.agg #[.bool a, .int .i64 n]) (.agg #[.bool true, .int .i64 m])).run Try.prog w = .ok (.bool (a && n == m)) w := fun a n m w => by rw [eqlAddr]; simp
  have q23 := eqlKey
  clear hX hB hM
  have HH : Hid (hitB x kind d = ((d.kind == kind) && ((!d.fc) && ((d.tc && d.ti == x.cl) && ((d.op == x.op) && ((d.rd == x.rd) && (d.k0 == x.k0 && (d.k1 == x.k1 && (d.k2 == x.k2 && d.k3 == x.k3))))))))) := rfl
  have HCs : Hid (d.cells = d.cells) := rfl
  generalize hitB x kind d = R at HH
  obtain ⟨xcl, xop, xk0, xk1, xk2, xk3, xg, xrd⟩ := x
  obtain ⟨dkind, dfc, dfi, dtc, dti, dop, drd, dk0, dk1, dk2, dk3, dsn, dsc, dh0, dh1, dba, dbl, dbk, drest⟩ := d
  simp only at HH c0 c1 c3 c4 c5 c6 c7 c8 c9 c10 m0 m1 m2 m3 m4 m5 m6 m8
  generalize (MD.mk dkind dfc dfi dtc dti dop drd dk0 dk1 dk2 dk3 dsn dsc dh0 dh1 dba dbl dbk drest).cells = CS at hw1 HCs ⊢
  clear HCs
  cases h1 : dkind == kind
  · go_enter Try.func83, Try.ntmps83
    go_upto_region 1 with (refine wp_boxV rfl 52 _ rfl CS rfl w.heap.size rfl ?_)
    rw [← hw1, ← hN]
    clear hw1 hN
    go_quiet (fail)
    go_wp2
    go_ret
    exact ⟨ret_bool (by rw [HH.out]; simp [*]), (HK1.out.drewN _)⟩
  · obtain rfl : dkind = kind := by simpa using h1
    clear h1
    cases dfc
    · cases h2 : (dtc && dti == xcl)
      · go_enter Try.func83, Try.ntmps83
        go_upto_region 1 with (refine wp_boxV rfl 52 _ rfl CS rfl w.heap.size rfl ?_)
        rw [← hw1, ← hN]
        clear hw1 hN
        go_quiet (fail)
        go_wp2
        go_ret
        exact ⟨ret_bool (by rw [HH.out]; simp [*]), (HK1.out.drewN _)⟩
      · obtain ⟨rfl, rfl⟩ : dtc = true ∧ dti = xcl := by simpa using h2
        clear h2
        cases h3 : dop == xop
        · go_enter Try.func83, Try.ntmps83
          go_upto_region 1 with (refine wp_boxV rfl 52 _ rfl CS rfl w.heap.size rfl ?_)
          rw [← hw1, ← hN]
          clear hw1 hN
          go_quiet (fail)
          go_wp2
          go_ret
          exact ⟨ret_bool (by rw [HH.out]; simp [*]), (HK1.out.drewN _)⟩
        · obtain rfl : dop = xop := by simpa using h3
          clear h3
          cases h4 : drd == xrd
          · go_enter Try.func83, Try.ntmps83
            go_upto_region 1 with (refine wp_boxV rfl 52 _ rfl CS rfl w.heap.size rfl ?_)
            rw [← hw1, ← hN]
            clear hw1 hN
            go_quiet (fail)
            go_wp2
            go_ret
            exact ⟨ret_bool (by rw [HH.out]; simp [*]), (HK1.out.drewN _)⟩
          · obtain rfl : drd = xrd := by simpa using h4
            clear h4
            go_enter Try.func83, Try.ntmps83
            go_upto_region 1 with (refine wp_boxV rfl 52 _ rfl CS rfl w.heap.size rfl ?_)
            rw [← hw1, ← hN]
            clear hw1 hN
            go_quiet (fail)
            go_wp2
            go_ret
            exact ⟨ret_bool (by rw [HH.out]; simp [*]), (HK1.out.drewN _)⟩
    · go_enter Try.func83, Try.ntmps83
      go_upto_region 1 with (refine wp_boxV rfl 52 _ rfl CS rfl w.heap.size rfl ?_)
      rw [← hw1, ← hN]
      clear hw1 hN
      go_quiet (fail)
      go_wp2
      go_ret
      exact ⟨ret_bool (by rw [HH.out]; simp [*]), (HK1.out.drewN _)⟩

end Go.Proofs.Ythnecaejhnojfaa
namespace Go.Proofs.Ythnecaejhnojfaa
open Go.RowKit
set_option linter.unusedVariables false
set_option linter.unusedSimpArgs false

theorem md_cell (d : MD) : d.cells[11]? = some (.int .i64 d.sn) ∧ d.cells[12]? = some (.int .i64 d.sc) ∧ d.cells[15]? = some (.slice d.ba d.bl d.bk) := by
  refine ⟨?_, ?_, ?_⟩ <;> simp [MD.cells]
theorem eqlStamp (n c m d : Int) (w : World) : (binOp .eql 41 (.agg #[.int .i64 n, .int .i64 c]) (.agg #[.int .i64 m, .int .i64 d])).run Try.prog w = .ok (.bool (n == m && c == d)) w := by
  rw [run_eql_struct, eqStamp]; rfl

def KeepOut (w : World) (n c : Int) (zs : List Int) (e : Ending) (w' : World) : Prop :=
  ∃ a' cap', e = .returned (.agg #[.int .i64 n, .int .i64 c, .slice a' zs.length cap']) ∧ OwnB w' w.heap.size a' cap' zs ∧ Kept No w w'

set_option maxRecDepth 100000 in
set_option maxHeartbeats 4000000 in
theorem keepW_any (cl : Int) (da : Option Addr) (dl dc : Nat) (d : MD) (w : World) :
    Calls Try.prog 63 #[.agg #[.int .i64 cl, .slice da dl dc], .agg d.cells] w (KeepOut w d.sn d.sc []) := by
  obtain ⟨w1, hw1⟩ : ∃ w1, w1 = (w.alloc (.cells #[.int .i64 cl, .slice da dl dc] 87)).alloc (.cells d.cells 52) := ⟨_, rfl⟩
  obtain ⟨N, hN⟩ : ∃ N, N = w.heap.size + 1 := ⟨_, rfl⟩
  have hs1 : w1.heap.size = N + 1 := by rw [hw1, hN]; simp
  have HK1 : Hid (Kept No w w1) := by rw [hw1]; exact ((Kept.refl No w).alloc _).alloc _
  have hX : Box w1 N 52 d.cells := by
    have h := Box.new (w.alloc (.cells #[.int .i64 cl, .slice da dl dc] 87)) 52 d.cells
    have e : (w.alloc (.cells #[.int .i64 cl, .slice da dl dc] 87)).heap.size = w.heap.size + 1 := by simp
    rw [e] at h
    rw [hw1, hN]
    exact h
  have hX2 : Box (w1.alloc (.cells #[.int .i64 0, .int .i64 0, .slice none 0 0] 144)) N 52 d.cells := hX.alloc _
  have HF : Hid (Box (w1.alloc (.cells #[.int .i64 d.sn, .int .i64 d.sc, .slice none 0 0] 144)) (N + 1) 144 #[.int .i64 d.sn, .int .i64 d.sc, .slice none 0 0]) := by
    have := Box.new w1 144 #[.int .i64 d.sn, .int .i64 d.sc, .slice none 0 0]
    rw [hs1] at this
    exact this
  have c11 := md_at hX2 11 (by omega)
  have c12 := md_at hX2 12 (by omega)
  simp only [List.getElem?_cons_zero, List.getElem?_cons_succ] at c11 c12
  clear hX hX2
  have HNe : Hid (w.heap.size ≤ N) := by rw [hN]; show _ ≤ _; omega
  go_enter Try.func63, Try.ntmps63
  go_wp2_with (refine wp_boxV rfl 52 _ rfl d.cells rfl (w.heap.size + 1) (by simp) ?_
               rw [← hw1, ← hN]
               have HSz : Hid (w1.heap.size = N + 1) := hs1
               clear hw1 hN hs1)
  rw [HSz.out]
  refine bodyPost_ret (results_cell_row (by rfl) _ _ (N + 1) 144 #[.int .i64 d.sn, .int .i64 d.sc, .slice none 0 0] (0, 0) _ (by rfl) HF.out Try.underlying144 rfl Try.size57) rfl ?_
  exact ⟨none, 0, rfl, Own.nil _ _ _ _, HK1.out.alloc _⟩


set_option maxRecDepth 100000 in
set_option maxHeartbeats 4000000 in
theorem keepR0_any (sz : Int) (d : MD) (w : World) (h0 : 0 ≤ sz) (h1 : sz ≤ 4096) (hn : d.sn = 0) (hc : d.sc = 0) :
    Calls Try.prog 64 #[.agg #[.int .i64 sz], .agg d.cells] w (KeepOut w 0 0 (List.replicate sz.toNat 0)) := by
  obtain ⟨w2, hw2⟩ : ∃ w2, w2 = ((w.alloc (.cells #[.int .i64 sz] 89)).alloc (.cells d.cells 52)).alloc (.cells #[.int .i64 0, .int .i64 0, .slice none 0 0] 144) := ⟨_, rfl⟩
  have HK2 : Hid (Kept No w w2) := by rw [hw2]; exact (((Kept.refl No w).alloc _).alloc _).alloc _
  have HZ : Hid (Box w2 (w.heap.size + 1 + 1) 144 #[.int .i64 0, .int .i64 0, .slice none 0 0]) := by
    have h := Box.new ((w.alloc (.cells #[.int .i64 sz] 89)).alloc (.cells d.cells 52)) 144 #[.int .i64 0, .int .i64 0, .slice none 0 0]
    have e : ((w.alloc (.cells #[.int .i64 sz] 89)).alloc (.cells d.cells 52)).heap.size = w.heap.size + 1 + 1 := by simp
    rw [e] at h
    rw [hw2]
    exact h
  have HX : Hid (Box w2 (w.heap.size + 1) 52 d.cells) := by
    have h := Box.new (w.alloc (.cells #[.int .i64 sz] 89)) 52 d.cells
    have e : (w.alloc (.cells #[.int .i64 sz] 89)).heap.size = w.heap.size + 1 := by simp
    rw [e] at h
    rw [hw2]
    exact h.alloc _
  obtain ⟨e11, e12, e15⟩ := md_cell d
  have q41 := eqlStamp
  rw [hn] at e11
  rw [hc] at e12
  clear hn hc e15 HX
  obtain ⟨n, rfl⟩ : ∃ n : Nat, sz = (n : Int) := ⟨sz.toNat, by omega⟩
  have hn : n ≤ 4096 := by omega
  simp only [Int.toNat_natCast]
  clear h0 h1
  obtain ⟨i0, hi, hz0, hz1, hz2⟩ := info_parts Try.info5
  go_enter Try.func64, Try.ntmps64
  go_wp2_with (first
    | (refine wp_boxV rfl 52 _ rfl d.cells rfl (w.heap.size + 1) (by simp) ?_)
    | (at_make
       rw [← hw2]
       go_must (
         refine wpList_make_full _ rfl (.tmp 10) (.tmp 10) 25 rfl w2.heap.size 5 i0 (.int .u8 0) 1 Try.underlying25 hi hz0 hz1 .i64 .i64 _ _ n rfl rfl (by omega) (by omega) (by rw [hz2]; omega) (by unfold maxLen; omega) (Nat.le_refl _) ?_
         intro w3 hown hgrow
         have HO3 : Hid (OwnB w3 w2.heap.size (some ⟨w2.heap.size, 0, none⟩) n (List.replicate n 0)) := (by
           have h := hown
           rw [made_bytes] at h
           have e : (List.replicate n (0 : Int)).length = n := by simp
           show Own 5 1 w3 w2.heap.size (some ⟨w2.heap.size, 0, none⟩) n (List.replicate n (0 : Int)).length _
           rw [e]
           exact h)
         have HK3 : Hid (Kept No w2 w3) := kept_grown hgrow
         have HZ3 : Hid (Box w3 (w.heap.size + 1 + 1) 144 #[.int .i64 0, .int .i64 0, .slice none 0 0]) := HZ.out.kept HK3.out (fun e => e)
         have b0 := HZ3.out.cell 0
         have b1 := HZ3.out.cell 1
         have b2 := HZ3.out.cell 2
         have f0 := HZ3.out.frozen 0
         have f1 := HZ3.out.frozen 1
         have f2 := HZ3.out.frozen 2
         simp only [List.getElem?_toArray, List.getElem?_cons_zero, List.getElem?_cons_succ] at b0 b1 b2
         obtain ⟨G, hG⟩ : ∃ G, G = w2.heap.size := ⟨_, rfl⟩
         have HG : Hid (G = w2.heap.size) := hG
         rw [← hG] at HO3 ⊢
         clear hown hgrow hw2 hG)))
  obtain ⟨hF, hKs⟩ := set3 HZ3.out (.int .i64 0) (.int .i64 0) (.slice (some ⟨G, 0, none⟩) n n)
  refine bodyPost_ret (results_cell_row (by rfl) _ _ (w.heap.size + 1 + 1) 144 #[.int .i64 0, .int .i64 0, .slice (some ⟨G, 0, none⟩) n n] (0, 0) _ (by rfl) hF Try.underlying144 rfl Try.size57) rfl ?_
  have hs := HZ.out.lt
  have hs2 := HG.out
  have e : (List.replicate n (0 : Int)).length = n := by simp
  refine ⟨some ⟨G, 0, none⟩, n, by rw [e], Own.lower (HO3.out.kept hKs (fun k hk e => ?_)) (Nat.le_trans HK2.out.size (Nat.le_of_eq HG.out.symm)), (HK2.out.then HK3.out).trans hKs (fun _ e => e) (fun i hi e => ?_)⟩
  · have h1 : k = w.heap.size + 1 + 1 := e
    have h2 := HO3.out.base hk
    omega
  · have : i = w.heap.size + 1 + 1 := e
    omega

set_option maxRecDepth 100000 in
set_option maxHeartbeats 4000000 in
theorem keepR1_any (sz : Int) (d : MD) (bz : List Int) (w : World) (hne : ¬ (d.sn = 0 ∧ d.sc = 0)) (hl : bz.length = d.bl) (hbl : d.bl ≤ 140737488355328) (hb : Bytes w d.ba bz) :
    Calls Try.prog 64 #[.agg #[.int .i64 sz], .agg d.cells] w (KeepOut w d.sn d.sc bz) := by
  obtain ⟨w2, hw2⟩ : ∃ w2, w2 = ((w.alloc (.cells #[.int .i64 sz] 89)).alloc (.cells d.cells 52)).alloc (.cells #[.int .i64 0, .int .i64 0, .slice none 0 0] 144) := ⟨_, rfl⟩
  have HK2 : Hid (Kept No w w2) := by rw [hw2]; exact (((Kept.refl No w).alloc _).alloc _).alloc _
  have HZ : Hid (Box w2 (w.heap.size + 1 + 1) 144 #[.int .i64 0, .int .i64 0, .slice none 0 0]) := by
    have h := Box.new ((w.alloc (.cells #[.int .i64 sz] 89)).alloc (.cells d.cells 52)) 144 #[.int .i64 0, .int .i64 0, .slice none 0 0]
    have e : ((w.alloc (.cells #[.int .i64 sz] 89)).alloc (.cells d.cells 52)).heap.size = w.heap.size + 1 + 1 := by simp
    rw [e] at h
    rw [hw2]
    exact h
  have HX : Hid (Box w2 (w.heap.size + 1) 52 d.cells) := by
    have h := Box.new (w.alloc (.cells #[.int .i64 sz] 89)) 52 d.cells
    have e : (w.alloc (.cells #[.int .i64 sz] 89)).heap.size = w.heap.size + 1 := by simp
    rw [e] at h
    rw [hw2]
    exact h.alloc _
  obtain ⟨e11, e12, e15⟩ := md_cell d
  have q41 := eqlStamp
  have hne' : (d.sn == 0 && d.sc == 0) = false := by
    cases h : (d.sn == 0 && d.sc == 0)
    · rfl
    · exact absurd (by simpa using h) hne
  have HB : Hid (Bytes w d.ba bz) := hb
  have HL : Hid (bz.length = d.bl) := hl
  clear hne hb hl
  go_enter Try.func64, Try.ntmps64
  go_upto_region 3 with (refine wp_boxV rfl 52 _ rfl d.cells rfl (w.heap.size + 1) (by simp) ?_)
  rw [← hw2]
  obtain ⟨N, hN⟩ : ∃ N, N = w.heap.size + 1 := ⟨_, rfl⟩
  rw [← hN] at HX HZ ⊢
  have HNN : Hid (N = w.heap.size + 1) := hN
  clear hw2 hN e11 e12 e15 q41
  have HXc : Hid (∀ wr, Kept No w2 wr → wr.cell? ⟨N, 11, none⟩ = some (.int .i64 d.sn) ∧ wr.cell? ⟨N, 12, none⟩ = some (.int .i64 d.sc) ∧ wr.cell? ⟨N, 15, none⟩ = some (.slice d.ba d.bl d.bk)) := fun wr hk => by
    have h := HX.out.kept hk (fun e => e)
    exact ⟨md_at h 11 (by omega), md_at h 12 (by omega), md_at h 15 (by omega)⟩
  obtain ⟨x0, x1, x2⟩ := HXc.out w2 (Kept.refl _ _)
  have HKr : Hid (Kept No w2 w2.drew) := (Kept.refl No w2).drew
  have nA : N ≠ N + 1 := by omega
  have nB : N + 1 ≠ N := by omega
  go_region_held3 (fun w' => w'.cell? ⟨N, 11, none⟩ = some (.int .i64 d.sn) ∧ w'.cell? ⟨N, 12, none⟩ = some (.int .i64 d.sc) ∧ w'.cell? ⟨N, 15, none⟩ = some (.slice d.ba d.bl d.bk)) (go_keep) (first
    | (go_at_call 32
       refine Calls.mono (clone_any d.ba d.bl d.bk bz w2.drew HL.out hbl (HB.out.no (HK2.out.then HKr.out))) ?_
       rintro e w3 ⟨a3, c3, rfl, hO3, hk3, _, _⟩
       have HK3 : Hid (Kept No w2 w3) := HKr.out.then hk3
       have HO3 : Hid (OwnB w3 w2.heap.size a3 c3 bz) := hO3
       obtain ⟨y0, y1, y2⟩ := HXc.out w3 HK3.out
       have HZ3 : Hid (Box w3 (N + 1) 144 #[.int .i64 0, .int .i64 0, .slice none 0 0]) := HZ.out.kept HK3.out (fun e => e)
       have b0 := HZ3.out.cell 0
       have b1 := HZ3.out.cell 1
       have b2 := HZ3.out.cell 2
       have f0 := HZ3.out.frozen 0
       have f1 := HZ3.out.frozen 1
       have f2 := HZ3.out.frozen 2
       simp only [List.getElem?_toArray, List.getElem?_cons_zero, List.getElem?_cons_succ] at b0 b1 b2
       clear hO3 hk3))
  obtain ⟨hF, hKs⟩ := set3 HZ3.out (.int .i64 d.sn) (.int .i64 d.sc) (.slice a3 bz.length c3)
  have HF : Hid _ := hF
  have HKs : Hid _ := hKs
  clear hF hKs
  generalize (((w3.setCell ⟨N + 1, 0, none⟩ (.int .i64 d.sn)).setCell ⟨N + 1, 1, none⟩ (.int .i64 d.sc)).setCell ⟨N + 1, 2, none⟩ (.slice a3 bz.length c3)) = w4 at HF HKs ⊢
  clear b0 b1 b2 f0 f1 f2
  go_wp2
  refine bodyPost_ret (results_cell_row (by rfl) _ _ (N + 1) 144 #[.int .i64 d.sn, .int .i64 d.sc, .slice a3 bz.length c3] (0, 0) _ (by rfl) HF.out Try.underlying144 rfl Try.size57) rfl ?_
  have hs := HZ.out.lt
  have hN := HNN.out
  refine ⟨a3, c3, rfl, Own.lower (HO3.out.kept HKs.out (fun k hk e => ?_)) HK2.out.size, (HK2.out.then HK3.out).trans HKs.out (fun _ e => e) (fun i hi e => ?_)⟩
  · have h1 : k = N + 1 := e
    have h2 := HO3.out.base hk
    omega
  · have : i = N + 1 := e
    omega

end Go.Proofs.Ythnecaejhnojfaa
namespace Go.Proofs.Ythnecaejhnojfaa
open Go.RowKit
set_option linter.unusedVariables false
set_option linter.unusedSimpArgs false

theorem results_cct {fn : Func} {p q u : Tmp} {t s : TypeId} (h : fn.results = #[.cell p t, .cell q s, .tmp u]) (tmps : Array Value) (P : Program) (w : World) :
    (results fn tmps).run P w = ((asAddr (tmps.getD p undef)).run P w).andThen fun a w₁ => ((loadVar t a).run P w₁).andThen fun v w₂ => ((asAddr (tmps.getD q undef)).run P w₂).andThen fun b w₃ => ((loadVar s b).run P w₃).andThen fun v' w₄ => .ok (.tuple #[v, v', tmps.getD u undef]) w₄ := by
  simp only [results, h]
  simp [Sem.run_bind, Result.andThen]
theorem results_row2_tmp {fn : Func} {p q u : Tmp} {t s : TypeId} (h : fn.results = #[.cell p t, .cell q s, .tmp u]) (tmps : Array Value) (w : World) (g g' : Nat) (cs cs' : Array Value) (hp : tmps.getD p undef = .pointer (some ⟨g, 0, none⟩)) (hq : tmps.getD q undef = .pointer (some ⟨g', 0, none⟩)) (hrun : (loadVar t ⟨g, 0, none⟩).run Try.prog w = .ok (.agg cs) w) (hrun' : (loadVar s ⟨g', 0, none⟩).run Try.prog w = .ok (.agg cs') w) :
    (results fn tmps).run Try.prog w = .ok (.tuple #[.agg cs, .agg cs', tmps.getD u undef]) w := by
  rw [results_cct h, hp, hq]
  simp [asAddr, hrun, hrun', Result.andThen]

def storeR (x : Addr) (v : Value) := storeVar 72 x v
theorem storeR_eq (x : Addr) (v : Value) : storeVar 72 x v = storeR x v := rfl
theorem run_storeR (g : Nat) (w : World) (cs : Array Value) (hb : Box w g 72 (resC 0 0 0 none 0 0)) (hc : cs.size = 11) (h1 : cs.all (·.oneCell') = true) : Sem.run Try.prog (storeR ⟨g, 0, none⟩ (.agg cs)) w = .ok () (w.setRow g cs) :=
  run_storeVar_row w g 72 72 (resC 0 0 0 none 0 0) cs hb (by rw [hc]; exact Try.size90) (by rw [hc]; rfl) h1
theorem cell_setRow (w : World) (g : Nat) (cs : Array Value) (b i : Nat) (h : b ≠ g) : (w.setRow g cs).cell? ⟨b, i, none⟩ = w.cell? ⟨b, i, none⟩ := by
  unfold World.cell?
  simp only [setRow_other w g b cs h]
theorem frozen_setRow (w : World) (g : Nat) (cs : Array Value) (b i : Nat) (h : b ≠ g) : (w.setRow g cs).frozen? ⟨b, i, none⟩ = w.frozen? ⟨b, i, none⟩ := by
  unfold World.frozen?
  simp only [setRow_other w g b cs h]

def SettleOut (w : World) (n c : Int) (a : Option Addr) (l k : Nat) (err sn sc : Int) (da : Option Addr) (dl dc : Nat) (b : Bool) (e : Ending) (w' : World) : Prop :=
  e = .returned (.tuple #[.agg #[.int .i64 n, .int .i64 c, .slice a l k], .agg (resC err sn sc da dl dc), .bool b]) ∧ Kept No w w'

end Go.Proofs.Ythnecaejhnojfaa
