import Derived.Test.YtgiokkcdgoloaabMj
import Derived.Test.YtgiokkcdgoloaabNc
import Derived.Test.YtgiokkcdgoloaabTs
import Derived.Test.YtgiokkcdgoloaabTt
namespace Go.Proofs.Ytgiokkcdgoloaab
open Go.RowKit
set_option linter.unusedVariables false
set_option linter.unusedSimpArgs false

/-- A message: what is looked at, and the rest of its cells. -/
structure MD where
  kind : Int
  fc : Bool
  fi : Int
  tc : Bool
  ti : Int
  op : Int
  rd : Int
  k0 : Int
  k1 : Int
  k2 : Int
  k3 : Int
  sn : Int
  sc : Int
  h0 : Int
  h1 : Int
  ba : Option Addr
  bl : Nat
  bk : Nat
  rest : List Value
def MD.cells (d : MD) : Array Value := (([.int .i64 d.kind, .bool d.fc, .int .i64 d.fi, .bool d.tc, .int .i64 d.ti, .int .i64 d.op, .int .i64 d.rd, .int .i64 d.k0, .int .i64 d.k1, .int .i64 d.k2, .int .i64 d.k3, .int .i64 d.sn, .int .i64 d.sc, .int .i64 d.h0, .int .i64 d.h1, .slice d.ba d.bl d.bk] : List Value) ++ d.rest).toArray
structure MdOk (d : MD) : Prop where
  len : d.rest.length = 14
  one : ∀ v ∈ d.rest, v.oneCell' = true
theorem MD.size {d : MD} (h : MdOk d) : d.cells.size = 30 := by simp [MD.cells, h.len]
theorem MD.one {d : MD} (h : MdOk d) : d.cells.all (·.oneCell') = true := by
  simp only [MD.cells, List.all_toArray, List.all_append, Bool.and_eq_true, List.all_eq_true]
  refine ⟨?_, h.one⟩
  intro v hv
  simp only [List.mem_cons, List.not_mem_nil, or_false] at hv
  rcases hv with h | h | h | h | h | h | h | h | h | h | h | h | h | h | h | h <;> subst h <;> rfl
theorem md_at {d : MD} {w : World} {g : Nat} (h : Box w g 73 d.cells) (i : Nat) (hi : i < 16) : w.cell? ⟨g, i, none⟩ = ([.int .i64 d.kind, .bool d.fc, .int .i64 d.fi, .bool d.tc, .int .i64 d.ti, .int .i64 d.op, .int .i64 d.rd, .int .i64 d.k0, .int .i64 d.k1, .int .i64 d.k2, .int .i64 d.k3, .int .i64 d.sn, .int .i64 d.sc, .int .i64 d.h0, .int .i64 d.h1, .slice d.ba d.bl d.bk] : List Value)[i]? := by
  rw [h.cell, MD.cells, List.getElem?_toArray, List.getElem?_append_left (by simpa using hi)]

theorem Try.size73 : (Try.prog.info? 73).map (·.size) = some 30 := by kernel_rfl
section
variable {ops : Array Oper} {rest : List Oper} {o : Oper} {a : Act} {w : World} {Q : Exit → Act → World → Prop}
theorem wp_boxV (hg : o.guard = none) (t : TypeId) (x : Operand) (ho : o.op = .box t x) (cs : Array Value) (hx : a.eval x = .agg cs) (N : Nat) (hN : w.heap.size = N)
    (h : wpList Try.prog ops Q rest (a.put o.dst (.pointer (some ⟨N, 0, none⟩))) (w.alloc (.cells cs t))) : wpList Try.prog ops Q (o :: rest) a w := by
  subst hN
  refine wp_runTo hg _ (w.alloc (.cells cs t)) ?_ h
  simp only [execOp, ho, hx, Instr.box, Sem.run_bind, Result.andThen_ok, newVar, newRow, run_newObj_alloc, Sem.run_pure]
  rfl
theorem wp_loadM (hg : o.guard = none) (x : Operand) (ho : o.op = .load 73 x) (g : Nat) (cs : Array Value) (hx : a.eval x = .pointer (some ⟨g, 0, none⟩)) (hl : cs.size = 30) {t : TypeId} (hb : Box w g t cs)
    (h : wpList Try.prog ops Q rest (a.put o.dst (.agg cs)) w) : wpList Try.prog ops Q (o :: rest) a w :=
  wpList_load_row hg 73 x ho g hx t cs (0, 0) _ hb Try.underlying73 rfl (by rw [hl]; exact Try.size73) h
end
theorem load52_run {w : World} {g : Nat} {cs : Array Value} (hb : Box w g 73 cs) (hl : cs.size = 30) : (loadVar 73 ⟨g, 0, none⟩).run Try.prog w = .ok (.agg cs) w :=
  run_loadVar_row w g 73 73 cs (0, 0) _ hb Try.underlying73 rfl (by rw [hl]; exact Try.size73)

theorem flds39 : (Try.prog.fieldsOf 65).toList = [{ name := "Client", type := 4, offset := 0, embedded := false, tag := "", pkgPath := "", byteOffset := 0 }, { name := "Id", type := 3, offset := 1, embedded := false, tag := "", pkgPath := "", byteOffset := 8 }] := by kernel_rfl
theorem flds23 : (Try.prog.fieldsOf 49).toList = [{ name := "Kind", type := 3, offset := 0, embedded := false, tag := "", pkgPath := "", byteOffset := 0 }, { name := "A", type := 3, offset := 1, embedded := false, tag := "", pkgPath := "", byteOffset := 8 }, { name := "B", type := 3, offset := 2, embedded := false, tag := "", pkgPath := "", byteOffset := 16 }, { name := "C", type := 3, offset := 3, embedded := false, tag := "", pkgPath := "", byteOffset := 24 }] := by kernel_rfl
theorem eqlAddr (a c : Bool) (n m : Int) (w : World) : (binOp .eql 65 (.agg #[.bool a, .int .i64 n]) (.agg #[.bool c, .int .i64 m])).run Try.prog w = .ok (.bool (a == c && n == m)) w := by
  have h0 : ∀ (a : Bool) (n : Int) (w : World), (part 4 #[.bool a, .int .i64 n] 0).run Try.prog w = .ok (.bool a) w := fun a n w => by kernel_rfl
  have h1 : ∀ (a : Bool) (n : Int) (w : World), (part 3 #[.bool a, .int .i64 n] 1).run Try.prog w = .ok (.int .i64 n) w := fun a n w => by kernel_rfl
  have hE : ∀ (a b : Int) (w : World), (Op.equalIn 9999 3 (.int .i64 a) (.int .i64 b)).run Try.prog w = .ok (a == b) w := fun a b w => run_equalIn_int w 9998 3 .i64 .i64 a b Try.und3
  have hB : ∀ (a b : Bool) (w : World), (Op.equalIn 9999 4 (.bool a) (.bool b)).run Try.prog w = .ok (a == b) w := fun a b w => by cases a <;> cases b <;> kernel_rfl
  rw [run_eql_struct, show (10000 : Nat) = 9998 + 1 + 1 from rfl, run_equalIn_struct w (9998 + 1) 65 _ _ (by kernel_rfl) (by kernel_rfl), flds39]
  cases h : a == c <;> cases h' : n == m <;> simp [Op.eqFields, h0, h1, hE, hB, h, h', Result.andThen]
theorem eqlKey (a b c d a' b' c' d' : Int) (w : World) : (binOp .eql 49 (.agg #[.int .i64 a, .int .i64 b, .int .i64 c, .int .i64 d]) (.agg #[.int .i64 a', .int .i64 b', .int .i64 c', .int .i64 d'])).run Try.prog w = .ok (.bool (a == a' && (b == b' && (c == c' && d == d')))) w := by
  have h0 : ∀ (a b c d : Int) (w : World), (part 3 #[.int .i64 a, .int .i64 b, .int .i64 c, .int .i64 d] 0).run Try.prog w = .ok (.int .i64 a) w := fun a b c d w => by kernel_rfl
  have h1 : ∀ (a b c d : Int) (w : World), (part 3 #[.int .i64 a, .int .i64 b, .int .i64 c, .int .i64 d] 1).run Try.prog w = .ok (.int .i64 b) w := fun a b c d w => by kernel_rfl
  have h2 : ∀ (a b c d : Int) (w : World), (part 3 #[.int .i64 a, .int .i64 b, .int .i64 c, .int .i64 d] 2).run Try.prog w = .ok (.int .i64 c) w := fun a b c d w => by kernel_rfl
  have h3 : ∀ (a b c d : Int) (w : World), (part 3 #[.int .i64 a, .int .i64 b, .int .i64 c, .int .i64 d] 3).run Try.prog w = .ok (.int .i64 d) w := fun a b c d w => by kernel_rfl
  have hE : ∀ (a b : Int) (w : World), (Op.equalIn 9999 3 (.int .i64 a) (.int .i64 b)).run Try.prog w = .ok (a == b) w := fun a b w => run_equalIn_int w 9998 3 .i64 .i64 a b Try.und3
  rw [run_eql_struct, show (10000 : Nat) = 9998 + 1 + 1 from rfl, run_equalIn_struct w (9998 + 1) 49 _ _ (by kernel_rfl) (by kernel_rfl), flds23]
  cases ha : a == a' <;> cases hb : b == b' <;> cases hc : c == c' <;> cases hd : d == d' <;> simp [Op.eqFields, h0, h1, h2, h3, hE, ha, hb, hc, hd, Result.andThen]

/-- Does a server answer what is asked in the present round? -/
def hitB (x : MS) (kind : Int) (d : MD) : Bool := (d.kind == kind) && ((!d.fc) && ((d.tc && d.ti == x.cl) && ((d.op == x.op) && ((d.rd == x.rd) && (d.k0 == x.k0 && (d.k1 == x.k1 && (d.k2 == x.k2 && d.k3 == x.k3)))))))

set_option maxRecDepth 100000 in
set_option maxHeartbeats 4000000 in
theorem answered_any (m : Nat) (a : Option Addr) (cap : Nat) (x : MS) (t : TypeId) (v : Value) (d : MD) (kind : Int) (w : World) (hM : Mach w m a cap x t v) :
    Calls Try.prog 86 #[.pointer (some ⟨m, 0, none⟩), .agg d.cells, .int .i64 kind] w (fun e w' => e = .returned (.bool (hitB x kind d)) ∧ Kept No w w') := by
  obtain ⟨w1, hw1⟩ : ∃ w1, w1 = w.alloc (.cells d.cells 73) := ⟨_, rfl⟩
  obtain ⟨N, hN⟩ : ∃ N, N = w.heap.size := ⟨_, rfl⟩
  have HK1 : Hid (Kept No w w1) := by rw [hw1]; exact (Kept.refl No w).alloc _
  have hX : Box w1 N 73 d.cells := by rw [hw1, hN]; exact Box.new _ _ _
  have hB := (hM.no HK1.out).box
  have c0 := md_at hX 0 (by omega)
  have c1 := md_at hX 1 (by omega)
  have c3 := md_at hX 3 (by omega)
  have c4 := md_at hX 4 (by omega)
  have c5 := md_at hX 5 (by omega)
  have c6 := md_at hX 6 (by omega)
  have c7 := md_at hX 7 (by omega)
  have c8 := md_at hX 8 (by omega)
  have c9 := md_at hX 9 (by omega)
  have c10 := md_at hX 10 (by omega)
  simp only [List.getElem?_cons_zero, List.getElem?_cons_succ] at c0 c1 c3 c4 c5 c6 c7 c8 c9 c10
  have m0 := hB.cell 0
  have m1 := hB.cell 1
  have m2 := hB.cell 2
  have m3 := hB.cell 3
  have m4 := hB.cell 4
  have m5 := hB.cell 5
  have m6 := hB.cell 6
  have m8 := hB.cell 8
  simp only [mC, List.getElem?_toArray, List.getElem?_cons_zero, List.getElem?_cons_succ] at m0 m1 m2 m3 m4 m5 m6 m8
  have q39 : ∀ (a : Bool) (n m : Int) (w : World), (binOp .eql 65 (.agg #[.bool a, .int .i64 n]) (.agg #[.bool true, .int .i64 m])).run Try.prog w = .ok (.bool (a && n == m)) w := fun a n m w => by rw [eqlAddr]; simp
  have q23 := eqlKey
  clear hX hB hM
  have HH : Hid (hitB x kind d = ((d.kind == kind) && ((!d.fc) && ((d.tc && d.ti == x.cl) && ((d.op == x.op) && ((d.rd == x.rd) && (d.k0 == x.k0 && (d.k1 == x.k1 && (d.k2 == x.k2 && d.k3 == x.k3))))))))) := rfl
  have HCs : Hid (d.cells = d.cells) := rfl
  generalize hitB x kind d = R at HH
  obtain ⟨xcl, xop, xk0, xk1, xk2, xk3, xg, xrd⟩ := x
  obtain ⟨dkind, dfc, dfi, dtc, dti, dop, drd, dk0, dk1, dk2, dk3, dsn, dsc, dh0, dh1, dba, dbl, dbk, drest⟩ := d
  simp only at HH c0 c1 c3 c4 c5 c6 c7 c8 c9 c10 m0 m1 m2 m3 m4 m5 m6 m8
  generalize (MD.mk dkind dfc dfi dtc dti dop drd dk0 dk1 dk2 dk3 dsn dsc dh0 dh1 dba dbl dbk drest).cells = CS at hw1 HCs ⊢
  clear HCs
  cases h1 : dkind == kind
  · go_enter Try.func86, Try.ntmps86
    go_upto_region 1 with (refine wp_boxV rfl 73 _ rfl CS rfl w.heap.size rfl ?_)
    rw [← hw1, ← hN]
    clear hw1 hN
    go_quiet (fail)
    go_wp2
    go_ret
    exact ⟨ret_bool (by rw [HH.out]; simp [*]), (HK1.out.drewN _)⟩
  · obtain rfl : dkind = kind := by simpa using h1
    clear h1
    cases dfc
    · cases h2 : (dtc && dti == xcl)
      · go_enter Try.func86, Try.ntmps86
        go_upto_region 1 with (refine wp_boxV rfl 73 _ rfl CS rfl w.heap.size rfl ?_)
        rw [← hw1, ← hN]
        clear hw1 hN
        go_quiet (fail)
        go_wp2
        go_ret
        exact ⟨ret_bool (by rw [HH.out]; simp [*]), (HK1.out.drewN _)⟩
      · obtain ⟨rfl, rfl⟩ : dtc = true ∧ dti = xcl := by simpa using h2
        clear h2
        cases h3 : dop == xop
        · go_enter Try.func86, Try.ntmps86
          go_upto_region 1 with (refine wp_boxV rfl 73 _ rfl CS rfl w.heap.size rfl ?_)
          rw [← hw1, ← hN]
          clear hw1 hN
          go_quiet (fail)
          go_wp2
          go_ret
          exact ⟨ret_bool (by rw [HH.out]; simp [*]), (HK1.out.drewN _)⟩
        · obtain rfl : dop = xop := by simpa using h3
          clear h3
          cases h4 : drd == xrd
          · go_enter Try.func86, Try.ntmps86
            go_upto_region 1 with (refine wp_boxV rfl 73 _ rfl CS rfl w.heap.size rfl ?_)
            rw [← hw1, ← hN]
            clear hw1 hN
            go_quiet (fail)
            go_wp2
            go_ret
            exact ⟨ret_bool (by rw [HH.out]; simp [*]), (HK1.out.drewN _)⟩
          · obtain rfl : drd = xrd := by simpa using h4
            clear h4
            go_enter Try.func86, Try.ntmps86
            go_upto_region 1 with (refine wp_boxV rfl 73 _ rfl CS rfl w.heap.size rfl ?_)
            rw [← hw1, ← hN]
            clear hw1 hN
            go_quiet (fail)
            go_wp2
            go_ret
            exact ⟨ret_bool (by rw [HH.out]; simp [*]), (HK1.out.drewN _)⟩
    · go_enter Try.func86, Try.ntmps86
      go_upto_region 1 with (refine wp_boxV rfl 73 _ rfl CS rfl w.heap.size rfl ?_)
      rw [← hw1, ← hN]
      clear hw1 hN
      go_quiet (fail)
      go_wp2
      go_ret
      exact ⟨ret_bool (by rw [HH.out]; simp [*]), (HK1.out.drewN _)⟩

end Go.Proofs.Ytgiokkcdgoloaab
