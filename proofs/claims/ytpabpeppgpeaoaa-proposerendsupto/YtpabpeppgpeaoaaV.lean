import Derived.Test.YtpabpeppgpeaoaaT
namespace Go.Proofs.Ytpabpeppgpeaoaa
open Go.RowKit Gt
set_option linter.unusedVariables false
set_option linter.unusedSimpArgs false

def vAt (ps : List Vt) (i : Nat) : Vt := ps[i]?.getD vZ
def ltV (ps : List Vt) (i j : Nat) : Bool := vLess (vAt ps i) (vAt ps j)
def bestV (ps : List Vt) : Vt := vAt ps (bi (ltV ps) (ps.length - 1))
def Vts (w : World) (b off : Nat) (ps : List Vt) : Prop := ∀ i, i < ps.length → VAt w b (off + i * 11) (vAt ps i)
theorem Vts.no {w w' : World} {b off : Nat} {ps : List Vt} (h : Vts w b off ps) (hk : Kept No w w') : Vts w' b off ps := fun i hi => (h i hi).no hk
theorem bestV_step {ps : List Vt} {k : Nat} : (vLess (vAt ps (bi (ltV ps) k)) (vAt ps (k + 1)) = true → vAt ps (bi (ltV ps) (k + 1)) = vAt ps (k + 1)) ∧ (vLess (vAt ps (bi (ltV ps) k)) (vAt ps (k + 1)) = false → vAt ps (bi (ltV ps) (k + 1)) = vAt ps (bi (ltV ps) k)) :=
  ⟨fun h => by rw [bi_yes (lt := ltV ps) h], fun h => by rw [bi_no (lt := ltV ps) h]⟩
def BestOut (w : World) (ps : List Vt) (e : Ending) (w' : World) : Prop := e = .returned (.tuple #[.agg (vcell (bestV ps)), .bool true]) ∧ Kept No w w'
set_option maxRecDepth 100000 in
set_option maxHeartbeats 4000000 in
theorem best_any (b off n cap : Nat) (ps : List Vt) (w : World) (hs : ps.length = n + 1) (hn : n + 1 ≤ 1000000000) (hcap : n + 1 ≤ cap) (hc1 : ¬ cap = 1) (hm : cap ≤ 9223372036854775807) (h : Vts w b off ps) :
    Calls Try.prog 95 #[.func (.func 93) #[] #[], .slice (some ⟨b, off, none⟩) (n + 1) cap] w (BestOut w ps) := by
  refine hideC fun C HC => ?_
  have HS : Hid (ps.length = n + 1) := hs
  have HV : Hid (∀ W, Kept No w W → ∀ i, i < n + 1 → VAt W b (off + i * 11) (vAt ps i)) := fun W hk i hi => (h.no hk) i (by omega)
  have hb0 : ((n : Int) + 1 == 0) = false := by simp; omega
  clear hs h
  go_enter Try.func95, Try.ntmps95
  go_upto_region 0 with fail
  refine WL.start ?_
  refine wp_allocW 153 rfl (vcell vZ) zero153 w.heap.size rfl (by kernel_rfl) ?_
  try simp only [pS]
  refine uK (.bool false) <| WL.nil <| ?_
  try simp only [pS]
  obtain ⟨w1, hw1⟩ : ∃ w1, w1 = w.alloc (.cells (vcell vZ) 153) := ⟨_, rfl⟩
  rw [← hw1]
  have HA1 : Hid (Box w1 w.heap.size 153 (vcell vZ)) := by rw [hw1]; exact Box.new _ _ _
  have HK1 : Hid (Kept No w w1) := by rw [hw1]; exact (Kept.refl No w).alloc _
  obtain ⟨A, hA⟩ : ∃ A, A = w.heap.size := ⟨_, rfl⟩
  rw [← hA] at HA1 ⊢
  have HAw : Hid (w.heap.size ≤ A) := by show _ ≤ _; omega
  clear hw1 hA
  go_upto_region 4 with fail
  refine WL.start <| uK (.slice (some ⟨b, off, none⟩) (n + 1) cap) <| uW (pV b (off + 0 * 11)) (exec_ixA 174 11 Try.und174 Try.size174 _ _ rfl b off (n + 1) cap 0 (by kernel_rfl) (by kernel_rfl) (by omega)) <| uL 153 ⟨b, off + 0 * 11, none⟩ (.agg (vcell (vAt ps 0))) (load_VAt (HV.out w1 HK1.out 0 (by omega))) <| ?_
  try simp only [pS]
  refine wp_allocW 153 rfl (vcell vZ) zero153 w1.heap.size rfl (by kernel_rfl) ?_
  try simp only [pS]
  obtain ⟨w2, hw2⟩ : ∃ w2, w2 = w1.alloc (.cells (vcell vZ) 153) := ⟨_, rfl⟩
  rw [← hw2]
  have HB2 : Hid (Box w2 w1.heap.size 153 (vcell vZ)) := by rw [hw2]; exact Box.new _ _ _
  have HA2 : Hid (Box w2 A 153 (vcell vZ)) := by rw [hw2]; exact HA1.out.alloc _
  have HK2 : Hid (Kept No w w2) := by rw [hw2]; exact HK1.out.alloc _
  obtain ⟨B, hB⟩ : ∃ B, B = w1.heap.size := ⟨_, rfl⟩
  rw [← hB] at HB2 ⊢
  have HBw : Hid (w.heap.size ≤ B ∧ A < B) := ⟨by have := HK1.out.size; omega, by have := HA1.out.lt; omega⟩
  clear hw2 hB HA1 HK1
  refine uT 153 ⟨B, 0, none⟩ (.agg (vcell (vAt ps 0))) _ (store_V HB2.out rfl) ?_
  try simp only [pS]
  refine WL.nil ?_
  try simp only [pS]
  obtain ⟨w3, hw3⟩ : ∃ w3, w3 = w2.setRow B (vcell (vAt ps 0)) := ⟨_, rfl⟩
  rw [← hw3]
  have HB3 : Hid (Box w3 B 153 (vcell (vAt ps (bi (ltV ps) 0)))) := by rw [hw3]; exact HB2.out.setRow _
  have HA3 : Hid (Box w3 A 153 (vcell vZ)) := by rw [hw3]; exact HA2.out.rowNe (by have := HBw.out; omega) _
  have HK3 : Hid (Kept No w w3) := by rw [hw3]; exact HK2.out.newRow HBw.out.1 _
  clear hw3 HB2 HA2 HK2
  go_wp2
  go_loopw [20] (fun vi wr => ∃ k : Nat, vi = .int .i64 k ∧ k ≤ n ∧ Hid (Box wr A 153 (vcell vZ)) ∧ Hid (Box wr B 153 (vcell (vAt ps (bi (ltV ps) k)))) ∧ Hid (Kept No w wr)) (fun i _ => n - (intOf i).toNat)
  case atStart => exact ⟨0, by go_num, by omega, HA3, HB3, HK3⟩
  case round =>
    obtain ⟨k, rfl, hk, HA, HB, HK⟩ := hrel
    clear HA3 HB3 HK3
    by_cases hlt : k < n
    · have hlt' : (k : Int) < (n : Int) := by omega
      have HQ := HV.out wr HK.out (k + 1) (by omega)
      rw [show off + (k + 1) * 11 = off + 11 + k * 11 by omega] at HQ
      have HQ : Hid (VAt wr b (off + 11 + k * 11) (vAt ps (k + 1))) := HQ
      have HY : Hid _ := @bestV_step ps k
      generalize vAt ps (bi (ltV ps) k) = x at HB HY
      generalize vAt ps (k + 1) = y at HQ HY
      go_upto_region 7 with fail
      refine WL.start <| uW (pV b (off + 11 + k * 11)) (exec_ixA 174 11 Try.und174 Try.size174 _ _ rfl b (off + 11) n (cap - 1) k (by kernel_rfl) (by kernel_rfl) hlt) <| uL 153 ⟨b, off + 11 + k * 11, none⟩ (.agg (vcell y)) (load_VAt HQ.out) <| ?_
      try simp only [pS]
      refine wp_allocW 153 rfl (vcell vZ) zero153 wr.heap.size rfl (by kernel_rfl) ?_
      try simp only [pS]
      obtain ⟨w5, hw5⟩ : ∃ w5, w5 = wr.alloc (.cells (vcell vZ) 153) := ⟨_, rfl⟩
      rw [← hw5]
      have HD5 : Hid (Box w5 wr.heap.size 153 (vcell vZ)) := by rw [hw5]; exact Box.new _ _ _
      have HA5 : Hid (Box w5 A 153 (vcell vZ)) := by rw [hw5]; exact HA.out.alloc _
      have HB5 : Hid (Box w5 B 153 (vcell x)) := by rw [hw5]; exact HB.out.alloc _
      have HK5 : Hid (Kept No w w5) := by rw [hw5]; exact HK.out.alloc _
      obtain ⟨D, hD⟩ : ∃ D, D = wr.heap.size := ⟨_, rfl⟩
      rw [← hD] at HD5 ⊢
      have HDw : Hid (w.heap.size ≤ D ∧ A < D ∧ B < D) := ⟨by have := HK.out.size; omega, by have := HA.out.lt; omega, by have := HB.out.lt; omega⟩
      clear hw5 hD HA HB HK HQ
      refine uT 153 ⟨D, 0, none⟩ (.agg (vcell y)) _ (store_V HD5.out rfl) ?_
      try simp only [pS]
      refine WL.nil ?_
      try simp only [pS]
      obtain ⟨w6, hw6⟩ : ∃ w6, w6 = w5.setRow D (vcell y) := ⟨_, rfl⟩
      rw [← hw6]
      have HD6 : Hid (Box w6 D 153 (vcell y)) := by rw [hw6]; exact HD5.out.setRow _
      have HA6 : Hid (Box w6 A 153 (vcell vZ)) := by rw [hw6]; exact HA5.out.rowNe (by have := HDw.out; omega) _
      have HB6 : Hid (Box w6 B 153 (vcell x)) := by rw [hw6]; exact HB5.out.rowNe (by have := HDw.out; omega) _
      have HK6 : Hid (Kept No w w6) := by rw [hw6]; exact HK5.out.newRow HDw.out.1 _
      clear hw6 HD5 HA5 HB5 HK5
      go_upto_region 8 with fail
      refine WL.start <| uK (.func (.func 93) #[] #[]) <| uL 153 ⟨B, 0, none⟩ (.agg (vcell x)) (load_V HB6.out) <| uL 153 ⟨D, 0, none⟩ (.agg (vcell y)) (load_V HD6.out) <| ?_
      try simp only [pS]
      refine uC 93 #[.agg (vcell x), .agg (vcell y)] (vless_any x y w6) ?_
      rintro e w7 ⟨rfl, hk7⟩
      have HK7 : Hid (Kept No w w7) := HK6.out.then hk7
      have HA7 : Hid (Box w7 A 153 (vcell vZ)) := HA6.out.kept hk7 (fun e => e)
      have HB7 : Hid (Box w7 B 153 (vcell x)) := HB6.out.kept hk7 (fun e => e)
      have HD7 : Hid (Box w7 D 153 (vcell y)) := HD6.out.kept hk7 (fun e => e)
      refine ⟨.bool (vLess x y), rfl, ?_⟩
      clear hk7 HA6 HB6 HD6 HK6
      try simp only [pS]
      refine WL.nil ?_
      try simp only [pS]
      cases hb : vLess x y with
      | true =>
        have HU : Hid (vAt ps (bi (ltV ps) (k + 1)) = y) := HY.out.1 hb
        clear HY hb
        go_upto_region 9 with fail
        refine WL.start <| uL 153 ⟨D, 0, none⟩ (.agg (vcell y)) (load_V HD7.out) <| ?_
        try simp only [pS]
        refine uT 153 ⟨B, 0, none⟩ (.agg (vcell y)) _ (store_V HB7.out rfl) ?_
        try simp only [pS]
        refine WL.nil ?_
        try simp only [pS]
        obtain ⟨w8, hw8⟩ : ∃ w8, w8 = w7.setRow B (vcell y) := ⟨_, rfl⟩
        rw [← hw8]
        have HB8 : Hid (Box w8 B 153 (vcell (vAt ps (bi (ltV ps) (k + 1))))) := by rw [HU.out, hw8]; exact HB7.out.setRow _
        have HA8 : Hid (Box w8 A 153 (vcell vZ)) := by rw [hw8]; exact HA7.out.rowNe (by have := HBw.out; omega) _
        have HK8 : Hid (Kept No w w8) := by rw [hw8]; exact HK7.out.newRow HBw.out.1 _
        clear hw8 HU HA7 HB7 HD7 HK7
        go_wp2
        go_roundw
        case rel => exact ⟨k + 1, by go_num, by omega, HA8, HB8, HK8⟩
        case measure => simp [intOf]; omega
      | false =>
        have HU : Hid (vAt ps (bi (ltV ps) (k + 1)) = x) := HY.out.2 hb
        clear HY hb
        have HB8 : Hid (Box w7 B 153 (vcell (vAt ps (bi (ltV ps) (k + 1))))) := by rw [HU.out]; exact HB7.out
        clear HU HB7 HD7
        go_wp2
        go_roundw
        case rel => exact ⟨k + 1, by go_num, by omega, HA7, HB8, HK7⟩
        case measure => simp [intOf]; omega
    · have hlt' : ¬ (k : Int) < (n : Int) := by omega
      obtain rfl : k = n := by omega
      have HE : Hid (bestV ps = vAt ps (bi (ltV ps) k)) := by show vAt ps (bi (ltV ps) (ps.length - 1)) = _; rw [HS.out, Nat.add_sub_cancel]
      rw [← HE.out] at HB
      clear HE
      go_upto_region 11 with fail
      refine WL.start <| uL 153 ⟨B, 0, none⟩ (.agg (vcell (bestV ps))) (load_V HB.out) <| ?_
      try simp only [pS]
      refine uT 153 ⟨A, 0, none⟩ (.agg (vcell (bestV ps))) _ (store_V HA.out rfl) ?_
      try simp only [pS]
      refine uK (.bool true) <| WL.nil <| ?_
      try simp only [pS]
      go_wp2
      rw [HC.out]
      refine bodyPost_ret (results_row_tmp (by rfl) _ _ A (vcell (bestV ps)) (by rfl) (load_V (Box.setRow HA.out _))) rfl ?_
      exact ⟨rfl, HK.out.newRow HAw.out _⟩

end Go.Proofs.Ytpabpeppgpeaoaa
namespace Go.Proofs.Ytpabpeppgpeaoaa
open Go.RowKit Gt
set_option linter.unusedVariables false
set_option linter.unusedSimpArgs false

theorem flds37 : (Try.prog.fieldsOf 37).toList = [fld "Client" 4 0 0, fld "Id" 3 1 8] := by kernel_rfl
theorem flds23 : (Try.prog.fieldsOf 23).toList = [fld "Kind" 3 0 0, fld "A" 3 1 8, fld "B" 3 2 16, fld "C" 3 3 24] := by kernel_rfl
def eqA (a : Bool) (b : Int) (c : Bool) (d : Int) : Bool := a == c && b == d
def eqK (a b : Ky) : Bool := a.k == b.k && (a.a == b.a && (a.b == b.b && a.c == b.c))
theorem eq37 (d : Nat) (a : Bool) (b : Int) (c : Bool) (e : Int) (w : World) : (Op.equalIn (d + 2) 37 (.agg #[.bool a, .int .i64 b]) (.agg #[.bool c, .int .i64 e])).run Try.prog w = .ok (eqA a b c e) w := by
  have h0 : ∀ (a : Bool) (b : Int) (w : World), (part 4 #[.bool a, .int .i64 b] 0).run Try.prog w = .ok (.bool a) w := fun a b w => by kernel_rfl
  have h1 : ∀ (a : Bool) (b : Int) (w : World), (part 3 #[.bool a, .int .i64 b] 1).run Try.prog w = .ok (.int .i64 b) w := fun a b w => by kernel_rfl
  have hB : ∀ (a b : Bool) (w : World), (Op.equalIn (d + 1) 4 (.bool a) (.bool b)).run Try.prog w = .ok (a == b) w := fun a b w => run_equalIn_bool w d 4 a b Try.und4
  rw [show d + 2 = (d + 1) + 1 from rfl, run_equalIn_struct w (d + 1) 37 _ _ Try.und37 (by kernel_rfl), flds37]
  unfold eqA
  generalize e1 : (a == c) = q1
  generalize e2 : (b == e) = q2
  cases q1 <;> cases q2 <;> simp [Op.eqFields, fld, h0, h1, hB, eqInt, e1, e2, Result.andThen]
theorem eq23K (d : Nat) (a b : Ky) (w : World) : (Op.equalIn (d + 2) 23 (.agg a.cells) (.agg b.cells)).run Try.prog w = .ok (eqK a b) w := by
  have h0 : ∀ (a : Ky) (w : World), (part 3 a.cells 0).run Try.prog w = .ok (.int .i64 a.k) w := fun a w => by kernel_rfl
  have h1 : ∀ (a : Ky) (w : World), (part 3 a.cells 1).run Try.prog w = .ok (.int .i64 a.a) w := fun a w => by kernel_rfl
  have h2 : ∀ (a : Ky) (w : World), (part 3 a.cells 2).run Try.prog w = .ok (.int .i64 a.b) w := fun a w => by kernel_rfl
  have h3 : ∀ (a : Ky) (w : World), (part 3 a.cells 3).run Try.prog w = .ok (.int .i64 a.c) w := fun a w => by kernel_rfl
  rw [show d + 2 = (d + 1) + 1 from rfl, run_equalIn_struct w (d + 1) 23 _ _ Try.und23 (by kernel_rfl), flds23]
  unfold eqK
  generalize e1 : (a.k == b.k) = q1
  generalize e2 : (a.a == b.a) = q2
  generalize e3 : (a.b == b.b) = q3
  generalize e4 : (a.c == b.c) = q4
  cases q1
  · simp [Op.eqFields, fld, h0, eqInt, e1, Result.andThen]
  cases q2
  · simp [Op.eqFields, fld, h0, h1, eqInt, e1, e2, Result.andThen]
  cases q3
  · simp [Op.eqFields, fld, h0, h1, h2, eqInt, e1, e2, e3, Result.andThen]
  cases q4 <;> simp [Op.eqFields, fld, h0, h1, h2, h3, eqInt, e1, e2, e3, e4, Result.andThen]
theorem eqlA (a : Bool) (b : Int) (c : Bool) (e : Int) (w : World) : (binOp .eql 37 (.agg #[.bool a, .int .i64 b]) (.agg #[.bool c, .int .i64 e])).run Try.prog w = .ok (.bool (eqA a b c e)) w := by
  rw [run_eql_struct, eq37 9998]; rfl
theorem eqlK (a b : Ky) (w : World) : (binOp .eql 23 (.agg a.cells) (.agg b.cells)).run Try.prog w = .ok (.bool (eqK a b)) w := by
  rw [run_eql_struct, eq23K 9998]; rfl
theorem guard_A (b : BinOp) (hb : b = .eql ∨ b = .neq) (x y : Operand) (u v : Array Value) (w : World) : (eqGuard b 37 x y (.agg u) (.agg v)).run Try.prog w = .ok () w := by
  rcases hb with rfl | rfl <;> kernel_rfl
theorem guard_K (b : BinOp) (hb : b = .eql ∨ b = .neq) (x y : Operand) (u v : Array Value) (w : World) : (eqGuard b 23 x y (.agg u) (.agg v)).run Try.prog w = .ok () w := by
  rcases hb with rfl | rfl <;> kernel_rfl
theorem Ms.partT (m : Ms) : Part m.cs 3 [.bool m.tc, .int .i64 m.ti] := fun j x h => by
  match j, h with
  | 0, h => exact h
  | 1, h => exact h
theorem Ms.partK (m : Ms) : Part m.cs 7 m.ky.cs := Part.mid _ _ _ rfl
theorem load_mT {w : World} {g : Nat} {m : Ms} (h : Box w g 47 m.cells) : (loadVar 37 ⟨g, 3, none⟩).run Try.prog w = .ok (.agg #[.bool m.tc, .int .i64 m.ti]) w := run_load_part h m.partT Try.und37 rfl Try.size37
theorem load_mK {w : World} {g : Nat} {m : Ms} (h : Box w g 47 m.cells) : (loadVar 23 ⟨g, 7, none⟩).run Try.prog w = .ok (.agg m.ky.cells) w := run_load_part h m.partK Try.und23 rfl Try.size23
theorem cont2 {a : Option Addr} {n c : Nat} (zs : List Int) (s : Int) (w : World) (hz : zs.length = n) (hn : n ≤ 17592186043904) (hg : Nums .i64 w a zs) : Calls Try.prog 78 #[.slice a n c, .int .i64 s] w (fun e w' => e = .returned (.bool (hasB zs s)) ∧ w' = w) := by
  subst hz
  exact contains_any a c zs s w hn hg
/-- It comes from a server of the group, to what is asked now. -/
def ansB (v : Pv) (zs : List Int) (m : Ms) : Bool := eqA m.tc m.ti true v.cl && (m.op == v.op && (m.rd == v.rd && (eqK m.ky v.ky && (!m.fc && hasB zs m.fi))))
set_option maxRecDepth 100000 in
set_option maxHeartbeats 4000000 in
theorem answers_any (p : Nat) (v : Pv) (m : Ms) (zs : List Int) (w : World) (h : Box w p 94 v.cells) (hz : zs.length = v.ga.l) (hn : v.ga.l ≤ 2000000) (hg : Nums .i64 w v.ga.a zs) : Calls Try.prog 55 #[.pointer (some ⟨p, 0, none⟩), .agg m.cells] w (fun e w' => e = .returned (.bool (ansB v zs m)) ∧ Kept No w w') := by
  refine hideC fun C HC => ?_
  have HPW : Hid (Box w p 94 v.cells) := h
  have HZ : Hid (zs.length = v.ga.l) := hz
  have HG0 : Hid (Nums .i64 w v.ga.a zs) := hg
  clear h hz hg
  go_enter Try.func55, Try.ntmps55
  go_upto_region 0 with fail
  refine WL.start ?_
  refine uR (pV w.heap.size 0) (w.alloc (.cells m.cells 47)) (exec_box 47 _ rfl m.cells (by kernel_rfl)) ?_
  try simp only [pS]
  refine uK (.bool false) <| WL.nil <| ?_
  try simp only [pS]
  obtain ⟨wa, hwa⟩ : ∃ wa, wa = w.alloc (.cells m.cells 47) := ⟨_, rfl⟩
  rw [← hwa]
  have HK : Hid (Kept No w wa) := by rw [hwa]; exact (Kept.refl No w).alloc _
  have HP : Hid (Box wa (p) 94 (v.cells)) := by rw [hwa]; exact HPW.out.alloc _
  have H3 : Hid (Box wa (w.heap.size) 47 (m.cells)) := by rw [hwa]; exact Box.new _ _ _
  have HLT : Hid (w.heap.size < wa.heap.size) := H3.out.lt
  obtain ⟨B3, hB3⟩ : ∃ B3, B3 = w.heap.size := ⟨_, rfl⟩
  rw [← hB3] at H3 HLT ⊢
  clear hwa hB3 HPW
  go_upto_region 1 with fail
  refine wp_region_held_drew (S := fun w' => Box w' (p) 94 (v.cells) ∧ Box w' (B3) 47 (m.cells)) rfl ⟨HP.out, H3.out⟩ (fun hH => ?_)
  have HP : Hid (Box wa.drew (p) 94 (v.cells)) := HP.out
  have H3 : Hid (Box wa.drew (B3) 47 (m.cells)) := H3.out
  have HK : Hid (Kept No w wa.drew) := HK.out.drew
  have HLT : Hid (B3 < wa.drew.heap.size) := HLT.out
  generalize wa.drew = wk1 at HP H3 HK HLT hH ⊢
  refine xV 0 5 (pV B3 3) hH <| xL 1 6 37 ⟨B3, 3, none⟩ (.agg #[.bool m.tc, .int .i64 m.ti]) (fun _ hw => load_mT hw.2) hH <| xV 2 7 (pV p 0) hH <| xV 3 8 (pV p 0) hH <| xV 4 9 (pV p 0) hH <| xL 5 10 37 ⟨p, 0, none⟩ (.agg #[.bool true, .int .i64 v.cl]) (fun _ hw => load_pA hw.1) hH <| ?_
  try simp only [pS]
  cases q1 : (eqA m.tc m.ti true v.cl)
  ·skip
   refine xB 6 11 .eql 37 (.agg #[.bool m.tc, .int .i64 m.ti]) (.agg #[.bool true, .int .i64 v.cl]) (.bool false) (fun _ _ => by rw [eqlA, q1]; try rfl) hH (hg := fun _ => guard_A _ (.inl rfl) _ _ _ _ _) <| xV 7 12 (.bool false) hH <| xZ 8 13 hH <| xZ 9 14 hH <| xZ 10 15 hH <| xZ 11 16 hH <| ?_
   try simp only [pS]
   refine xZ 12 17 hH <| xZ 13 18 hH <| xZ 14 19 hH <| xV 15 20 (.bool false) hH <| xV 16 21 (.bool false) hH <| xZ 17 22 hH <| ?_
   try simp only [pS]
   refine xZ 18 23 hH <| xZ 19 24 hH <| xZ 20 25 hH <| xZ 21 26 hH <| xZ 22 27 hH <| xZ 23 28 hH <| ?_
   try simp only [pS]
   refine xV 24 29 (.bool false) hH <| xV 25 30 (.bool false) hH <| xZ 26 31 hH <| xZ 27 32 hH <| xZ 28 33 hH <| xZ 29 34 hH <| ?_
   try simp only [pS]
   refine xZ 30 35 hH <| xZ 31 36 hH <| xZ 32 37 hH <| xV 33 38 (.bool false) hH <| xV 34 39 (.bool false) hH <| xZ 35 40 hH <| ?_
   try simp only [pS]
   refine xZ 36 41 hH <| xZ 37 42 hH <| xZ 38 43 hH <| xV 39 44 (.bool false) hH <| xV 40 45 (.bool false) hH <| xZ 41 46 hH <| ?_
   try simp only [pS]
   refine xZ 42 47 hH <| xZ 43 48 hH <| xZ 44 49 hH <| xZ 45 50 hH <| xZ 46 51 hH <| xZ 47 52 hH <| ?_
   try simp only [pS]
   refine xZ 48 53 hH <| xV 49 54 (.bool false) hH <| xV 50 4 (.bool false) hH <| ?_
   try simp only [pS]
   refine wpAnyH_done (by kernel_rfl) ?_ _
   try simp only [pS]
   go_wp2
   rw [HC.out]
   exact ⟨by unfold ansB; simp only [q1]; rfl, HK.out⟩
  ·skip
   refine xB 6 11 .eql 37 (.agg #[.bool m.tc, .int .i64 m.ti]) (.agg #[.bool true, .int .i64 v.cl]) (.bool true) (fun _ _ => by rw [eqlA, q1]; try rfl) hH (hg := fun _ => guard_A _ (.inl rfl) _ _ _ _ _) <| xV 7 12 (.bool true) hH <| xV 8 13 (pV B3 5) hH <| xL 9 14 3 ⟨B3, 5, none⟩ (.int .i64 m.op) (fun _ hw => load_N (hw.2.cell 5)) hH <| xV 10 15 (pV p 0) hH <| xV 11 16 (pV p 0) hH <| ?_
   try simp only [pS]
   refine xV 12 17 (pV p 2) hH <| xL 13 18 3 ⟨p, 2, none⟩ (.int .i64 v.op) (fun _ hw => load_N (hw.1.cell 2)) hH <| ?_
   try simp only [pS]
   cases q2 : (m.op == v.op)
   ·skip
    refine xB 14 19 .eql 3 (.int .i64 m.op) (.int .i64 v.op) (.bool false) (fun _ _ => by rw [eqlN, q2]; try rfl) hH <| xV 15 20 (.bool false) hH <| xV 16 21 (.bool false) hH <| xZ 17 22 hH <| xZ 18 23 hH <| xZ 19 24 hH <| ?_
    try simp only [pS]
    refine xZ 20 25 hH <| xZ 21 26 hH <| xZ 22 27 hH <| xZ 23 28 hH <| xV 24 29 (.bool false) hH <| xV 25 30 (.bool false) hH <| ?_
    try simp only [pS]
    refine xZ 26 31 hH <| xZ 27 32 hH <| xZ 28 33 hH <| xZ 29 34 hH <| xZ 30 35 hH <| xZ 31 36 hH <| ?_
    try simp only [pS]
    refine xZ 32 37 hH <| xV 33 38 (.bool false) hH <| xV 34 39 (.bool false) hH <| xZ 35 40 hH <| xZ 36 41 hH <| xZ 37 42 hH <| ?_
    try simp only [pS]
    refine xZ 38 43 hH <| xV 39 44 (.bool false) hH <| xV 40 45 (.bool false) hH <| xZ 41 46 hH <| xZ 42 47 hH <| xZ 43 48 hH <| ?_
    try simp only [pS]
    refine xZ 44 49 hH <| xZ 45 50 hH <| xZ 46 51 hH <| xZ 47 52 hH <| xZ 48 53 hH <| xV 49 54 (.bool false) hH <| ?_
    try simp only [pS]
    refine xV 50 4 (.bool false) hH ?_
    try simp only [pS]
    refine wpAnyH_done (by kernel_rfl) ?_ _
    try simp only [pS]
    go_wp2
    rw [HC.out]
    exact ⟨by unfold ansB; simp only [q1, q2]; rfl, HK.out⟩
   ·skip
    refine xB 14 19 .eql 3 (.int .i64 m.op) (.int .i64 v.op) (.bool true) (fun _ _ => by rw [eqlN, q2]; try rfl) hH <| xV 15 20 (.bool true) hH <| xV 16 21 (.bool true) hH <| xV 17 22 (pV B3 6) hH <| xL 18 23 3 ⟨B3, 6, none⟩ (.int .i64 m.rd) (fun _ hw => load_N (hw.2.cell 6)) hH <| xV 19 24 (pV p 0) hH <| ?_
    try simp only [pS]
    refine xV 20 25 (pV p 0) hH <| xV 21 26 (pV p 20) hH <| xL 22 27 3 ⟨p, 20, none⟩ (.int .i64 v.rd) (fun _ hw => load_N (hw.1.cell 20)) hH <| ?_
    try simp only [pS]
    cases q3 : (m.rd == v.rd)
    ·skip
     refine xB 23 28 .eql 3 (.int .i64 m.rd) (.int .i64 v.rd) (.bool false) (fun _ _ => by rw [eqlN, q3]; try rfl) hH <| xV 24 29 (.bool false) hH <| xV 25 30 (.bool false) hH <| xZ 26 31 hH <| xZ 27 32 hH <| xZ 28 33 hH <| ?_
     try simp only [pS]
     refine xZ 29 34 hH <| xZ 30 35 hH <| xZ 31 36 hH <| xZ 32 37 hH <| xV 33 38 (.bool false) hH <| xV 34 39 (.bool false) hH <| ?_
     try simp only [pS]
     refine xZ 35 40 hH <| xZ 36 41 hH <| xZ 37 42 hH <| xZ 38 43 hH <| xV 39 44 (.bool false) hH <| xV 40 45 (.bool false) hH <| ?_
     try simp only [pS]
     refine xZ 41 46 hH <| xZ 42 47 hH <| xZ 43 48 hH <| xZ 44 49 hH <| xZ 45 50 hH <| xZ 46 51 hH <| ?_
     try simp only [pS]
     refine xZ 47 52 hH <| xZ 48 53 hH <| xV 49 54 (.bool false) hH <| xV 50 4 (.bool false) hH <| ?_
     try simp only [pS]
     refine wpAnyH_done (by kernel_rfl) ?_ _
     try simp only [pS]
     go_wp2
     rw [HC.out]
     exact ⟨by unfold ansB; simp only [q1, q2, q3]; rfl, HK.out⟩
    ·skip
     refine xB 23 28 .eql 3 (.int .i64 m.rd) (.int .i64 v.rd) (.bool true) (fun _ _ => by rw [eqlN, q3]; try rfl) hH <| xV 24 29 (.bool true) hH <| xV 25 30 (.bool true) hH <| xV 26 31 (pV B3 7) hH <| xL 27 32 23 ⟨B3, 7, none⟩ (.agg m.ky.cells) (fun _ hw => load_mK hw.2) hH <| xV 28 33 (pV p 0) hH <| ?_
     try simp only [pS]
     refine xV 29 34 (pV p 0) hH <| xV 30 35 (pV p 3) hH <| xL 31 36 23 ⟨p, 3, none⟩ (.agg v.ky.cells) (fun _ hw => load_pK hw.1) hH <| ?_
     try simp only [pS]
     cases q4 : (eqK m.ky v.ky)
     ·skip
      refine xB 32 37 .eql 23 (.agg m.ky.cells) (.agg v.ky.cells) (.bool false) (fun _ _ => by rw [eqlK, q4]; try rfl) hH (hg := fun _ => guard_K _ (.inl rfl) _ _ _ _ _) <| xV 33 38 (.bool false) hH <| xV 34 39 (.bool false) hH <| xZ 35 40 hH <| xZ 36 41 hH <| xZ 37 42 hH <| ?_
      try simp only [pS]
      refine xZ 38 43 hH <| xV 39 44 (.bool false) hH <| xV 40 45 (.bool false) hH <| xZ 41 46 hH <| xZ 42 47 hH <| xZ 43 48 hH <| ?_
      try simp only [pS]
      refine xZ 44 49 hH <| xZ 45 50 hH <| xZ 46 51 hH <| xZ 47 52 hH <| xZ 48 53 hH <| xV 49 54 (.bool false) hH <| ?_
      try simp only [pS]
      refine xV 50 4 (.bool false) hH ?_
      try simp only [pS]
      refine wpAnyH_done (by kernel_rfl) ?_ _
      try simp only [pS]
      go_wp2
      rw [HC.out]
      exact ⟨by unfold ansB; simp only [q1, q2, q3, q4]; rfl, HK.out⟩
     ·skip
      refine xB 32 37 .eql 23 (.agg m.ky.cells) (.agg v.ky.cells) (.bool true) (fun _ _ => by rw [eqlK, q4]; try rfl) hH (hg := fun _ => guard_K _ (.inl rfl) _ _ _ _ _) <| xV 33 38 (.bool true) hH <| xV 34 39 (.bool true) hH <| xV 35 40 (pV B3 1) hH <| xV 36 41 (pV B3 1) hH <| ?_
      try simp only [pS]
      cases q5 : (m.fc)
      ·skip
       refine xL 37 42 4 ⟨B3, 1, none⟩ (.bool false) (fun _ hw => by rw [← q5]; exact load_B (hw.2.cell 1)) hH <| xV 38 43 (.bool true) hH <| xV 39 44 (.bool true) hH <| xV 40 45 (.bool true) hH <| xV 41 46 (pV p 0) hH <| xV 42 47 (pV p 0) hH <| ?_
       try simp only [pS]
       refine xV 43 48 (pV p 7) hH <| xL 44 49 24 ⟨p, 7, none⟩ (.slice v.ga.a v.ga.l v.ga.k) (fun _ hw => load_24 (hw.1.cell 7)) hH <| xV 45 50 (pV B3 1) hH <| xV 46 51 (pV B3 2) hH <| xL 47 52 3 ⟨B3, 2, none⟩ (.int .i64 m.fi) (fun _ hw => load_N (hw.2.cell 2)) hH <| ?_
       try simp only [pS]
       refine xC 48 53 78 #[.slice v.ga.a v.ga.l v.ga.k, .int .i64 m.fi] (cont2 zs m.fi wk1 HZ.out (by omega) (HG0.out.no HK.out)) ?_
       rintro e wq ⟨rfl, hwq⟩
       rw [hwq]
       clear hwq wq
       refine ⟨.bool (hasB zs m.fi), rfl, hH, fun hH => ?_⟩
       try simp only [pS]
       refine xV 49 54 (.bool (hasB zs m.fi)) hH <| xV 50 4 (.bool (hasB zs m.fi)) hH <| ?_
       try simp only [pS]
       refine wpAnyH_done (by kernel_rfl) ?_ _
       try simp only [pS]
       go_wp2
       rw [HC.out]
       exact ⟨by unfold ansB; simp only [q1, q2, q3, q4, q5]; rfl, HK.out⟩
      ·skip
       refine xL 37 42 4 ⟨B3, 1, none⟩ (.bool true) (fun _ hw => by rw [← q5]; exact load_B (hw.2.cell 1)) hH <| xV 38 43 (.bool false) hH <| xV 39 44 (.bool false) hH <| xV 40 45 (.bool false) hH <| xZ 41 46 hH <| xZ 42 47 hH <| ?_
       try simp only [pS]
       refine xZ 43 48 hH <| xZ 44 49 hH <| xZ 45 50 hH <| xZ 46 51 hH <| xZ 47 52 hH <| xZ 48 53 hH <| ?_
       try simp only [pS]
       refine xV 49 54 (.bool false) hH <| xV 50 4 (.bool false) hH <| ?_
       try simp only [pS]
       refine wpAnyH_done (by kernel_rfl) ?_ _
       try simp only [pS]
       go_wp2
       rw [HC.out]
       exact ⟨by unfold ansB; simp only [q1, q2, q3, q4, q5]; rfl, HK.out⟩

end Go.Proofs.Ytpabpeppgpeaoaa
