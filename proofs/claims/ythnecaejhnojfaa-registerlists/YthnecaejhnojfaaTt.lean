import Derived.Test.YthnecaejhnojfaaMi
import Derived.Test.YthnecaejhnojfaaMd
import Derived.ProofKit
import Derived.OpenShut
import Derived.ShutString
import Derived.ChangeOld
import Derived.SizedLaws
import Derived.Deep.Slices
import Derived.Laws.StructEq
namespace Go.Proofs.Ythnecaejhnojfaa
open Go.RowKit
set_option linter.unusedVariables false
set_option linter.unusedSimpArgs false

theorem two_qs {qs : List Qm} (h : qs.map Qm.sv = [5, 6]) : ∃ q0 q1, qs = [q0, q1] ∧ q1.sv = 6 := by
  rcases qs with _ | ⟨q0, _ | ⟨q1, _ | ⟨q2, l⟩⟩⟩
  · simp at h
  · simp at h
  · simp at h; exact ⟨q0, q1, rfl, h.2⟩
  · simp at h

theorem row_cell {t : TypeId} {c : Nat} {w : World} {base : Nat} {a : Option Addr} {cap n : Nat} {vs : List Value} (h : Own t c w base a cap n vs) (hl : vs.length = n * c) (hn : 0 < n) : ∃ g, a = some ⟨g, 0, none⟩ ∧ ∀ i, i < vs.length → w.cell? ⟨g, i, none⟩ = vs[i]? := by
  rcases h.cases hl with ⟨_, _, h0⟩ | ⟨g, rfl, _, _, sp, hg, _⟩
  · omega
  · refine ⟨g, rfl, fun i hi => ?_⟩
    rw [cell_of_row w g i _ t (0, 0) hg]
    simp [List.getElem?_append_left, hi]

set_option maxRecDepth 100000 in
set_option maxHeartbeats 4000000 in
theorem head_any (w : World) : Calls Try.prog 5 #[] w (fun e w' => e = .returned (.bool true) ∧ Kept No w w') := by
  have qe : ∀ (w : World) (p : Option Addr), (binOp .eql 31 (.iface 84 (.pointer p)) .nilIface).run Try.prog w = .ok (.bool false) w := fun w p => by kernel_rfl
  have m1 := meth_Begin
  have m2 := meth_Done
  have m3 := meth_Round
  obtain ⟨w1, hw1⟩ : ∃ w1, w1 = (w.alloc (.cells #[.int .i64 5, .int .i64 6] 3)).alloc (.cells #[.int .u8 7] 5) := ⟨_, rfl⟩
  have HK1 : Hid (Kept No w w1) := by rw [hw1]; exact ((Kept.refl No w).alloc _).alloc _
  have HB1 : Hid (Nums .i64 w1 (some ⟨w.heap.size, 0, none⟩) [5, 6]) := by
    rw [hw1]
    exact ((Box.new w 3 (([5, 6] : List Int).map (Value.int .i64)).toArray).alloc _).nums 2
  have HB2 : Hid (Bytes w1 (some ⟨w.heap.size + 1, 0, none⟩) [7]) := by
    have e : (w.alloc (.cells #[.int .i64 5, .int .i64 6] 3)).heap.size = w.heap.size + 1 := by simp
    have := (Box.new (w.alloc (.cells #[.int .i64 5, .int .i64 6] 3)) 5 (([7] : List Int).map (Value.int .u8)).toArray).nums 1
    rw [e] at this
    rw [hw1]
    exact this
  go_enter Try.func5, Try.ntmps5
  go_wp2_with (first
    | (go_at_call 15
       rw [← hw1]
       refine Calls.mono (write_any 3 1 1 3 1 0 9 _ 2 2 [5, 6] _ 1 1 [7] w1 rfl (by omega) HB1.out rfl (by omega) HB2.out) ?_
       rintro e w2 ⟨m, a, cap, da, dc, rfl, hM, hO, hf, _, hk⟩
       have HM2 : Hid (Mach w2 m a cap ⟨3, 1, 1, 3, 1, 0, [5, 6], 9⟩ 105 (.agg #[.iface 87 (.agg #[.int .i64 3, .slice da ([7] : List Int).length dc])])) := hM
       have HF2 : Hid (w.heap.size ≤ m) := Nat.le_trans HK1.out.size (hf m (.inl rfl))
       have HK2 : Hid (Kept No w w2) := HK1.out.then hk
       clear hM hO hf hk hw1)
    | (go_at_call 58
       refine Calls.mono (begin_any m a cap _ _ _ w2 HM2.out (by decide) (by decide) (by decide)) ?_
       rintro e w3 ⟨a3, c3, qs, tb, bb, at', ct, rfl, hq, hQ, hM3, hT3, hf3, hk3⟩
       obtain ⟨q0, q1, rfl, h6⟩ := two_qs hq
       have HM3 : Hid _ := hM3
       have HK3 : Hid (Kept No w w3) := HK2.out.trans hk3 (fun _ e => e) (fun i hi e => by have : i = m := e; have := HF2.out; omega)
       have HR3 : Hid (∃ g, a3 = some ⟨g, 0, none⟩ ∧ ∀ wr, Kept No w3 wr → wr.cell? ⟨g, 34, none⟩ = some (.int .i64 6) ∧ wr.cell? ⟨g, 36, none⟩ = some (.int .i64 9)) := by
         obtain ⟨g, hg, hc⟩ := row_cell hQ.row (msgsC_len _ _ _) (by simp)
         refine ⟨g, hg, fun wr hk => ⟨?_, ?_⟩⟩
         · refine hk.cell ?_ (fun e => e)
           rw [hc 34 (by rw [msgsC_len]; simp)]
           show some (Value.int .i64 q1.sv) = _
           rw [h6]
         · refine hk.cell ?_ (fun e => e)
           rw [hc 36 (by rw [msgsC_len]; simp)]
           rfl
       obtain ⟨g, rfl, hcl⟩ := HR3.out
       have HCl : Hid _ := hcl
       simp only [List.length_cons, List.length_nil]
       clear hq hQ hM3 hT3 hf3 hk3 h6 HR3 hcl)
    | (go_at_call 59
       refine Calls.mono (doneA_any m a cap _ _ _ w3 HM3.out) ?_
       rintro e w4 ⟨da4, dc4, rfl, _, hk4⟩
       have HM4 : Hid _ := HM3.out.no hk4
       have HK4 : Hid (Kept No w w4) := HK3.out.then hk4
       obtain ⟨i34, i36⟩ := HCl.out (w4.alloc (.cells (resC 0 0 0 da4 0 dc4) 72)) (hk4.alloc _)
       have HM5 : Hid _ := HM4.out.no ((Kept.refl No w4).alloc (.cells (resC 0 0 0 da4 0 dc4) 72))
       have HK5 : Hid (Kept No w (w4.alloc (.cells (resC 0 0 0 da4 0 dc4) 72))) := HK4.out.alloc _
       simp only [resC, List.length_nil] at i34 i36 HM5 HK5 ⊢
       clear hk4)
    | (go_at_call 60
       refine Calls.mono (round_any m a cap _ _ _ _ HM5.out) ?_
       rintro e w6 ⟨rfl, rfl⟩))
  go_ret
  exact ⟨rfl, HK5.out⟩

end Go.Proofs.Ythnecaejhnojfaa
namespace Go.Proofs.Ythnecaejhnojfaa
open Go.RowKit
set_option linter.unusedVariables false
set_option linter.unusedSimpArgs false

set_option maxRecDepth 100000 in
set_option maxHeartbeats 1000000 in
theorem rless_any (n c m d : Int) (w : World) : Calls Try.prog 38 #[.agg #[.int .i64 n, .int .i64 c], .agg #[.int .i64 m, .int .i64 d]] w (fun e w' => e = .returned (.bool (lessB n c m d)) ∧ Kept No w w') := by
  have HL : Hid (lessB n c m d = (decide (n < m) || (decide (n = m) && decide (c < d)))) := rfl
  generalize lessB n c m d = L at HL
  by_cases h : n = m
  · subst h
    have h0 : ¬ (n < n) := by omega
    go_enter Try.func38, Try.ntmps38
    go_wp2
    all_goals go_ret
    all_goals refine ⟨ret_bool ?_, (((Kept.refl No w).alloc _).alloc _)⟩
    all_goals rw [HL.out]
    all_goals simp
  · have h' : (n == m) = false := by simpa using h
    by_cases h1 : n < m
    · go_enter Try.func38, Try.ntmps38
      go_wp2
      all_goals go_ret
      all_goals refine ⟨ret_bool ?_, (((Kept.refl No w).alloc _).alloc _)⟩
      all_goals rw [HL.out]
      all_goals simp_all
    · go_enter Try.func38, Try.ntmps38
      go_wp2
      all_goals go_ret
      all_goals refine ⟨ret_bool ?_, (((Kept.refl No w).alloc _).alloc _)⟩
      all_goals rw [HL.out]
      all_goals simp_all

theorem set3 {w : World} {g : Nat} {t : TypeId} {u0 u1 u2 : Value} (h : Box w g t #[u0, u1, u2]) (v0 v1 v2 : Value) :
    Box (((w.setCell ⟨g, 0, none⟩ v0).setCell ⟨g, 1, none⟩ v1).setCell ⟨g, 2, none⟩ v2) g t #[v0, v1, v2] ∧ Kept (Only g) w (((w.setCell ⟨g, 0, none⟩ v0).setCell ⟨g, 1, none⟩ v1).setCell ⟨g, 2, none⟩ v2) :=
  ⟨((h.set 0 v0).set 1 v1).set 2 v2, (((Kept.refl (Only g) w).setCell (p := ⟨g, 0, none⟩) (fun _ => rfl) _).setCell (p := ⟨g, 1, none⟩) (fun _ => rfl) _).setCell (p := ⟨g, 2, none⟩) (fun _ => rfl) _⟩

end Go.Proofs.Ythnecaejhnojfaa
namespace Go.Proofs.Ythnecaejhnojfaa
open Go.ChangeShapes Go.WideShapes Go.ChangeAt Go.RowKit
open Go.ChangeMaps (open_string shut_string)
set_option linter.unusedVariables false
set_option linter.unusedSimpArgs false

theorem own : ownKnob Try.prog.godebug = none := by kernel_rfl
theorem laidOut : laidOutB Try.prog = true := by kernel_rfl
theorem Try.und4 : Try.prog.underlying 4 = some .bool := by kernel_rfl
theorem Try.und5 : Try.prog.underlying 5 = some (.int .u8) := by kernel_rfl
theorem Try.und25 : Try.prog.underlying 25 = some (.slice 5) := by kernel_rfl
theorem Try.bytes5 : Try.prog.bytesOf 5 = 1 := by kernel_rfl
/-- A block that came in. -/
structure Bl where
  n : Int
  c : Int
  a : Option Addr
  l : Nat
  k : Nat
  bs : List Int
instance : Inhabited Bl := ⟨⟨0, 0, none, 0, 0, []⟩⟩
def Bl.cs (b : Bl) : List Value := [.int .i64 b.n, .int .i64 b.c, .slice b.a b.l b.k]
structure BlOk (w : World) (b : Bl) : Prop where
  nums : Bytes w b.a b.bs
  len : b.bs.length = b.l
  cap : b.l ≤ b.k
  big : b.k ≤ 140737488351232
  u8 : U8 b.bs
  nil : b.a = none → b.l = 0 ∧ b.k = 0
def Bls (w : World) (a : Option Addr) (xs : List Bl) : Prop :=
  ∀ (i : Nat) it, xs[i]? = some it → ∃ b off, a = some ⟨b, off, none⟩ ∧ w.cell? ⟨b, off + i * 3, none⟩ = some (.int .i64 it.n) ∧ w.cell? ⟨b, off + i * 3 + 1, none⟩ = some (.int .i64 it.c) ∧ w.cell? ⟨b, off + i * 3 + 2, none⟩ = some (.slice it.a it.l it.k)
theorem Bls.no {w w' : World} {a : Option Addr} {xs : List Bl} (h : Bls w a xs) (hk : Kept No w w') : Bls w' a xs := by
  intro i it hi
  obtain ⟨b, off, e, c0, c1, c2⟩ := h i it hi
  exact ⟨b, off, e, hk.cell c0 (fun e => e), hk.cell c1 (fun e => e), hk.cell c2 (fun e => e)⟩
theorem BlOk.no {w w' : World} {it : Bl} (h : BlOk w it) (hk : Kept No w w') : BlOk w' it := ⟨h.nums.no hk, h.len, h.cap, h.big, h.u8, h.nil⟩

end Go.Proofs.Ythnecaejhnojfaa
namespace Go.Proofs.Ythnecaejhnojfaa
open Go.RowKit
set_option linter.unusedVariables false
set_option linter.unusedSimpArgs false

theorem lend_l (a : Option Addr) (cap l : Nat) (zs : List Int) (w : World) (hl : zs.length = l) (hm : l ≤ 140737488355328) (hb : Bytes w a zs) :
    Calls Try.prog 16 #[.slice a l cap] w fun e w' => e = .returned (.slice (some ⟨w.heap.size, 0, none⟩) l (l + 5)) ∧ Blk w' w.heap.size (lent zs 5) ∧ Kept No w w' := by
  subst hl; exact lend_any a cap zs w hm hb
theorem back_l (g : Nat) (a : Option Addr) (cap l : Nat) (zs : List Int) (w : World) (hl : zs.length = l) (hm : l ≤ 140737488355328) (hB : Blk w g (lent zs 5)) (hb : Bytes w a zs) :
    Calls Try.prog 18 #[.slice (some ⟨g, 0, none⟩) l (l + 5), .slice a l cap] w fun e w' => e = .returned (.bool true) ∧ Kept (Only g) w w' := by
  subst hl; exact back_any g a cap zs w hm hB hb
theorem same_l (a b : Option Addr) (ca cb l : Nat) (xs : List Int) (w : World) (hl : xs.length = l) (hm : l ≤ 281474976710656) (hx : Bytes w a xs) (hy : Bytes w b xs) :
    Calls Try.prog 33 #[.slice a l ca, .slice b l cb] w fun e w' => e = .returned (.bool true) ∧ Kept No w w' := by
  subst hl
  refine (same_any a b ca cb xs xs w hm hm hx hy).mono ?_
  rintro e w' ⟨rfl, n, rfl⟩
  rw [eqB_refl]
  exact ⟨rfl, Kept.no_drewN _ _⟩
theorem flds41 : (Try.prog.fieldsOf 41).toList = [{ name := "N", type := 3, offset := 0, embedded := false, tag := "", pkgPath := "", byteOffset := 0 }, { name := "Client", type := 3, offset := 1, embedded := false, tag := "", pkgPath := "", byteOffset := 8 }] := by kernel_rfl
theorem part30 (a b : Value) (k : IntKind) (n : Int) (h : a = .int k n) (w : World) : (part 3 #[a, b] 0).run Try.prog w = .ok a w := by subst h; kernel_rfl
theorem part31 (a b : Value) (k : IntKind) (n : Int) (h : b = .int k n) (w : World) : (part 3 #[a, b] 1).run Try.prog w = .ok b w := by subst h; kernel_rfl
theorem eqStamp (n c m d : Int) (w : World) : (Op.equalIn 10000 41 (.agg #[.int .i64 n, .int .i64 c]) (.agg #[.int .i64 m, .int .i64 d])).run Try.prog w = .ok (n == m && c == d) w := by
  have h0 : ∀ (a c : Int) (w : World), (part 3 #[.int .i64 a, .int .i64 c] 0).run Try.prog w = .ok (.int .i64 a) w := fun a c w => part30 _ _ .i64 a rfl w
  have h1 : ∀ (a c : Int) (w : World), (part 3 #[.int .i64 a, .int .i64 c] 1).run Try.prog w = .ok (.int .i64 c) w := fun a c w => part31 _ _ .i64 c rfl w
  have hE : ∀ (a b : Int) (w : World), (Op.equalIn 9999 3 (.int .i64 a) (.int .i64 b)).run Try.prog w = .ok (a == b) w := fun a b w => run_equalIn_int w 9998 3 .i64 .i64 a b Try.und3
  rw [show (10000 : Nat) = 9998 + 1 + 1 from rfl, run_equalIn_struct w (9998 + 1) 41 _ _ (by kernel_rfl) (by kernel_rfl), flds41]
  cases h : n == m <;> cases h' : c == d <;> simp [Op.eqFields, h0, h1, hE, h, h', Result.andThen]
theorem neqStamp (n c m d : Int) (w : World) : (binOp .neq 41 (.agg #[.int .i64 n, .int .i64 c]) (.agg #[.int .i64 m, .int .i64 d])).run Try.prog w = .ok (.bool (!(n == m && c == d))) w := by
  rw [run_neq_struct, eqStamp]; rfl
end Go.Proofs.Ythnecaejhnojfaa
namespace Go.Proofs.Ythnecaejhnojfaa
open Go.RowKit
set_option linter.unusedVariables false
set_option linter.unusedSimpArgs false


set_option maxRecDepth 100000 in
set_option maxHeartbeats 2000000 in
theorem take_anyB (t b cap : Nat) (a : Option Addr) (x : TS Bk) (s : Int) (v : Bk) (w : World) (h : Tal 149 ansB w t b a cap x) :
    Calls Try.prog 80 #[.pointer (some ⟨t, 0, none⟩), .int .i64 s, .agg #[.int .i64 v.n, .int .i64 v.c, .slice v.a v.l v.k]] w (TakeOutB w t b cap a x s v) := by
  obtain ⟨w0, hw0⟩ : ∃ w0, w0 = w.alloc (.cells #[.int .i64 v.n, .int .i64 v.c, .slice v.a v.l v.k] 144) := ⟨_, rfl⟩
  have HK0 : Hid (Kept No w w0) := by rw [hw0]; exact (Kept.refl No w).alloc _
  have HT : Hid (Tal 149 ansB w0 t b a cap x) := h.no HK0.out
  obtain ⟨N, hN⟩ : ∃ N, N = w.heap.size := ⟨_, rfl⟩
  have HX : Hid (Box w0 N 144 #[.int .i64 v.n, .int .i64 v.c, .slice v.a v.l v.k]) := by rw [hw0, hN]; exact Box.new _ _ _
  have hlt := h.map.lt
  have htl := h.box.lt
  have HNe : Hid (N ≠ t ∧ N ≠ b) := by rw [hN]; exact ⟨by omega, by omega⟩
  clear hlt htl
  obtain ⟨c0, c1, c2, c3⟩ := HT.out.cells
  rw [hw0] at c3
  clear c0 c1 c2
  by_cases hs : s ∈ x.g
  · cases hv : x.v s with
    | some u =>
      have hN' : Hid (takeB x s = false ∧ takeS x s v = x) := takeNo (by unfold mayB; simp [hv])
      have HL : Hid _ := look_someB hs hv
      clear h hs hv
      go_enter Try.func80, Try.ntmps80
      go_wp2_with (refine wp_lookupV rfl _ _ 147 151 true rfl b s rfl rfl (by rw [← hw0]; exact HT.out.map) Try.und183 (Try.zero187 _) _ HL.out ?_)
      go_ret
      rw [← hw0]
      have hk := (Kept.refl No w0).alloc (.cells #[.bool true, .int .i64 u.n, .int .i64 u.c, .slice u.a u.l u.k] 151)
      exact ⟨ret_bool hN'.out.1.symm, by rw [hN'.out.2]; exact HT.out.no hk, (HK0.out.then hk).of_no⟩
    | none =>
      have HL : Hid _ := look_noneB hs hv
      obtain ⟨w1, hw1⟩ : ∃ w1, w1 = w0.alloc (.cells #[.bool false, .int .i64 0, .int .i64 0, .slice none 0 0] 151) := ⟨_, rfl⟩
      have HK1 : Hid (Kept No w0 w1) := by rw [hw1]; exact (Kept.refl No w0).alloc _
      have HT1 : Hid (Tal 149 ansB w1 t b a cap x) := HT.out.no HK1.out
      by_cases hE : enB x = true
      · have hN' : Hid (takeB x s = false ∧ takeS x s v = x) := takeNo (by unfold mayB; simp [hE])
        have HE : Hid (enB x = true) := hE
        clear h hs hv hE
        go_enter Try.func80, Try.ntmps80
        go_wp2_with (first
          | (refine wp_lookupV rfl _ _ 147 151 true rfl b s rfl rfl (by rw [← hw0]; exact HT.out.map) Try.und183 (Try.zero187 _) _ HL.out ?_)
          | (go_at_call 78
             rw [← hw0, ← hw1]
             refine Calls.mono (enough_anyB t b cap a x w1 HT1.out) ?_
             rintro e w2 ⟨rfl, ⟨n, hw2⟩⟩
             have HK2 : Hid (Kept No w w2) := by rw [hw2]; exact (HK0.out.then HK1.out).drewN n
             have HT2 : Hid (Tal 149 ansB w2 t b a cap x) := by rw [hw2]; exact HT1.out.no (Kept.no_drewN _ _)
             rw [HE.out]
             clear hw2 hw1))
        go_ret
        exact ⟨ret_bool hN'.out.1.symm, by rw [hN'.out.2]; exact HT2.out, HK2.out.of_no⟩
      · have HE : Hid (enB x = false) := by cases h : enB x; rfl; exact absurd h hE
        have hM : Hid (takeB x s = enB (putS x s v) ∧ takeS x s v = putS x s v ∧ cnt (putS x s v) = cnt x + 1) := by
          have hm : mayB x s = true := by unfold mayB; simp [hs, hv, HE.out]
          have hc := cnt_put (v := v) h.nd hs hv
          refine ⟨?_, by unfold takeS; rw [if_pos hm], hc⟩
          unfold takeB enB
          rw [hm, hc, Bool.true_and]
          exact decide_eq_decide.2 (by simp only [putS]; omega)
        have HS : Hid (updG (tmap ansB x) s (some (ansB (some v))) = tmap ansB (putS x s v)) := tmap_put hs
        have hcl := cnt_le x
        have hgl := h.len
        have hcb : (cnt x : Int) ≤ 17592186043904 := by omega
        have hc0 : (0 : Int) ≤ cnt x := by omega
        clear h hs hv hE hcl hgl
        have HC : Hid ((cnt x : Int) ≤ 17592186043904 ∧ (0 : Int) ≤ cnt x) := ⟨hcb, hc0⟩
        go_enter Try.func80, Try.ntmps80
        go_upto_region 4 with (first
          | (refine wp_lookupV rfl _ _ 147 151 true rfl b s rfl rfl (by rw [← hw0]; exact HT.out.map) Try.und183 (Try.zero187 _) _ HL.out ?_)
          | (go_at_call 78
             rw [← hw0, ← hw1]
             refine Calls.mono (enough_anyB t b cap a x w1 HT1.out) ?_
             rintro e w2 ⟨rfl, ⟨n, hw2⟩⟩
             have HK2 : Hid (Kept No w0 w2) := by rw [hw2]; exact HK1.out.drewN n
             have HT2 : Hid (Tal 149 ansB w2 t b a cap x) := HT.out.no HK2.out
             have HX2 : Hid (Box w2 N 144 #[.int .i64 v.n, .int .i64 v.c, .slice v.a v.l v.k]) := HX.out.kept HK2.out (fun e => e)
             rw [HE.out]
             clear hw2 hw1))
        rw [← hN]
        clear hw0 hN c3
        have d3 := HT2.out.cells.2.2.2
        obtain ⟨x0, x1, x2⟩ : w2.cell? ⟨N, 0, none⟩ = some (.int .i64 v.n) ∧ w2.cell? ⟨N, 1, none⟩ = some (.int .i64 v.c) ∧ w2.cell? ⟨N, 2, none⟩ = some (.slice v.a v.l v.k) := ⟨HX2.out.cell 0, HX2.out.cell 1, HX2.out.cell 2⟩
        have h3 : Try.prog.underlying 3 = some (.int .i64) := Try.und3
        obtain ⟨w3, hrun, hM3, hK3, hs3⟩ := run_update_v (P := Try.prog) (w := w2.drew) (HT2.out.no (Kept.refl No w2).drew).map Try.und183 h3 s (ansB (some v))
        have HM3 : Hid (MapIs w3 b (updG (tmap ansB x) s (some (ansB (some v))))) := hM3
        have HK3 : Hid (Kept (Only b) w2.drew w3) := hK3
        have HB3 : Hid (Box w3 t 149 (talC a cap b x)) := (HT2.out.no (Kept.refl No w2).drew).box.kept hK3 (fun e => HT2.out.ne e)
        have z3 : w3.cell? ⟨t, 3, none⟩ = some (.map (some b)) := HB3.out.cell 3
        have HX3 : Hid (Box w3 N 144 #[.int .i64 v.n, .int .i64 v.c, .slice v.a v.l v.k]) := (HX2.out.kept (Kept.refl No w2).drew (fun e => e)).kept hK3 (fun e => HNe.out.2 e)
        obtain ⟨y0, y1, y2⟩ : w3.cell? ⟨N, 0, none⟩ = some (.int .i64 v.n) ∧ w3.cell? ⟨N, 1, none⟩ = some (.int .i64 v.c) ∧ w3.cell? ⟨N, 2, none⟩ = some (.slice v.a v.l v.k) := ⟨HX3.out.cell 0, HX3.out.cell 1, HX3.out.cell 2⟩
        unfold ansB at hrun
        clear hM3 hK3 hs3 h3
        go_region_held3 (fun w' => w'.cell? ⟨t, 3, none⟩ = some (.map (some b)) ∧ w'.cell? ⟨N, 0, none⟩ = some (.int .i64 v.n) ∧ w'.cell? ⟨N, 1, none⟩ = some (.int .i64 v.c) ∧ w'.cell? ⟨N, 2, none⟩ = some (.slice v.a v.l v.k)) (first | go_keep | exact ⟨z3, y0, y1, y2⟩) (fail)
        have e2 := HB3.out.cell 2
        have f2 := HB3.out.frozen 2
        simp only [talC, List.getElem?_toArray, List.getElem?_cons_zero, List.getElem?_cons_succ] at e2
        obtain ⟨w4, hw4⟩ : ∃ w4, w4 = w3.setCell ⟨t, 2, none⟩ (.int .i64 (cnt x + 1)) := ⟨_, rfl⟩
        have HB4 : Hid (Box w4 t 149 (talC a cap b (putS x s v))) := by
          rw [hw4]
          have := HB3.out.set 2 (.int .i64 (cnt x + 1))
          unfold talC at this ⊢
          rw [hM.out.2.2]
          exact this
        have HK4 : Hid (Kept (Tb2 t b) w0 w4) := by
          rw [hw4]
          exact ((HK2.out.drew).trans HK3.out (fun _ e => e.elim) (fun _ _ e => .inr e)).setCell (p := ⟨t, 2, none⟩) (fun _ => .inl rfl) _
        have HT4 : Hid (Tal 149 ansB w4 t b a cap (putS x s v)) := by
          refine ⟨HB4.out, ?_, ?_, HT.out.nd, HT.out.len, HT.out.ty⟩
          · have := HM3.out
            rw [HS.out] at this
            rw [hw4]
            exact this.kept ((Kept.refl (Only t) w3).setCell (p := ⟨t, 2, none⟩) (fun _ => rfl) _) (fun e => HT.out.ne e.symm)
          · exact HT.out.row.kept HK4.out (fun k hk e => by
              obtain ⟨h1, h2⟩ := HT.out.off hk
              rcases e with e | e
              · exact h1 e
              · exact h2 e)
        clear HM3 HB4 d3 z3 hrun
        go_wp2_with (first
          | (go_at_call 78
             rw [← hw4]
             refine Calls.mono (enough_anyB t b cap a (putS x s v) w4 HT4.out) ?_
             rintro e w5 ⟨rfl, ⟨n5, hw5⟩⟩
             have HK5 : Hid (Kept (Tb2 t b) w w5) := by rw [hw5]; exact HK0.out.of_no.then (HK4.out.drewN n5)
             have HT5 : Hid (Tal 149 ansB w5 t b a cap (putS x s v)) := by rw [hw5]; exact HT4.out.no (Kept.no_drewN _ _)
             clear hw5 hw4))
        go_ret
        exact ⟨ret_bool hM.out.1.symm, by rw [hM.out.2.1]; exact HT5.out, HK5.out⟩
  · have hN' : Hid (takeB x s = false ∧ takeS x s v = x) := takeNo (by unfold mayB; simp [hs])
    have HL : Hid _ := look_noB hs
    clear h hs
    go_enter Try.func80, Try.ntmps80
    go_wp2_with (refine wp_lookupV rfl _ _ 147 151 true rfl b s rfl rfl (by rw [← hw0]; exact HT.out.map) Try.und183 (Try.zero187 _) _ HL.out ?_)
    go_ret
    rw [← hw0]
    have hk := (Kept.refl No w0).alloc (.cells #[.bool false, .int .i64 0, .int .i64 0, .slice none 0 0] 151)
    exact ⟨ret_bool hN'.out.1.symm, by rw [hN'.out.2]; exact HT.out.no hk, (HK0.out.then hk).of_no⟩

end Go.Proofs.Ythnecaejhnojfaa
namespace Go.Proofs.Ythnecaejhnojfaa
open Go.RowKit
set_option linter.unusedVariables false
set_option linter.unusedSimpArgs false


set_option maxRecDepth 100000 in
set_option maxHeartbeats 2000000 in
theorem take_anyU (t b cap : Nat) (a : Option Addr) (x : TS Unit) (s : Int) (v : Unit) (w : World) (h : Tal 113 ansU w t b a cap x) :
    Calls Try.prog 66 #[.pointer (some ⟨t, 0, none⟩), .int .i64 s, .agg #[]] w (TakeOutU w t b cap a x s v) := by
  obtain ⟨w0, hw0⟩ : ∃ w0, w0 = w.alloc (.cells #[] 101) := ⟨_, rfl⟩
  have HK0 : Hid (Kept No w w0) := by rw [hw0]; exact (Kept.refl No w).alloc _
  have HT : Hid (Tal 113 ansU w0 t b a cap x) := h.no HK0.out
  obtain ⟨N, hN⟩ : ∃ N, N = w.heap.size := ⟨_, rfl⟩
  have HX : Hid (Box w0 N 101 #[]) := by rw [hw0, hN]; exact Box.new _ _ _
  have hlt := h.map.lt
  have htl := h.box.lt
  have HNe : Hid (N ≠ t ∧ N ≠ b) := by rw [hN]; exact ⟨by omega, by omega⟩
  clear hlt htl
  obtain ⟨c0, c1, c2, c3⟩ := HT.out.cells
  rw [hw0] at c3
  clear c0 c1 c2
  by_cases hs : s ∈ x.g
  · cases hv : x.v s with
    | some u =>
      have hN' : Hid (takeB x s = false ∧ takeS x s v = x) := takeNo (by unfold mayB; simp [hv])
      have HL : Hid _ := look_someU hs hv
      clear h hs hv
      go_enter Try.func66, Try.ntmps66
      go_wp2_with (refine wp_lookupV rfl _ _ 111 115 true rfl b s rfl rfl (by rw [← hw0]; exact HT.out.map) Try.und148 (Try.zero152 _) _ HL.out ?_)
      go_ret
      rw [← hw0]
      have hk := (Kept.refl No w0).alloc (.cells #[.bool true] 115)
      exact ⟨ret_bool hN'.out.1.symm, by rw [hN'.out.2]; exact HT.out.no hk, (HK0.out.then hk).of_no⟩
    | none =>
      have HL : Hid _ := look_noneU hs hv
      obtain ⟨w1, hw1⟩ : ∃ w1, w1 = w0.alloc (.cells #[.bool false] 115) := ⟨_, rfl⟩
      have HK1 : Hid (Kept No w0 w1) := by rw [hw1]; exact (Kept.refl No w0).alloc _
      have HT1 : Hid (Tal 113 ansU w1 t b a cap x) := HT.out.no HK1.out
      by_cases hE : enB x = true
      · have hN' : Hid (takeB x s = false ∧ takeS x s v = x) := takeNo (by unfold mayB; simp [hE])
        have HE : Hid (enB x = true) := hE
        clear h hs hv hE
        go_enter Try.func66, Try.ntmps66
        go_wp2_with (first
          | (refine wp_lookupV rfl _ _ 111 115 true rfl b s rfl rfl (by rw [← hw0]; exact HT.out.map) Try.und148 (Try.zero152 _) _ HL.out ?_)
          | (go_at_call 65
             rw [← hw0, ← hw1]
             refine Calls.mono (enough_anyU t b cap a x w1 HT1.out) ?_
             rintro e w2 ⟨rfl, ⟨n, hw2⟩⟩
             have HK2 : Hid (Kept No w w2) := by rw [hw2]; exact (HK0.out.then HK1.out).drewN n
             have HT2 : Hid (Tal 113 ansU w2 t b a cap x) := by rw [hw2]; exact HT1.out.no (Kept.no_drewN _ _)
             rw [HE.out]
             clear hw2 hw1))
        go_ret
        exact ⟨ret_bool hN'.out.1.symm, by rw [hN'.out.2]; exact HT2.out, HK2.out.of_no⟩
      · have HE : Hid (enB x = false) := by cases h : enB x; rfl; exact absurd h hE
        have hM : Hid (takeB x s = enB (putS x s v) ∧ takeS x s v = putS x s v ∧ cnt (putS x s v) = cnt x + 1) := by
          have hm : mayB x s = true := by unfold mayB; simp [hs, hv, HE.out]
          have hc := cnt_put (v := v) h.nd hs hv
          refine ⟨?_, by unfold takeS; rw [if_pos hm], hc⟩
          unfold takeB enB
          rw [hm, hc, Bool.true_and]
          exact decide_eq_decide.2 (by simp only [putS]; omega)
        have HS : Hid (updG (tmap ansU x) s (some (ansU (some v))) = tmap ansU (putS x s v)) := tmap_put hs
        have hcl := cnt_le x
        have hgl := h.len
        have hcb : (cnt x : Int) ≤ 17592186043904 := by omega
        have hc0 : (0 : Int) ≤ cnt x := by omega
        clear h hs hv hE hcl hgl
        have HC : Hid ((cnt x : Int) ≤ 17592186043904 ∧ (0 : Int) ≤ cnt x) := ⟨hcb, hc0⟩
        go_enter Try.func66, Try.ntmps66
        go_upto_region 4 with (first
          | (refine wp_lookupV rfl _ _ 111 115 true rfl b s rfl rfl (by rw [← hw0]; exact HT.out.map) Try.und148 (Try.zero152 _) _ HL.out ?_)
          | (go_at_call 65
             rw [← hw0, ← hw1]
             refine Calls.mono (enough_anyU t b cap a x w1 HT1.out) ?_
             rintro e w2 ⟨rfl, ⟨n, hw2⟩⟩
             have HK2 : Hid (Kept No w0 w2) := by rw [hw2]; exact HK1.out.drewN n
             have HT2 : Hid (Tal 113 ansU w2 t b a cap x) := HT.out.no HK2.out
             have HX2 : Hid (Box w2 N 101 #[]) := HX.out.kept HK2.out (fun e => e)
             rw [HE.out]
             clear hw2 hw1))
        rw [← hN]
        clear hw0 hN c3
        have d3 := HT2.out.cells.2.2.2
        skip
        have h3 : Try.prog.underlying 3 = some (.int .i64) := Try.und3
        obtain ⟨w3, hrun, hM3, hK3, hs3⟩ := run_update_v (P := Try.prog) (w := w2.drew) (HT2.out.no (Kept.refl No w2).drew).map Try.und148 h3 s (ansU (some v))
        have HM3 : Hid (MapIs w3 b (updG (tmap ansU x) s (some (ansU (some v))))) := hM3
        have HK3 : Hid (Kept (Only b) w2.drew w3) := hK3
        have HB3 : Hid (Box w3 t 113 (talC a cap b x)) := (HT2.out.no (Kept.refl No w2).drew).box.kept hK3 (fun e => HT2.out.ne e)
        have z3 : w3.cell? ⟨t, 3, none⟩ = some (.map (some b)) := HB3.out.cell 3
        have hfo : Value.agg (Array.foldl (fun cs x => cs.setIfInBounds (1 + x.snd) x.fst) #[Value.bool true] (#[] : Array Value).zipIdx 0 0) = Value.agg #[Value.bool true] := rfl
        unfold ansU at hrun
        clear hM3 hK3 hs3 h3
        go_region_held3 (fun w' => w'.cell? ⟨t, 3, none⟩ = some (.map (some b)) ) (first | go_keep | exact z3) (fail)
        have e2 := HB3.out.cell 2
        have f2 := HB3.out.frozen 2
        simp only [talC, List.getElem?_toArray, List.getElem?_cons_zero, List.getElem?_cons_succ] at e2
        obtain ⟨w4, hw4⟩ : ∃ w4, w4 = w3.setCell ⟨t, 2, none⟩ (.int .i64 (cnt x + 1)) := ⟨_, rfl⟩
        have HB4 : Hid (Box w4 t 113 (talC a cap b (putS x s v))) := by
          rw [hw4]
          have := HB3.out.set 2 (.int .i64 (cnt x + 1))
          unfold talC at this ⊢
          rw [hM.out.2.2]
          exact this
        have HK4 : Hid (Kept (Tb2 t b) w0 w4) := by
          rw [hw4]
          exact ((HK2.out.drew).trans HK3.out (fun _ e => e.elim) (fun _ _ e => .inr e)).setCell (p := ⟨t, 2, none⟩) (fun _ => .inl rfl) _
        have HT4 : Hid (Tal 113 ansU w4 t b a cap (putS x s v)) := by
          refine ⟨HB4.out, ?_, ?_, HT.out.nd, HT.out.len, HT.out.ty⟩
          · have := HM3.out
            rw [HS.out] at this
            rw [hw4]
            exact this.kept ((Kept.refl (Only t) w3).setCell (p := ⟨t, 2, none⟩) (fun _ => rfl) _) (fun e => HT.out.ne e.symm)
          · exact HT.out.row.kept HK4.out (fun k hk e => by
              obtain ⟨h1, h2⟩ := HT.out.off hk
              rcases e with e | e
              · exact h1 e
              · exact h2 e)
        clear HM3 HB4 d3 z3 hrun
        go_wp2_with (first
          | (go_at_call 65
             rw [← hw4]
             refine Calls.mono (enough_anyU t b cap a (putS x s v) w4 HT4.out) ?_
             rintro e w5 ⟨rfl, ⟨n5, hw5⟩⟩
             have HK5 : Hid (Kept (Tb2 t b) w w5) := by rw [hw5]; exact HK0.out.of_no.then (HK4.out.drewN n5)
             have HT5 : Hid (Tal 113 ansU w5 t b a cap (putS x s v)) := by rw [hw5]; exact HT4.out.no (Kept.no_drewN _ _)
             clear hw5 hw4))
        go_ret
        exact ⟨ret_bool hM.out.1.symm, by rw [hM.out.2.1]; exact HT5.out, HK5.out⟩
  · have hN' : Hid (takeB x s = false ∧ takeS x s v = x) := takeNo (by unfold mayB; simp [hs])
    have HL : Hid _ := look_noU hs
    clear h hs
    go_enter Try.func66, Try.ntmps66
    go_wp2_with (refine wp_lookupV rfl _ _ 111 115 true rfl b s rfl rfl (by rw [← hw0]; exact HT.out.map) Try.und148 (Try.zero152 _) _ HL.out ?_)
    go_ret
    rw [← hw0]
    have hk := (Kept.refl No w0).alloc (.cells #[.bool false] 115)
    exact ⟨ret_bool hN'.out.1.symm, by rw [hN'.out.2]; exact HT.out.no hk, (HK0.out.then hk).of_no⟩

end Go.Proofs.Ythnecaejhnojfaa
