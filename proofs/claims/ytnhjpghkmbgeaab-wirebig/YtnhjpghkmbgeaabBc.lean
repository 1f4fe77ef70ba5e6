import Derived.Test.YtnhjpghkmbgeaabBa
namespace Go.Proofs.Ytnhjpghkmbgeaab
open Go.RowKit
set_option linter.unusedVariables false

theorem zeros_bytes (n : Nat) : (Builtin.zeroCells (Value.int .u8 0).cells n).toList = (List.replicate n (0 : Int)).map (Value.int .u8) := by
  apply List.ext_getElem
  · simp [Builtin.zeroCells, Value.cells]
  · intro i h1 h2
    simp [Builtin.zeroCells, Value.cells, Nat.mod_one]

theorem run_zeros_room {P : Program} (w : World) (t u ty e : TypeId) (i : TypeInfo) (ht : P.underlying t = some (.slice e)) (hu : P.underlying u = some (.int .i64)) (hi : P.info? e = some i) (hz : i.zero = some (.int .u8 0)) (h1 : i.size = 1) (hb : i.bytes = 1)
    (g sLen sCap n : Nat) (cur : Array Value) (hg : w.heap[g]? = some (.cells cur e (0, 0))) (h0 : 0 < n) (hn : n ≤ 70368744177664) (hroom : sLen + n ≤ sCap) (hfit : sLen + n ≤ cur.size) :
    (Builtin.append_ #[t, u] ty #[.slice (some ⟨g, 0, none⟩) sLen sCap, .int .i64 (n : Int)]).run P w =
      .ok (.slice (some ⟨g, 0, none⟩) (sLen + n) sCap) (w.setRow g (cur.toList.take sLen ++ (List.replicate n (0 : Int)).map (Value.int .u8) ++ cur.toList.drop (sLen + n)).toArray) := by
  have hst := run_storeCells_at P g sLen e ((List.replicate n (0 : Int)).map (Value.int .u8)) 0 cur w hg (by simpa using hfit) (u8_one _)
  simp only [Nat.add_zero, List.length_replicate, List.map_replicate] at hst
  have hwr : IntKind.i64.wrap (n : Int) = (n : Int) := by rw [IntKind.wrap_i64]; omega
  have hneg : ¬ ((n : Int) < 0) := by omega
  have hbig : ¬ (281474976710656 < (n : Int)) := by omega
  have hn0 : n ≠ 0 := by omega
  simp [Builtin.append_, run_underlying ht, run_underlying hu, sizeOf, typeInfo, zeroValue, hi, hz, h1, hb, hroom, asInt, asIntOf, hwr, hneg, hbig, hn0, zeros_bytes, Addr.add_lit, hst]

theorem run_zeros_grow {P : Program} (w : World) (t u ty e : TypeId) (i : TypeInfo) (ht : P.underlying t = some (.slice e)) (hu : P.underlying u = some (.int .i64)) (hi : P.info? e = some i) (hz : i.zero = some (.int .u8 0)) (h1 : i.size = 1) (hb : i.bytes = 1)
    (b : Addr) (sLen sCap n : Nat) (olds : List Value) (hlo : olds.length = sLen) (holds : ∀ j v, olds[j]? = some v → w.cell? (b.add j) = some v) (h0 : 0 < n) (hn : n ≤ 70368744177664) (hg : sCap < sLen + n) (hs : sLen + n ≤ 70368744177664) (hfit : Builtin.nextslicecap (sLen + n) sCap ≤ 281474976710656) :
    (Builtin.append_ #[t, u] ty #[.slice (some b) sLen sCap, .int .i64 (n : Int)]).run P w =
      .ok (.slice (some ⟨w.heap.size, 0, none⟩) (sLen + n) (grownCap w (sLen + n) sCap e))
        (w.drew.alloc (.cells (olds.toArray ++ ((List.replicate n (0 : Int)).map (Value.int .u8)).toArray ++ Builtin.zeroCells (Value.int .u8 0).cells (grownCap w (sLen + n) sCap e - (sLen + n))) e)) := by
  have hr : ¬ (sLen + n ≤ sCap) := by omega
  have h63' : ¬ (9223372036854775807 < ((sLen : Int) + (n : Int))) := by omega
  have h48' : ¬ (281474976710656 < Builtin.nextslicecap (sLen + n) sCap) := by omega
  have hfo := run_firstCells_some (P := P) w.drew 1 sLen b sLen sCap olds (by simpa using hlo) (by simpa using holds)
  have hwr : IntKind.i64.wrap (n : Int) = (n : Int) := by rw [IntKind.wrap_i64]; omega
  have hneg : ¬ ((n : Int) < 0) := by omega
  have hbig : ¬ (281474976710656 < (n : Int)) := by omega
  have hn0 : n ≠ 0 := by omega
  have hzc : Builtin.zeroCells (Value.int .u8 0).cells n = ((List.replicate n (0 : Int)).map (Value.int .u8)).toArray := Array.ext' (by simpa using zeros_bytes n)
  simp [Builtin.append_, run_underlying ht, run_underlying hu, sizeOf, typeInfo, zeroValue, hi, hz, h1, hb, hr, h63', h48', asInt, asIntOf, hwr, hneg, hbig, hn0, Question.forced, hfo, newRow, grownCap, hzc]

/-- append(s, make([]byte, n)...). -/
theorem wp_zeros {P : Program} (w : World) {ops : Array Oper} {rest : List Oper} {o : Oper} {a : Act} {Q : Exit → Act → World → Prop}
    (h22 : P.underlying 22 = some (.slice 5)) (h3 : P.underlying 3 = some (.int .i64)) (h5 : (P.info? 5).map (fun i => (i.zero, i.size, i.bytes)) = some (some (.int .u8 0), 1, 1))
    (hgd : o.guard = Option.none) (s x : Operand) (ho : o.op = .call { callee := .builtin .append, args := #[s, x], argTypes := #[22, 3] })
    (base : Nat) (sa : Option Addr) (sn sc : Nat) (zs : List Int) (hs : a.eval s = .slice sa sn sc) (hsn : zs.length = sn) (hpos : 0 < sn) (hown : OwnS w base sa sc zs)
    (n : Nat) (hx : a.eval x = .int .i64 (n : Int)) (h0 : 0 < n) (hlen : sn + n ≤ 35184372088832) (hbase : base ≤ w.heap.size)
    (h : ∀ a' c' w', Hid (OwnS w' base a' c' (zs ++ List.replicate n 0)) → Hid (Kept (At sa) w w') → wpList P ops Q rest (a.put o.dst (.slice a' (sn + n) c')) w') :
    wpList P ops Q (o :: rest) a w := by
  subst hsn
  obtain ⟨i0, hi, hz0, hz1, hz2⟩ := info_parts h5
  refine wpList_plain hgd fun K hK => ?_
  have hlen' : ((zs ++ List.replicate n 0).map (Value.int .u8)).length = (zs.length + n) * 1 := by simp
  have hl2 : (zs ++ List.replicate n (0 : Int)).length = zs.length + n := by simp
  rcases hown.2 with ⟨hv, hn0⟩ | ⟨g, cap, cur, hv, hbg, hg, hnc, hcm, hcs, htake⟩
  · omega
  · simp only [Value.slice.injEq] at hv
    obtain ⟨rfl, _, rfl⟩ := hv
    by_cases hroom : zs.length + n ≤ sc
    · have hr := run_zeros_room (P := P) w 22 3 o.type 5 i0 h22 h3 hi hz0 hz1 hz2 g zs.length sc n cur hg h0 (by omega) hroom (by omega)
      obtain ⟨w', hw'⟩ : ∃ w', w' = (w.setRow g (cur.toList.take zs.length ++ (List.replicate n (0 : Int)).map (Value.int .u8) ++ cur.toList.drop (zs.length + n)).toArray) := ⟨_, rfl⟩
      rw [← hw'] at hr
      have ho' : OwnS w' base (some ⟨g, 0, none⟩) sc (zs ++ List.replicate n 0) := by
        rw [hw']
        unfold OwnS
        rw [hl2]
        refine ⟨hlen', .inr ⟨g, sc, _, rfl, hbg, setRow_heap w g cur _ 5 _ hg, hroom, hcm, ?_, ?_⟩⟩
        · simp only [List.size_toArray, List.length_append, List.length_take, List.length_drop, Array.length_toList, List.length_map, List.length_replicate]
          omega
        · rw [Nat.mul_one] at htake ⊢
          rw [htake, ← List.map_append]
          rw [show zs.length + n = ((zs ++ List.replicate n (0 : Int)).map (Value.int .u8)).length from by simp]
          exact List.take_left
      have hk : Kept (At (some ⟨g, 0, none⟩)) w w' := by
        rw [hw']
        exact (Kept.refl _ _).grown (row := some g) ⟨rfl, rfl, rfl, by simp, fun k _ hk => setRow_other w g k _ (fun e => hk (by rw [e]))⟩ (fun k e _ => by cases e; exact ⟨_, rfl, rfl⟩)
      clear hw'
      unfold Oper.wp
      simp [execOp, ho, resolve, invoke, builtin, hs, hx, hr, Result.andThen]
      exact hK _ _ (h _ _ _ ho' hk)
    · have holds : ∀ j u, (zs.map (Value.int .u8))[j]? = some u → w.cell? ((⟨g, 0, none⟩ : Addr).add j) = some u := hown.cells (g := g) rfl
      have hr := run_zeros_grow (P := P) w 22 3 o.type 5 i0 h22 h3 hi hz0 hz1 hz2 ⟨g, 0, none⟩ zs.length sc n (zs.map (Value.int .u8)) (by simp) holds h0 (by omega) (by omega) (by omega) (by have := growslice_fits (bytes := 1) (show sc < zs.length + n by omega) (by omega); omega)
      have hge := grownCap_ge w (zs.length + n) sc 5
      have hcm2 : grownCap w (zs.length + n) sc 5 ≤ maxLen := grownCap_le_maxLen w (zs.length + n) sc 5 (by unfold maxLen; omega)
      obtain ⟨w', hw'⟩ : ∃ w', w' = (w.drew.alloc (.cells ((zs.map (Value.int .u8)).toArray ++ ((List.replicate n (0 : Int)).map (Value.int .u8)).toArray ++ Builtin.zeroCells (Value.int .u8 0).cells (grownCap w (zs.length + n) sc 5 - (zs.length + n))) 5)) := ⟨_, rfl⟩
      rw [← hw'] at hr
      have ho' : OwnS w' base (some ⟨w.heap.size, 0, none⟩) (grownCap w (zs.length + n) sc 5) (zs ++ List.replicate n 0) := by
        rw [hw']
        unfold OwnS
        rw [hl2]
        refine ⟨hlen', .inr ⟨w.heap.size, _, _, rfl, hbase, heap_alloc_new w.drew _, hge, hcm2, ?_, ?_⟩⟩
        · simp [size_zeroCells, Value.cells]
          omega
        · simp only [Array.toList_append, List.append_assoc, Nat.mul_one]
          rw [← List.append_assoc, ← List.map_append]
          rw [show zs.length + n = ((zs ++ List.replicate n (0 : Int)).map (Value.int .u8)).length from by simp]
          exact List.take_left
      have hk : Kept (At (some ⟨g, 0, none⟩)) w w' := by
        rw [hw']
        exact ((Kept.refl _ _).drew).alloc _
      clear hw'
      unfold Oper.wp
      simp [execOp, ho, resolve, invoke, builtin, hs, hx, hr, Result.andThen]
      exact hK _ _ (h _ _ _ ho' hk)

end Go.Proofs.Ytnhjpghkmbgeaab
