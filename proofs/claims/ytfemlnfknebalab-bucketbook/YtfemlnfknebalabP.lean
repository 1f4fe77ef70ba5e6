import Derived.Test.YtfemlnfknebalabQ
namespace Go.Proofs.Ytfemlnfknebalab
open Go.RowKit
set_option linter.unusedVariables false
set_option linter.unusedSimpArgs false

theorem enL_set (ls : List En) (i : Nat) (x : En) (cur : List Value) (hi : i < ls.length) (h : cur.take (ls.length * 4) = enL ls) (hc : ls.length * 4 ≤ cur.length) : (putL cur (i * 4) x.cs).take (ls.length * 4) = enL (ls.set i x) := by
  have hAl : (enL (ls.take i)).length = i * 4 := by rw [enL_len, List.length_take]; congr 1; omega
  have hBl : (enL (ls.drop (i + 1))).length = (ls.length - (i + 1)) * 4 := by rw [enL_len, List.length_drop]
  have hcut : ls = ls.take i ++ ([eAt ls i] ++ ls.drop (i + 1)) := by
    have h0 : ls.drop i = eAt ls i :: ls.drop (i + 1) := by
      rw [List.drop_eq_getElem_cons hi]
      congr 1
      simp [eAt, List.getElem?_eq_getElem hi]
    rw [show ([eAt ls i] ++ ls.drop (i + 1)) = eAt ls i :: ls.drop (i + 1) from rfl, ← h0, List.take_append_drop]
  have hset : ls.set i x = ls.take i ++ ([x] ++ ls.drop (i + 1)) := by
    rw [List.set_eq_take_append_cons_drop, if_pos hi]; rfl
  have h2 : enL ls = enL (ls.take i) ++ ((eAt ls i).cs ++ enL (ls.drop (i + 1))) := by
    rw [← enL_1, ← enL_app, ← enL_app, ← hcut]
  have hxl : x.cs.length = 4 := rfl
  have hyl : (eAt ls i).cs.length = 4 := rfl
  rw [hset, enL_app, enL_app, enL_1]
  rw [h2] at h
  generalize enL (ls.take i) = A at *
  generalize enL (ls.drop (i + 1)) = B at *
  generalize (eAt ls i).cs = Y at *
  generalize x.cs = X at *
  have hA : cur.take (i * 4) = A := by
    have := congrArg (List.take (i * 4)) h
    rw [List.take_take, Nat.min_eq_left (by omega), ← hAl, List.take_left] at this
    rw [← hAl]; exact this
  have hB : (cur.drop (i * 4 + 4)).take ((ls.length - (i + 1)) * 4) = B := by
    have := congrArg (List.drop (i * 4 + 4)) h
    rw [List.drop_take, ← List.append_assoc, show i * 4 + 4 = (A ++ Y).length by rw [List.length_append, hAl, hyl], List.drop_left] at this
    rw [show (A ++ Y).length = i * 4 + 4 by rw [List.length_append, hAl, hyl]] at this
    rw [← this]; congr 1; omega
  unfold putL
  rw [hA, hxl, ← List.append_assoc, List.take_append, List.take_of_length_le (by rw [List.length_append, hAl, hxl]; omega), List.length_append, hAl, hxl, List.append_assoc, show ls.length * 4 - (i * 4 + 4) = (ls.length - (i + 1)) * 4 by omega, hB]
theorem part_row {cur : List Value} {es : List En} {i : Nat} (h : cur.take (es.length * 4) = enL es) (hi : i < es.length) : Part cur (0 + i * 4) (eAt es i).cs := by
  intro j v hv
  have h1 := flat_get 4 (es.map En.cs) (enL_c es) i (eAt es i).cs (by rw [List.getElem?_map, eAt_some hi]; rfl) j v hv
  have h2 : (enL es)[i * 4 + j]? = some v := h1
  rw [← h, List.getElem?_take] at h2
  split at h2
  · rw [Nat.zero_add]; exact h2
  · cases h2
theorem actS_list {es : List En} {c : Cm} {room : Int} (h : (c.k == 4) = true) : actS es c room = (es, ⟨0, enZ, es⟩) := by unfold actS; rw [h]; rfl
theorem actS_create {es : List En} {c : Cm} {room : Int} (h : (c.k == 4) = false) (h1 : (c.k == 1) = true) : actS es c room = creS es c room := by unfold actS; rw [h, h1]; rfl
theorem actS_none {es : List En} {c : Cm} {room : Int} (h : (c.k == 4) = false) (h1 : (c.k == 1) = false) (hq : eIs es c.nm = false) : actS es c room = (es, ⟨102, enZ, []⟩) := by unfold actS; rw [h, h1, hq]; rfl
theorem actS_look {es : List En} {c : Cm} {room : Int} (h : (c.k == 4) = false) (h1 : (c.k == 1) = false) (hq : eIs es c.nm = true) (h3 : (c.k == 3) = true) : actS es c room = (es, ⟨0, eAt es (eIx es c.nm), []⟩) := by unfold actS; rw [h, h1, hq, h3]; rfl
theorem actS_del {es : List En} {c : Cm} {room : Int} (h : (c.k == 4) = false) (h1 : (c.k == 1) = false) (hq : eIs es c.nm = true) (h3 : (c.k == 3) = false) (h2 : (c.k == 2) = true) : actS es c room = (delL es (eIx es c.nm), ⟨0, eAt es (eIx es c.nm), []⟩) := by unfold actS; rw [h, h1, hq, h3, h2]; rfl
theorem actS_chg {es : List En} {c : Cm} {room : Int} (h : (c.k == 4) = false) (h1 : (c.k == 1) = false) (hq : eIs es c.nm = true) (h3 : (c.k == 3) = false) (h2 : (c.k == 2) = false) : actS es c room = (es.set (eIx es c.nm) (chgS (eAt es (eIx es c.nm)) c).1, (chgS (eAt es (eIx es c.nm)) c).2) := by unfold actS; rw [h, h1, hq, h3, h2]; rfl
theorem OwE.le {w : World} {base : Nat} {a : Option Addr} {n c : Nat} {es : List En} (h : OwE w base ⟨a, n, c⟩ es) : n ≤ c := by
  by_cases h0 : 0 < n
  · obtain ⟨_, _, _, _, _, h3, _⟩ := Own.op h.own h0; exact h3
  · omega
theorem OwL.le {w : World} {base : Nat} {a : Option Addr} {n c : Nat} {es : List La} (h : OwL w base ⟨a, n, c⟩ es) : n ≤ c := by
  by_cases h0 : 0 < n
  · obtain ⟨_, _, _, _, _, h3, _⟩ := Own.op h.own h0; exact h3
  · omega
theorem Bkt.put {w : World} {base p g : Nat} {up : Int} {se sl : Sl} {es : List En} {ls : List La} (h : Bkt w base p up se sl es ls) {T : TypeId} {old : Array Value} (hb : Box w g T old) (h1 : T ≠ 26) (h2 : T ≠ 34) (h3 : T ≠ 67) (cs : Array Value) : Bkt (w.setRow g cs) base p up se sl es ls :=
  ⟨h.box.rowNe (box_ne h.box hb (fun e => h1 e.symm)) _, h.e.kept (Kept.setRow _ _ _) (fun k hk e => h.e.own.notBox hb (fun e => h2 e.symm) ((show k = g from e) ▸ hk)), h.l.kept (Kept.setRow _ _ _) (fun k hk e => h.l.own.notBox hb (fun e => h3 e.symm) ((show k = g from e) ▸ hk))⟩
set_option maxRecDepth 100000 in
set_option maxHeartbeats 4000000 in
theorem act_any (p base : Nat) (up : Int) (ea : Option Addr) (en ec : Nat) (la : Option Addr) (ln lc : Nat) (es : List En) (ls : List La) (c : Cm) (room : Int) (w : World) (h : Bkt w base p up ⟨ea, en, ec⟩ ⟨la, ln, lc⟩ es ls) (hb : (en + 1) * 40 ≤ 140737488355328) (hbase : base ≤ w.heap.size) : Calls Try.prog 31 #[.pointer (some ⟨p, 0, none⟩), .agg c.cells, .int .i64 room] w (ActOut w base p up ⟨ea, en, ec⟩ ⟨la, ln, lc⟩ ls (actS es c room)) := by
  obtain ⟨C, hC⟩ : ∃ C : Ending → World → Prop, C = (ActOut w base p up ⟨ea, en, ec⟩ ⟨la, ln, lc⟩ ls (actS es c room)) := ⟨_, rfl⟩
  have HC : Hid (C = (ActOut w base p up ⟨ea, en, ec⟩ ⟨la, ln, lc⟩ ls (actS es c room))) := hC
  rw [← hC]
  clear hC
  have hll : es.length = en := h.e.len
  have hpl := h.box.lt
  have hle : en ≤ ec := h.e.le
  have HH : Hid (Bkt w base p up ⟨ea, en, ec⟩ ⟨la, ln, lc⟩ es ls) := h
  have HP : Hid (Box w p 26 (Bv.cells ⟨up, ⟨ea, en, ec⟩, ⟨la, ln, lc⟩⟩)) := h.box
  have HE : Hid (OwE w base ⟨ea, en, ec⟩ es) := h.e
  have HL : Hid (OwL w base ⟨la, ln, lc⟩ ls) := h.l
  have HX : Hid (∀ W, Kept No w W → Calls Try.prog 28 #[.slice ea en ec, .string c.nm] W (fun e w' => e = .returned (.tuple #[.int .i64 (eIx es c.nm : Nat), .bool (eIs es c.nm)]) ∧ Kept No W w')) := fun W hk => entryAt_any ea en ec es c.nm W hll (by omega) (RowsAt.no h.e.rd.row hk)
  clear h
  have HF : Hid (Fr No w w []) := Fr.start _ _
  go_enter Try.func31, Try.ntmps31
  go_upto_region 0 with fail
  refine WL.start ?_
  refine wp_runW (.pointer (some ⟨w.heap.size, 0, none⟩)) (w.alloc (.cells (Cm.cells c) 31)) (exec_box 31 _ rfl (Cm.cells c) (by kernel_rfl)) (by kernel_rfl) ?_
  try simp only [pA, pB, p1, p2, p3]
  have HF : Hid (Fr No w (w.alloc (.cells (Cm.cells c) 31)) [(w.heap.size, 31, Cm.cells c)]) := HF.out.alloc _ _
  generalize w.alloc (.cells (Cm.cells c) 31) = wk2 at HF ⊢
  generalize w.heap.size = gk1 at HF ⊢
  refine wp_runW (.pointer (some ⟨wk2.heap.size, 0, none⟩)) (wk2.alloc (.cells (Av.cells avZ) 36)) (exec_alloc 36 rfl (Av.cells avZ) zero56) (by kernel_rfl) ?_
  try simp only [pA, pB, p1, p2, p3]
  have HF : Hid (Fr No w (wk2.alloc (.cells (Av.cells avZ) 36)) [(gk1, 31, Cm.cells c), (wk2.heap.size, 36, Av.cells avZ)]) := HF.out.alloc _ _
  generalize wk2.alloc (.cells (Av.cells avZ) 36) = wk4 at HF ⊢
  generalize wk2.heap.size = gk3 at HF ⊢
  refine WL.nil ?_
  try simp only [pA, pB, p1, p2, p3]
  go_upto_region 1 with fail
  refine WL.start ?_
  refine tK (.pointer (some ⟨gk1, 0, none⟩)) ?_
  try simp only [pA, pB, p1, p2, p3]
  refine tW (.int .i64 c.k) (exec_load 3 _ rfl ⟨gk1, 0, none⟩ (by kernel_rfl) (.int .i64 c.k) (ld3 ((HF.out.box 0 _ _ _ rfl).cell 0))) ?_
  try simp only [pA, pB, p1, p2, p3]
  refine WL.nil ?_
  try simp only [pA, pB, p1, p2, p3]
  go_upto_region 2 with fail
  refine WL.start ?_
  cases q1 : (c.k == 4)
  ·skip
   refine tW (.bool false) (exec_bin .eql 3 _ _ _ rfl (.int .i64 c.k) (.int .i64 4) (.bool false) (by kernel_rfl) (by kernel_rfl) (by kernel_rfl) (by rw [b_eql, q1]; try rfl)) ?_
   try simp only [pA, pB, p1, p2, p3]
   refine tK (.bool false) ?_
   try simp only [pA, pB, p1, p2, p3]
   refine WL.nil ?_
   try simp only [pA, pB, p1, p2, p3]
   go_upto_region 4 with fail
   refine WL.start ?_
   cases q2 : (c.k == 1)
   ·skip
    refine tW (.bool false) (exec_bin .eql 3 _ _ _ rfl (.int .i64 c.k) (.int .i64 1) (.bool false) (by kernel_rfl) (by kernel_rfl) (by kernel_rfl) (by rw [b_eql, q2]; try rfl)) ?_
    try simp only [pA, pB, p1, p2, p3]
    refine tK (.bool false) ?_
    try simp only [pA, pB, p1, p2, p3]
    refine WL.nil ?_
    try simp only [pA, pB, p1, p2, p3]
    cases hq : eIs es c.nm
    · skip
      have HQ : Hid (eIs es c.nm = false) := hq
      rw [hq] at HX
      clear hq hll
      generalize eIx es c.nm = ix at HX
      go_upto_region 6 with fail
      refine wp_region_held_drew (S := fun w' => Box w' gk1 31 (Cm.cells c) ∧ Box w' p 26 (Bv.cells ⟨up, ⟨ea, en, ec⟩, ⟨la, ln, lc⟩⟩)) rfl ⟨HF.out.box 0 _ _ _ rfl, HP.out.no HF.out.kept.drew⟩ (fun hH => ?_)
      have HF : Hid (Fr No w (wk4.drew) [(gk1, 31, Cm.cells c), (gk3, 36, Av.cells avZ)]) := HF.out.drew
      generalize wk4.drew = wk5 at HF hH ⊢
      refine aK (i := 0) (oi := { dst := some 26, op := Op.move (Operand.tmp 0), type := 65, pos := "step.go:47", after := #[], guard := none }) (v := .pointer (some ⟨p, 0, none⟩)) hH ?_
      try simp only [pA, pB, p1, p2, p3]
      refine aK (i := 1) (oi := { dst := some 27, op := Op.nilCheck (Operand.tmp 26), type := 0, pos := "step.go:47", after := #[{ on := 0, ground := Ground.data }], guard := none }) (v := .pointer (some ⟨p, 0, none⟩)) hH ?_
      try simp only [pA, pB, p1, p2, p3]
      refine aK (i := 2) (oi := { dst := some 28, op := Op.fieldAddr 26 (Operand.tmp 27) 1, type := 0, pos := "step.go:47", after := #[{ on := 1, ground := Ground.data }], guard := none }) (v := .pointer (some ⟨p, 1, none⟩)) hH ?_
      try simp only [pA, pB, p1, p2, p3]
      refine aT (i := 3) (oi := { dst := some 29, op := Op.load 23 (Operand.tmp 28), type := 23, pos := "step.go:47", after := #[{ on := 2, ground := Ground.data }], guard := none }) (v := .slice ea en ec) (fun w' hw => exec_load 23 _ rfl ⟨p, 1, none⟩ (by kernel_rfl) (.slice ea en ec) (ld22 (hw.2.cell 1))) hH ?_
      try simp only [pA, pB, p1, p2, p3]
      refine aK (i := 4) (oi := { dst := some 30, op := Op.fieldAddr 31 (Operand.tmp 4) 3, type := 0, pos := "step.go:47", after := #[], guard := none }) (v := .pointer (some ⟨gk1, 3, none⟩)) hH ?_
      try simp only [pA, pB, p1, p2, p3]
      refine aT (i := 5) (oi := { dst := some 31, op := Op.load 9 (Operand.tmp 30), type := 9, pos := "step.go:47", after := #[{ on := 4, ground := Ground.data }], guard := none }) (v := .string c.nm) (fun w' hw => exec_load 9 _ rfl ⟨gk1, 3, none⟩ (by kernel_rfl) (.string c.nm) (ld9 (hw.1.cell 3))) hH ?_
      try simp only [pA, pB, p1, p2, p3]
      refine any_call (i := 6) (o := { dst := some 32, op := Op.call { callee := Callee.value (Operand.func 28), args := #[Operand.tmp 29, Operand.tmp 31], argTypes := #[23, 9] }, type := 72, pos := "step.go:47", after := #[{ on := 3, ground := Ground.data }, { on := 5, ground := Ground.data }], guard := none }) rfl (by kernel_rfl) (by kernel_rfl) 28 #[.slice ea en ec, .string c.nm] (by kernel_rfl) _ (HX.out _ HF.out.kept) ?_
      rintro e wk6 ⟨rfl, hk⟩
      have hH2 : Box wk6 gk1 31 (Cm.cells c) ∧ Box wk6 p 26 (Bv.cells ⟨up, ⟨ea, en, ec⟩, ⟨la, ln, lc⟩⟩) := ⟨hH.1.kept hk (fun e => e), hH.2.no hk⟩
      have HF : Hid (Fr No w (wk6) [(gk1, 31, Cm.cells c), (gk3, 36, Av.cells avZ)]) := HF.out.no hk
      clear hk
      refine ⟨.tuple #[.int .i64 (ix : Nat), .bool false], rfl, hH2, fun hH => ?_⟩
      clear hH2
      try simp only [pA, pB, p1, p2, p3]
      refine aK (i := 7) (oi := { dst := some 25, op := Op.move (Operand.tmp 32), type := 72, pos := "step.go:47", after := #[{ on := 6, ground := Ground.data }], guard := none }) (v := .tuple #[.int .i64 (ix : Nat), .bool false]) hH ?_
      try simp only [pA, pB, p1, p2, p3]
      refine aK (i := 8) (oi := { dst := some 33, op := Op.extract (Operand.tmp 25) 0, type := 3, pos := "step.go:47", after := #[{ on := 7, ground := Ground.data }], guard := none }) (v := .int .i64 ((ix : Nat) : Int)) hH ?_
      try simp only [pA, pB, p1, p2, p3]
      refine aK (i := 9) (oi := { dst := some 34, op := Op.extract (Operand.tmp 25) 1, type := 4, pos := "step.go:47", after := #[{ on := 7, ground := Ground.data }, { on := 10, ground := Ground.gcOnly Departure.lateStores }], guard := none }) (v := .bool false) hH ?_
      try simp only [pA, pB, p1, p2, p3]
      refine aK (i := 10) (oi := { dst := some 7, op := Op.assign (Operand.tmp 33), type := 3, pos := "step.go:47", after := #[{ on := 8, ground := Ground.data }, { on := 6, ground := Ground.chain }, { on := 0, ground := Ground.phase }, { on := 1, ground := Ground.phase }, { on := 2, ground := Ground.phase }, { on := 3, ground := Ground.phase }, { on := 4, ground := Ground.phase }, { on := 5, ground := Ground.phase }, { on := 6, ground := Ground.phase }, { on := 7, ground := Ground.phase }, { on := 8, ground := Ground.phase }, { on := 9, ground := Ground.textOnly Departure.lateStores }], guard := none }) (v := .int .i64 ((ix : Nat) : Int)) hH ?_
      try simp only [pA, pB, p1, p2, p3]
      refine aK (i := 11) (oi := { dst := some 8, op := Op.assign (Operand.tmp 34), type := 4, pos := "step.go:47", after := #[{ on := 9, ground := Ground.data }, { on := 10, ground := Ground.chain }, { on := 0, ground := Ground.phase }, { on := 1, ground := Ground.phase }, { on := 2, ground := Ground.phase }, { on := 3, ground := Ground.phase }, { on := 4, ground := Ground.phase }, { on := 5, ground := Ground.phase }, { on := 6, ground := Ground.phase }, { on := 7, ground := Ground.phase }, { on := 8, ground := Ground.phase }, { on := 9, ground := Ground.phase }, { on := 10, ground := Ground.phase }], guard := none }) (v := .bool false) hH ?_
      try simp only [pA, pB, p1, p2, p3]
      refine wpAnyH_done (by kernel_rfl) ?_ _
      try simp only [pA, pB, p1, p2, p3]
      clear hH
      go_upto_region 7 with fail
      refine WL.start ?_
      refine tK (.bool false) ?_
      try simp only [pA, pB, p1, p2, p3]
      refine tK (.bool true) ?_
      try simp only [pA, pB, p1, p2, p3]
      refine WL.nil ?_
      try simp only [pA, pB, p1, p2, p3]
      go_upto_region 8 with fail
      refine WL.start ?_
      refine tW (.agg (Av.cells ⟨102, enZ, ⟨none, 0, 0⟩⟩)) (exec_build 36 _ rfl (Av.cells ⟨102, enZ, ⟨none, 0, 0⟩⟩) (by kernel_rfl)) ?_
      try simp only [pA, pB, p1, p2, p3]
      refine wp_storeW 36 _ _ rfl ⟨gk3, 0, none⟩ (.agg (Av.cells ⟨102, enZ, ⟨none, 0, 0⟩⟩)) (by kernel_rfl) (by kernel_rfl) (wk6.setRow gk3 (Av.cells ⟨102, enZ, ⟨none, 0, 0⟩⟩)) (st56 (HF.out.box 1 _ _ _ rfl) rfl) (by kernel_rfl) ?_
      try simp only [pA, pB, p1, p2, p3]
      have HF : Hid (Fr No w (wk6.setRow gk3 (Av.cells ⟨102, enZ, ⟨none, 0, 0⟩⟩)) [(gk1, 31, Cm.cells c), (gk3, 36, Av.cells ⟨102, enZ, ⟨none, 0, 0⟩⟩)]) := HF.out.set 1 rfl _
      generalize wk6.setRow gk3 (Av.cells ⟨102, enZ, ⟨none, 0, 0⟩⟩) = wk7 at HF ⊢
      refine WL.nil ?_
      try simp only [pA, pB, p1, p2, p3]
      go_wp2
      rw [HC.out]
      refine bodyPost_ret (results_row1 (by rfl) _ _ gk3 (Av.cells ⟨102, enZ, ⟨none, 0, 0⟩⟩) (by rfl) (ld56 (HF.out.box 1 _ _ _ rfl))) rfl ?_
      rw [actS_none q1 q2 HQ.out]
      exact ⟨_, slZ, rfl, HH.out.no HF.out.kept, OwE.nil _ _, fun k h => absurd h At.none, HF.out.kept.of_no, fun k h => .inl h⟩
    · skip
      have hlt : eIx es c.nm < en := by rw [← hll]; exact eIs_lt hq
      obtain ⟨g, cur, e0, o1, o2, o3, o4, o5, o6⟩ := Own.op HE.out.own (show 0 < en by omega)
      have e0 : ea = some ⟨g, 0, none⟩ := e0
      subst e0
      have hec : ec ≤ 9223372036854775807 := o4
      have HO1 : Hid (base ≤ g) := o1
      have HGX : Hid (Box w g 34 cur.toArray) := o2
      have HO5 : Hid (cur.length = ec * 4) := o5
      have HO6 : Hid (cur.take (en * 4) = enL es) := o6
      have hgl : g < w.heap.size := o2.lt
      have hpg : p ≠ g := box_ne HP.out o2 (by decide)
      have HLL : Hid (es.length = en) := hll
      have hl4 : 0 + eIx es c.nm * 4 + 4 ≤ cur.length := by have o5 : cur.length = ec * 4 := o5; omega
      have HPT : Hid (Part cur (0 + eIx es c.nm * 4) (eAt es (eIx es c.nm)).cs) := part_row (by rw [hll]; exact o6) (by rw [hll]; exact hlt)
      have HCE : Hid (∀ (j : Nat) v, (eAt es (eIx es c.nm)).cs[j]? = some v → w.cell? ⟨g, 0 + eIx es c.nm * 4 + j, none⟩ = some v) := fun j v hv => by rw [o2.cell, List.getElem?_toArray]; exact HPT.out j v hv
      have HAL : Hid ((c.k == 4) = false → (c.k == 1) = false → (c.k == 3) = true → actS es c room = (es, ⟨0, eAt es (eIx es c.nm), []⟩)) := fun h h1 h3 => actS_look h h1 hq h3
      have HAD : Hid ((c.k == 4) = false → (c.k == 1) = false → (c.k == 3) = false → (c.k == 2) = true → actS es c room = (delL es (eIx es c.nm), ⟨0, eAt es (eIx es c.nm), []⟩)) := fun h h1 h3 h2 => actS_del h h1 hq h3 h2
      have HAC : Hid ((c.k == 4) = false → (c.k == 1) = false → (c.k == 3) = false → (c.k == 2) = false → actS es c room = (es.set (eIx es c.nm) (chgS (eAt es (eIx es c.nm)) c).1, (chgS (eAt es (eIx es c.nm)) c).2)) := fun h h1 h3 h2 => actS_chg h h1 hq h3 h2
      rw [hq] at HX
      clear o1 o2 o3 o4 o5 o6 hq hll
      generalize eAt es (eIx es c.nm) = x at HPT HCE HAL HAD HAC
      generalize eIx es c.nm = ix at HX hlt hl4 HPT HCE HAD HAC
      have hxm : ix < en := hlt
      clear hlt
      go_upto_region 6 with fail
      refine wp_region_held_drew (S := fun w' => Box w' gk1 31 (Cm.cells c) ∧ Box w' p 26 (Bv.cells ⟨up, ⟨(some ⟨g, 0, none⟩), en, ec⟩, ⟨la, ln, lc⟩⟩)) rfl ⟨HF.out.box 0 _ _ _ rfl, HP.out.no HF.out.kept.drew⟩ (fun hH => ?_)
      have HF : Hid (Fr No w (wk4.drew) [(gk1, 31, Cm.cells c), (gk3, 36, Av.cells avZ)]) := HF.out.drew
      generalize wk4.drew = wk8 at HF hH ⊢
      refine aK (i := 0) (oi := { dst := some 26, op := Op.move (Operand.tmp 0), type := 65, pos := "step.go:47", after := #[], guard := none }) (v := .pointer (some ⟨p, 0, none⟩)) hH ?_
      try simp only [pA, pB, p1, p2, p3]
      refine aK (i := 1) (oi := { dst := some 27, op := Op.nilCheck (Operand.tmp 26), type := 0, pos := "step.go:47", after := #[{ on := 0, ground := Ground.data }], guard := none }) (v := .pointer (some ⟨p, 0, none⟩)) hH ?_
      try simp only [pA, pB, p1, p2, p3]
      refine aK (i := 2) (oi := { dst := some 28, op := Op.fieldAddr 26 (Operand.tmp 27) 1, type := 0, pos := "step.go:47", after := #[{ on := 1, ground := Ground.data }], guard := none }) (v := .pointer (some ⟨p, 1, none⟩)) hH ?_
      try simp only [pA, pB, p1, p2, p3]
      refine aT (i := 3) (oi := { dst := some 29, op := Op.load 23 (Operand.tmp 28), type := 23, pos := "step.go:47", after := #[{ on := 2, ground := Ground.data }], guard := none }) (v := .slice (some ⟨g, 0, none⟩) en ec) (fun w' hw => exec_load 23 _ rfl ⟨p, 1, none⟩ (by kernel_rfl) (.slice (some ⟨g, 0, none⟩) en ec) (ld22 (hw.2.cell 1))) hH ?_
      try simp only [pA, pB, p1, p2, p3]
      refine aK (i := 4) (oi := { dst := some 30, op := Op.fieldAddr 31 (Operand.tmp 4) 3, type := 0, pos := "step.go:47", after := #[], guard := none }) (v := .pointer (some ⟨gk1, 3, none⟩)) hH ?_
      try simp only [pA, pB, p1, p2, p3]
      refine aT (i := 5) (oi := { dst := some 31, op := Op.load 9 (Operand.tmp 30), type := 9, pos := "step.go:47", after := #[{ on := 4, ground := Ground.data }], guard := none }) (v := .string c.nm) (fun w' hw => exec_load 9 _ rfl ⟨gk1, 3, none⟩ (by kernel_rfl) (.string c.nm) (ld9 (hw.1.cell 3))) hH ?_
      try simp only [pA, pB, p1, p2, p3]
      refine any_call (i := 6) (o := { dst := some 32, op := Op.call { callee := Callee.value (Operand.func 28), args := #[Operand.tmp 29, Operand.tmp 31], argTypes := #[23, 9] }, type := 72, pos := "step.go:47", after := #[{ on := 3, ground := Ground.data }, { on := 5, ground := Ground.data }], guard := none }) rfl (by kernel_rfl) (by kernel_rfl) 28 #[.slice (some ⟨g, 0, none⟩) en ec, .string c.nm] (by kernel_rfl) _ (HX.out _ HF.out.kept) ?_
      rintro e wk9 ⟨rfl, hk⟩
      have hH2 : Box wk9 gk1 31 (Cm.cells c) ∧ Box wk9 p 26 (Bv.cells ⟨up, ⟨(some ⟨g, 0, none⟩), en, ec⟩, ⟨la, ln, lc⟩⟩) := ⟨hH.1.kept hk (fun e => e), hH.2.no hk⟩
      have HF : Hid (Fr No w (wk9) [(gk1, 31, Cm.cells c), (gk3, 36, Av.cells avZ)]) := HF.out.no hk
      clear hk
      refine ⟨.tuple #[.int .i64 (ix : Nat), .bool true], rfl, hH2, fun hH => ?_⟩
      clear hH2
      try simp only [pA, pB, p1, p2, p3]
      refine aK (i := 7) (oi := { dst := some 25, op := Op.move (Operand.tmp 32), type := 72, pos := "step.go:47", after := #[{ on := 6, ground := Ground.data }], guard := none }) (v := .tuple #[.int .i64 (ix : Nat), .bool true]) hH ?_
      try simp only [pA, pB, p1, p2, p3]
      refine aK (i := 8) (oi := { dst := some 33, op := Op.extract (Operand.tmp 25) 0, type := 3, pos := "step.go:47", after := #[{ on := 7, ground := Ground.data }], guard := none }) (v := .int .i64 ((ix : Nat) : Int)) hH ?_
      try simp only [pA, pB, p1, p2, p3]
      refine aK (i := 9) (oi := { dst := some 34, op := Op.extract (Operand.tmp 25) 1, type := 4, pos := "step.go:47", after := #[{ on := 7, ground := Ground.data }, { on := 10, ground := Ground.gcOnly Departure.lateStores }], guard := none }) (v := .bool true) hH ?_
      try simp only [pA, pB, p1, p2, p3]
      refine aK (i := 10) (oi := { dst := some 7, op := Op.assign (Operand.tmp 33), type := 3, pos := "step.go:47", after := #[{ on := 8, ground := Ground.data }, { on := 6, ground := Ground.chain }, { on := 0, ground := Ground.phase }, { on := 1, ground := Ground.phase }, { on := 2, ground := Ground.phase }, { on := 3, ground := Ground.phase }, { on := 4, ground := Ground.phase }, { on := 5, ground := Ground.phase }, { on := 6, ground := Ground.phase }, { on := 7, ground := Ground.phase }, { on := 8, ground := Ground.phase }, { on := 9, ground := Ground.textOnly Departure.lateStores }], guard := none }) (v := .int .i64 ((ix : Nat) : Int)) hH ?_
      try simp only [pA, pB, p1, p2, p3]
      refine aK (i := 11) (oi := { dst := some 8, op := Op.assign (Operand.tmp 34), type := 4, pos := "step.go:47", after := #[{ on := 9, ground := Ground.data }, { on := 10, ground := Ground.chain }, { on := 0, ground := Ground.phase }, { on := 1, ground := Ground.phase }, { on := 2, ground := Ground.phase }, { on := 3, ground := Ground.phase }, { on := 4, ground := Ground.phase }, { on := 5, ground := Ground.phase }, { on := 6, ground := Ground.phase }, { on := 7, ground := Ground.phase }, { on := 8, ground := Ground.phase }, { on := 9, ground := Ground.phase }, { on := 10, ground := Ground.phase }], guard := none }) (v := .bool true) hH ?_
      try simp only [pA, pB, p1, p2, p3]
      refine wpAnyH_done (by kernel_rfl) ?_ _
      try simp only [pA, pB, p1, p2, p3]
      clear hH
      go_upto_region 7 with fail
      refine WL.start ?_
      refine tK (.bool true) ?_
      try simp only [pA, pB, p1, p2, p3]
      refine tK (.bool false) ?_
      try simp only [pA, pB, p1, p2, p3]
      refine WL.nil ?_
      try simp only [pA, pB, p1, p2, p3]
      go_upto_region 9 with fail
      refine WL.start ?_
      refine tK (.pointer (some ⟨gk1, 0, none⟩)) ?_
      try simp only [pA, pB, p1, p2, p3]
      refine tW (.int .i64 c.k) (exec_load 3 _ rfl ⟨gk1, 0, none⟩ (by kernel_rfl) (.int .i64 c.k) (ld3 ((HF.out.box 0 _ _ _ rfl).cell 0))) ?_
      try simp only [pA, pB, p1, p2, p3]
      refine WL.nil ?_
      try simp only [pA, pB, p1, p2, p3]
      go_upto_region 10 with fail
      refine WL.start ?_
      cases q3 : (c.k == 3)
      ·skip
       refine tW (.bool false) (exec_bin .eql 3 _ _ _ rfl (.int .i64 c.k) (.int .i64 3) (.bool false) (by kernel_rfl) (by kernel_rfl) (by kernel_rfl) (by rw [b_eql, q3]; try rfl)) ?_
       try simp only [pA, pB, p1, p2, p3]
       refine tK (.bool false) ?_
       try simp only [pA, pB, p1, p2, p3]
       refine WL.nil ?_
       try simp only [pA, pB, p1, p2, p3]
       go_upto_region 12 with fail
       refine WL.start ?_
       cases q4 : (c.k == 2)
       ·skip
        refine tW (.bool false) (exec_bin .eql 3 _ _ _ rfl (.int .i64 c.k) (.int .i64 2) (.bool false) (by kernel_rfl) (by kernel_rfl) (by kernel_rfl) (by rw [b_eql, q4]; try rfl)) ?_
        try simp only [pA, pB, p1, p2, p3]
        refine tK (.bool false) ?_
        try simp only [pA, pB, p1, p2, p3]
        refine WL.nil ?_
        try simp only [pA, pB, p1, p2, p3]
        go_upto_region 16 with fail
        refine wp_region_held_drew (S := fun w' => Box w' gk1 31 (Cm.cells c) ∧ Box w' p 26 (Bv.cells ⟨up, ⟨(some ⟨g, 0, none⟩), en, ec⟩, ⟨la, ln, lc⟩⟩)) rfl ⟨HF.out.box 0 _ _ _ rfl, HP.out.no HF.out.kept.drew⟩ (fun hH => ?_)
        have HF : Hid (Fr No w (wk9.drew) [(gk1, 31, Cm.cells c), (gk3, 36, Av.cells avZ)]) := HF.out.drew
        generalize wk9.drew = wk10 at HF hH ⊢
        refine aK (i := 0) (oi := { dst := some 72, op := Op.move (Operand.tmp 0), type := 65, pos := "step.go:59", after := #[], guard := none }) (v := .pointer (some ⟨p, 0, none⟩)) hH ?_
        try simp only [pA, pB, p1, p2, p3]
        refine aK (i := 1) (oi := { dst := some 73, op := Op.nilCheck (Operand.tmp 72), type := 0, pos := "step.go:59", after := #[{ on := 0, ground := Ground.data }], guard := none }) (v := .pointer (some ⟨p, 0, none⟩)) hH ?_
        try simp only [pA, pB, p1, p2, p3]
        refine aK (i := 2) (oi := { dst := some 74, op := Op.fieldAddr 26 (Operand.tmp 73) 1, type := 0, pos := "step.go:59", after := #[{ on := 1, ground := Ground.data }], guard := none }) (v := .pointer (some ⟨p, 1, none⟩)) hH ?_
        try simp only [pA, pB, p1, p2, p3]
        refine aT (i := 3) (oi := { dst := some 75, op := Op.load 23 (Operand.tmp 74), type := 23, pos := "step.go:59", after := #[{ on := 2, ground := Ground.data }], guard := none }) (v := .slice (some ⟨g, 0, none⟩) en ec) (fun w' hw => exec_load 23 _ rfl ⟨p, 1, none⟩ (by kernel_rfl) (.slice (some ⟨g, 0, none⟩) en ec) (ld22 (hw.2.cell 1))) hH ?_
        try simp only [pA, pB, p1, p2, p3]
        refine aK (i := 4) (oi := { dst := some 76, op := Op.move (Operand.tmp 7), type := 3, pos := "step.go:59", after := #[], guard := none }) (v := .int .i64 ((ix : Nat) : Int)) hH ?_
        try simp only [pA, pB, p1, p2, p3]
        refine aT (i := 5) (oi := { dst := some 77, op := Op.indexAddr 23 (Operand.tmp 75) (Operand.tmp 76), type := 0, pos := "step.go:59", after := #[{ on := 3, ground := Ground.data }, { on := 4, ground := Ground.data }], guard := none }) (v := .pointer (some ⟨g, 0 + ix * 4, none⟩)) (fun w' hw => exec_ixA 23 4 Try.und22e Try.size22e _ _ rfl g 0 en ec ix (by kernel_rfl) (by kernel_rfl) hxm) hH ?_
        try simp only [pA, pB, p1, p2, p3]
        refine aT (i := 6) (oi := { dst := some 78, op := Op.load 31 (Operand.tmp 4), type := 31, pos := "step.go:59", after := #[], guard := none }) (v := .agg (Cm.cells c)) (fun w' hw => exec_load 31 _ rfl ⟨gk1, 0, none⟩ (by kernel_rfl) (.agg (Cm.cells c)) (ld29 hw.1)) hH ?_
        try simp only [pA, pB, p1, p2, p3]
        have HGw : Hid (Box wk10 g 34 cur.toArray) := HGX.out.no HF.out.kept
        refine any_call (i := 7) (o := { dst := some 79, op := Op.call { callee := Callee.value (Operand.func 40), args := #[Operand.tmp 77, Operand.tmp 78], argTypes := #[83, 31] }, type := 36, pos := "step.go:59", after := #[{ on := 5, ground := Ground.data }, { on := 6, ground := Ground.data }], guard := none }) rfl (by kernel_rfl) (by kernel_rfl) 40 #[.pointer (some ⟨g, 0 + ix * 4, none⟩), .agg (Cm.cells c)] (by kernel_rfl) _ (change_any g (0 + ix * 4) cur x c wk10 HGw.out HPT.out hl4) ?_
        rintro e wk11 ⟨rfl, hbx, hk⟩
        have hH2 : Box wk11 gk1 31 (Cm.cells c) ∧ Box wk11 p 26 (Bv.cells ⟨up, ⟨(some ⟨g, 0, none⟩), en, ec⟩, ⟨la, ln, lc⟩⟩) := ⟨hH.1.kept hk (fun e => box_ne hH.1 HGw.out (by decide) e), hH.2.kept hk (fun e => hpg e)⟩
        refine ⟨.agg (Av.cells ⟨(chgS x c).2.er, (chgS x c).1, slZ⟩), rfl, hH2, fun hH => ?_⟩
        clear hH2
        try simp only [pA, pB, p1, p2, p3]
        have HBB : Hid (Bkt wk11 base p up ⟨some ⟨g, 0, none⟩, en, ec⟩ ⟨la, ln, lc⟩ (es.set ix (chgS x c).1) ls) := by
          refine ⟨(HP.out.no HF.out.kept).kept hk (fun e => hpg e), ⟨Own.shut (cur := putL cur (0 + ix * 4) (chgS x c).1.cs) HO1.out hbx hle hec ?_ ?_, ?_⟩, (HL.out.no HF.out.kept).kept hk (fun k h e => (HL.out.no HF.out.kept).own.notBox HGw.out (by decide) ((show k = g from e) ▸ h))⟩
          · rw [putL_len (by show 0 + ix * 4 + 4 ≤ _; exact hl4), HO5.out]
          · have h1 := enL_set es ix (chgS x c).1 cur (by rw [HLL.out]; exact hxm) (by rw [HLL.out]; exact HO6.out) (by rw [HLL.out, HO5.out]; omega)
            rw [HLL.out] at h1
            rw [Nat.zero_add]
            exact h1
          · rw [List.length_set]; exact HLL.out
        have HF : Hid (Fr (fun k => k = p ∨ At (some ⟨g, 0, none⟩) k) w wk11 [(gk1, 31, Cm.cells c), (gk3, 36, Av.cells avZ)]) := Fr.via ⟨HF.out.kept.of_no, HF.out.box, HF.out.low, HF.out.inj⟩ hk (fun k e => ⟨(show k = g from e) ▸ hgl, .inr ⟨_, rfl, (show k = g from e).symm⟩⟩)
        clear hbx hk HGw
        refine any_store (i := 8) (o := { dst := none, op := Op.store 36 (Operand.tmp 6) (Operand.tmp 79), type := 0, pos := "step.go:59", after := #[{ on := 7, ground := Ground.data }, { on := 7, ground := Ground.chain }, { on := 0, ground := Ground.phase }, { on := 1, ground := Ground.phase }, { on := 2, ground := Ground.phase }, { on := 3, ground := Ground.phase }, { on := 4, ground := Ground.phase }, { on := 5, ground := Ground.phase }, { on := 6, ground := Ground.phase }, { on := 7, ground := Ground.phase }], guard := none }) (w' := wk11.setRow gk3 (Av.cells ⟨(chgS x c).2.er, (chgS x c).1, slZ⟩)) rfl (by kernel_rfl) (by kernel_rfl) 36 _ _ rfl ⟨gk3, 0, none⟩ (.agg (Av.cells ⟨(chgS x c).2.er, (chgS x c).1, slZ⟩)) (by kernel_rfl) (by kernel_rfl) (st56 (HF.out.box 1 _ _ _ rfl) rfl) (⟨hH.1.rowNe (HF.out.ne 0 1 rfl rfl (by simp)) _, hH.2.rowNe (Nat.ne_of_lt (Nat.lt_of_lt_of_le hpl (HF.out.low 1 _ _ _ rfl))) _⟩) (fun hH => ?_)
        try simp only [pA, pB, p1, p2, p3]
        have HBB : Hid (Bkt (wk11.setRow gk3 (Av.cells ⟨(chgS x c).2.er, (chgS x c).1, slZ⟩)) base p up ⟨some ⟨g, 0, none⟩, en, ec⟩ ⟨la, ln, lc⟩ (es.set ix (chgS x c).1) ls) := HBB.out.put (HF.out.box 1 _ _ _ rfl) (by decide) (by decide) (by decide) _
        have HF : Hid (Fr (fun k => k = p ∨ At (some ⟨g, 0, none⟩) k) w (wk11.setRow gk3 (Av.cells ⟨(chgS x c).2.er, (chgS x c).1, slZ⟩)) [(gk1, 31, Cm.cells c), (gk3, 36, Av.cells ⟨(chgS x c).2.er, (chgS x c).1, slZ⟩)]) := HF.out.set 1 rfl _
        generalize wk11.setRow gk3 (Av.cells ⟨(chgS x c).2.er, (chgS x c).1, slZ⟩) = wk12 at HF HBB hH ⊢
        refine wpAnyH_done (by kernel_rfl) ?_ _
        try simp only [pA, pB, p1, p2, p3]
        clear hH
        go_wp2
        rw [HC.out]
        refine bodyPost_ret (results_row1 (by rfl) _ _ gk3 (Av.cells ⟨(chgS x c).2.er, (chgS x c).1, slZ⟩) (by rfl) (ld56 (HF.out.box 1 _ _ _ rfl))) rfl ?_
        rw [HAC.out q1 q2 q3 q4]
        refine ⟨_, slZ, ?_, HBB.out, ?_, fun k h => absurd h At.none, HF.out.kept, fun k h => .inl h⟩
        · show _ = Ending.returned (.agg (Av.cells ⟨(chgS x c).2.er, (chgS x c).2.e, slZ⟩)); rw [chgS_e]
        · show OwE _ _ slZ (chgS x c).2.l; rw [chgS_l]; exact OwE.nil _ _
       ·skip
        refine tW (.bool true) (exec_bin .eql 3 _ _ _ rfl (.int .i64 c.k) (.int .i64 2) (.bool true) (by kernel_rfl) (by kernel_rfl) (by kernel_rfl) (by rw [b_eql, q4]; try rfl)) ?_
        try simp only [pA, pB, p1, p2, p3]
        refine tK (.bool true) ?_
        try simp only [pA, pB, p1, p2, p3]
        refine WL.nil ?_
        try simp only [pA, pB, p1, p2, p3]
        go_upto_region 13 with fail
        refine WL.start ?_
        refine tK (.pointer (some ⟨p, 0, none⟩)) ?_
        try simp only [pA, pB, p1, p2, p3]
        refine tK (.pointer (some ⟨p, 0, none⟩)) ?_
        try simp only [pA, pB, p1, p2, p3]
        refine tK (.pointer (some ⟨p, 1, none⟩)) ?_
        try simp only [pA, pB, p1, p2, p3]
        refine tW (.slice (some ⟨g, 0, none⟩) en ec) (exec_load 23 _ rfl ⟨p, 1, none⟩ (by kernel_rfl) (.slice (some ⟨g, 0, none⟩) en ec) (ld22 ((HP.out.no HF.out.kept).cell 1))) ?_
        try simp only [pA, pB, p1, p2, p3]
        refine tK (.int .i64 ((ix : Nat) : Int)) ?_
        try simp only [pA, pB, p1, p2, p3]
        refine tW (.pointer (some ⟨g, 0 + ix * 4, none⟩)) (exec_ixA 23 4 Try.und22e Try.size22e _ _ rfl g 0 en ec ix (by kernel_rfl) (by kernel_rfl) hxm) ?_
        try simp only [pA, pB, p1, p2, p3]
        refine tW (.agg (En.cells x)) (exec_load 34 _ rfl ⟨g, 0 + ix * 4, none⟩ (by kernel_rfl) (.agg (En.cells x)) (load_E (fun j v h => HF.out.kept.cell (HCE.out j v h) (fun e => e)))) ?_
        try simp only [pA, pB, p1, p2, p3]
        refine wp_runW (.pointer (some ⟨wk9.heap.size, 0, none⟩)) (wk9.alloc (.cells (En.cells enZ) 34)) (exec_alloc 34 rfl (En.cells enZ) zero54) (by kernel_rfl) ?_
        try simp only [pA, pB, p1, p2, p3]
        have HF : Hid (Fr No w (wk9.alloc (.cells (En.cells enZ) 34)) [(gk1, 31, Cm.cells c), (gk3, 36, Av.cells avZ), (wk9.heap.size, 34, En.cells enZ)]) := HF.out.alloc _ _
        generalize wk9.alloc (.cells (En.cells enZ) 34) = wk14 at HF ⊢
        generalize wk9.heap.size = gk13 at HF ⊢
        refine wp_storeW 34 _ _ rfl ⟨gk13, 0, none⟩ (.agg (En.cells x)) (by kernel_rfl) (by kernel_rfl) (wk14.setRow gk13 (En.cells x)) (st54 (HF.out.box 2 _ _ _ rfl) rfl) (by kernel_rfl) ?_
        try simp only [pA, pB, p1, p2, p3]
        have HF : Hid (Fr No w (wk14.setRow gk13 (En.cells x)) [(gk1, 31, Cm.cells c), (gk3, 36, Av.cells avZ), (gk13, 34, En.cells x)]) := HF.out.set 2 rfl _
        generalize wk14.setRow gk13 (En.cells x) = wk15 at HF ⊢
        refine WL.nil ?_
        try simp only [pA, pB, p1, p2, p3]
        go_upto_region 14 with fail
        refine WL.start ?_
        refine tK (.pointer (some ⟨p, 0, none⟩)) ?_
        try simp only [pA, pB, p1, p2, p3]
        refine tK (.pointer (some ⟨p, 0, none⟩)) ?_
        try simp only [pA, pB, p1, p2, p3]
        refine tK (.pointer (some ⟨p, 0, none⟩)) ?_
        try simp only [pA, pB, p1, p2, p3]
        refine tK (.pointer (some ⟨p, 1, none⟩)) ?_
        try simp only [pA, pB, p1, p2, p3]
        refine tW (.slice (some ⟨g, 0, none⟩) en ec) (exec_load 23 _ rfl ⟨p, 1, none⟩ (by kernel_rfl) (.slice (some ⟨g, 0, none⟩) en ec) (ld22 ((HP.out.no HF.out.kept).cell 1))) ?_
        try simp only [pA, pB, p1, p2, p3]
        refine tK (.int .i64 ((ix : Nat) : Int)) ?_
        try simp only [pA, pB, p1, p2, p3]
        refine tK (.int .i64 ((ix : Nat) : Int)) ?_
        try simp only [pA, pB, p1, p2, p3]
        refine tW (.int .i64 (((ix + 1) : Nat) : Int)) (exec_bin .add 3 _ _ _ rfl (.int .i64 ((ix : Nat) : Int)) (.int .i64 1) (.int .i64 (((ix + 1) : Nat) : Int)) (by kernel_rfl) (by kernel_rfl) (by kernel_rfl) (b_addN ix 1 (ix + 1) rfl (by omega) _)) ?_
        try simp only [pA, pB, p1, p2, p3]
        have HEw : Hid (OwE wk15 base ⟨some ⟨g, 0, none⟩, en, ec⟩ es) := HE.out.no HF.out.kept
        have HPw : Hid (Box wk15 p 26 (Bv.cells ⟨up, ⟨some ⟨g, 0, none⟩, en, ec⟩, ⟨la, ln, lc⟩⟩)) := HP.out.no HF.out.kept
        have HLw : Hid (OwL wk15 base ⟨la, ln, lc⟩ ls) := HL.out.no HF.out.kept
        refine wp_callW 39 #[.slice (some ⟨g, 0, none⟩) en ec, .int .i64 ((ix : Nat) : Int), .int .i64 (((ix + 1) : Nat) : Int)] (by kernel_rfl) _ (del_any (some ⟨g, 0, none⟩) en ec ix base es wk15 HEw.out hxm hb) (by kernel_rfl) ?_
        rintro e wk16 ⟨⟨sa, sn, sc⟩, rfl, hO, hk, hA⟩
        refine ⟨.slice sa sn sc, rfl, ?_⟩
        try simp only [pA, pB, p1, p2, p3]
        have HO : Hid (OwE wk16 base ⟨sa, sn, sc⟩ (delL es ix)) := hO
        have HA : Hid (∀ k, At sa k → At (some ⟨g, 0, none⟩) k ∨ w.heap.size ≤ k) := fun k h => .inl (hA k h)
        have HPw : Hid (Box wk16 p 26 (Bv.cells ⟨up, ⟨some ⟨g, 0, none⟩, en, ec⟩, ⟨la, ln, lc⟩⟩)) := HPw.out.kept hk (HEw.out.own.notBox HPw.out (by decide))
        have HLw : Hid (OwL wk16 base ⟨la, ln, lc⟩ ls) := HLw.out.kept hk (fun k h => HLw.out.own.apart HEw.out.own (by decide) h)
        have HF : Hid (Fr (fun k => k = p ∨ At (some ⟨g, 0, none⟩) k) w wk16 [(gk1, 31, Cm.cells c), (gk3, 36, Av.cells avZ), (gk13, 34, En.cells x)]) := Fr.via ⟨HF.out.kept.of_no, HF.out.box, HF.out.low, HF.out.inj⟩ hk (fun k e => ⟨HE.out.own.lt e, .inr e⟩)
        clear hO hk hA HEw
        refine tK (.pointer (some ⟨p, 0, none⟩)) ?_
        try simp only [pA, pB, p1, p2, p3]
        refine tK (.pointer (some ⟨p, 1, none⟩)) ?_
        try simp only [pA, pB, p1, p2, p3]
        refine wp_storeW 23 _ _ rfl ⟨p, 1, none⟩ (.slice sa sn sc) (by kernel_rfl) (by kernel_rfl) (wk16.setRow p (Bv.cells ⟨up, ⟨sa, sn, sc⟩, ⟨la, ln, lc⟩⟩)) (run_store_at (cur := Bv.cs ⟨up, ⟨some ⟨g, 0, none⟩, en, ec⟩, ⟨la, ln, lc⟩⟩) (vs := [.slice sa sn sc]) HPw.out rfl Try.size22 (by exact Nat.le_of_ble_eq_true rfl) (by simp [Value.oneCell'])) (by kernel_rfl) ?_
        try simp only [pA, pB, p1, p2, p3]
        have HBB : Hid (Bkt (wk16.setRow p (Bv.cells ⟨up, ⟨sa, sn, sc⟩, ⟨la, ln, lc⟩⟩)) base p up ⟨sa, sn, sc⟩ ⟨la, ln, lc⟩ (delL es ix) ls) :=
          ⟨HPw.out.setRow _, HO.out.kept (Kept.setRow _ _ _) (fun k h e => HO.out.own.notBox HPw.out (by decide) ((show k = p from e) ▸ h)), HLw.out.kept (Kept.setRow _ _ _) (fun k h e => HLw.out.own.notBox HPw.out (by decide) ((show k = p from e) ▸ h))⟩
        have HF : Hid (Fr (fun k => k = p ∨ At (some ⟨g, 0, none⟩) k) w (wk16.setRow p (Bv.cells ⟨up, ⟨sa, sn, sc⟩, ⟨la, ln, lc⟩⟩)) [(gk1, 31, Cm.cells c), (gk3, 36, Av.cells avZ), (gk13, 34, En.cells x)]) := HF.out.via (Kept.setRow _ _ _) (fun k e => ⟨(show k = p from e) ▸ hpl, .inl e⟩)
        clear HO HPw HLw
        generalize wk16.setRow p (Bv.cells ⟨up, ⟨sa, sn, sc⟩, ⟨la, ln, lc⟩⟩) = wk17 at HF HBB ⊢
        refine WL.nil ?_
        try simp only [pA, pB, p1, p2, p3]
        go_upto_region 15 with fail
        refine WL.start ?_
        refine tW (.agg (En.cells x)) (exec_load 34 _ rfl ⟨gk13, 0, none⟩ (by kernel_rfl) (.agg (En.cells x)) (ld54 (HF.out.box 2 _ _ _ rfl))) ?_
        try simp only [pA, pB, p1, p2, p3]
        refine tW (.agg (Av.cells ⟨0, x, ⟨none, 0, 0⟩⟩)) (exec_build 36 _ rfl (Av.cells ⟨0, x, ⟨none, 0, 0⟩⟩) (by kernel_rfl)) ?_
        try simp only [pA, pB, p1, p2, p3]
        refine wp_storeW 36 _ _ rfl ⟨gk3, 0, none⟩ (.agg (Av.cells ⟨0, x, ⟨none, 0, 0⟩⟩)) (by kernel_rfl) (by kernel_rfl) (wk17.setRow gk3 (Av.cells ⟨0, x, ⟨none, 0, 0⟩⟩)) (st56 (HF.out.box 1 _ _ _ rfl) rfl) (by kernel_rfl) ?_
        try simp only [pA, pB, p1, p2, p3]
        have HBB : Hid (Bkt (wk17.setRow gk3 (Av.cells ⟨0, x, ⟨none, 0, 0⟩⟩)) base p up ⟨sa, sn, sc⟩ ⟨la, ln, lc⟩ (delL es ix) ls) := HBB.out.put (HF.out.box 1 _ _ _ rfl) (by decide) (by decide) (by decide) _
        have HF : Hid (Fr (fun k => k = p ∨ At (some ⟨g, 0, none⟩) k) w (wk17.setRow gk3 (Av.cells ⟨0, x, ⟨none, 0, 0⟩⟩)) [(gk1, 31, Cm.cells c), (gk3, 36, Av.cells ⟨0, x, ⟨none, 0, 0⟩⟩), (gk13, 34, En.cells x)]) := HF.out.set 1 rfl _
        generalize wk17.setRow gk3 (Av.cells ⟨0, x, ⟨none, 0, 0⟩⟩) = wk18 at HF HBB ⊢
        refine WL.nil ?_
        try simp only [pA, pB, p1, p2, p3]
        go_wp2
        rw [HC.out]
        refine bodyPost_ret (results_row1 (by rfl) _ _ gk3 (Av.cells ⟨0, x, ⟨none, 0, 0⟩⟩) (by rfl) (ld56 (HF.out.box 1 _ _ _ rfl))) rfl ?_
        rw [HAD.out q1 q2 q3 q4]
        exact ⟨⟨sa, sn, sc⟩, slZ, rfl, HBB.out, OwE.nil _ _, fun k h => absurd h At.none, HF.out.kept, HA.out⟩
      ·skip
       refine tW (.bool true) (exec_bin .eql 3 _ _ _ rfl (.int .i64 c.k) (.int .i64 3) (.bool true) (by kernel_rfl) (by kernel_rfl) (by kernel_rfl) (by rw [b_eql, q3]; try rfl)) ?_
       try simp only [pA, pB, p1, p2, p3]
       refine tK (.bool true) ?_
       try simp only [pA, pB, p1, p2, p3]
       refine WL.nil ?_
       try simp only [pA, pB, p1, p2, p3]
       go_upto_region 11 with fail
       refine WL.start ?_
       refine tK (.pointer (some ⟨p, 0, none⟩)) ?_
       try simp only [pA, pB, p1, p2, p3]
       refine tK (.pointer (some ⟨p, 0, none⟩)) ?_
       try simp only [pA, pB, p1, p2, p3]
       refine tK (.pointer (some ⟨p, 1, none⟩)) ?_
       try simp only [pA, pB, p1, p2, p3]
       refine tW (.slice (some ⟨g, 0, none⟩) en ec) (exec_load 23 _ rfl ⟨p, 1, none⟩ (by kernel_rfl) (.slice (some ⟨g, 0, none⟩) en ec) (ld22 ((HP.out.no HF.out.kept).cell 1))) ?_
       try simp only [pA, pB, p1, p2, p3]
       refine tK (.int .i64 ((ix : Nat) : Int)) ?_
       try simp only [pA, pB, p1, p2, p3]
       refine tW (.pointer (some ⟨g, 0 + ix * 4, none⟩)) (exec_ixA 23 4 Try.und22e Try.size22e _ _ rfl g 0 en ec ix (by kernel_rfl) (by kernel_rfl) hxm) ?_
       try simp only [pA, pB, p1, p2, p3]
       refine tW (.agg (En.cells x)) (exec_load 34 _ rfl ⟨g, 0 + ix * 4, none⟩ (by kernel_rfl) (.agg (En.cells x)) (load_E (fun j v h => HF.out.kept.cell (HCE.out j v h) (fun e => e)))) ?_
       try simp only [pA, pB, p1, p2, p3]
       refine tW (.agg (Av.cells ⟨0, x, ⟨none, 0, 0⟩⟩)) (exec_build 36 _ rfl (Av.cells ⟨0, x, ⟨none, 0, 0⟩⟩) (by kernel_rfl)) ?_
       try simp only [pA, pB, p1, p2, p3]
       refine wp_storeW 36 _ _ rfl ⟨gk3, 0, none⟩ (.agg (Av.cells ⟨0, x, ⟨none, 0, 0⟩⟩)) (by kernel_rfl) (by kernel_rfl) (wk9.setRow gk3 (Av.cells ⟨0, x, ⟨none, 0, 0⟩⟩)) (st56 (HF.out.box 1 _ _ _ rfl) rfl) (by kernel_rfl) ?_
       try simp only [pA, pB, p1, p2, p3]
       have HF : Hid (Fr No w (wk9.setRow gk3 (Av.cells ⟨0, x, ⟨none, 0, 0⟩⟩)) [(gk1, 31, Cm.cells c), (gk3, 36, Av.cells ⟨0, x, ⟨none, 0, 0⟩⟩)]) := HF.out.set 1 rfl _
       generalize wk9.setRow gk3 (Av.cells ⟨0, x, ⟨none, 0, 0⟩⟩) = wk19 at HF ⊢
       refine WL.nil ?_
       try simp only [pA, pB, p1, p2, p3]
       go_wp2
       rw [HC.out]
       refine bodyPost_ret (results_row1 (by rfl) _ _ gk3 (Av.cells ⟨0, x, ⟨none, 0, 0⟩⟩) (by rfl) (ld56 (HF.out.box 1 _ _ _ rfl))) rfl ?_
       rw [HAL.out q1 q2 q3]
       exact ⟨_, slZ, rfl, HH.out.no HF.out.kept, OwE.nil _ _, fun k h => absurd h At.none, HF.out.kept.of_no, fun k h => .inl h⟩
   ·skip
    refine tW (.bool true) (exec_bin .eql 3 _ _ _ rfl (.int .i64 c.k) (.int .i64 1) (.bool true) (by kernel_rfl) (by kernel_rfl) (by kernel_rfl) (by rw [b_eql, q2]; try rfl)) ?_
    try simp only [pA, pB, p1, p2, p3]
    refine tK (.bool true) ?_
    try simp only [pA, pB, p1, p2, p3]
    refine WL.nil ?_
    try simp only [pA, pB, p1, p2, p3]
    go_upto_region 5 with fail
    refine WL.start ?_
    refine tK (.pointer (some ⟨p, 0, none⟩)) ?_
    try simp only [pA, pB, p1, p2, p3]
    refine tW (.agg (Cm.cells c)) (exec_load 31 _ rfl ⟨gk1, 0, none⟩ (by kernel_rfl) (.agg (Cm.cells c)) (ld29 (HF.out.box 0 _ _ _ rfl))) ?_
    try simp only [pA, pB, p1, p2, p3]
    refine tK (.int .i64 room) ?_
    try simp only [pA, pB, p1, p2, p3]
    refine wp_callW 38 #[.pointer (some ⟨p, 0, none⟩), .agg (Cm.cells c), .int .i64 room] (by kernel_rfl) _ (create_any p base up ea en ec la ln lc es ls c room wk4 (HH.out.no HF.out.kept) hb (Nat.le_trans hbase HF.out.kept.size)) (by kernel_rfl) ?_
    rintro e wk20 ⟨⟨sa, sn, sc⟩, ⟨xa, xn, xc⟩, rfl, hB, hX, hD, hk, hA⟩
    have HBB : Hid (Bkt wk20 base p up ⟨sa, sn, sc⟩ ⟨la, ln, lc⟩ (creS es c room).1 ls) := hB
    have HOX : Hid (OwE wk20 w.heap.size ⟨xa, xn, xc⟩ (creS es c room).2.l) := hX.lower HF.out.kept.size
    have HDD : Hid (∀ k, At xa k → ¬ At sa k) := hD
    have HA : Hid (∀ k, At sa k → At ea k ∨ w.heap.size ≤ k) := fun k h => (hA k h).imp id (fun e => Nat.le_trans HF.out.kept.size e)
    have HF : Hid (Fr (fun k => k = p ∨ At ea k) w wk20 [(gk1, 31, Cm.cells c), (gk3, 36, Av.cells avZ)]) := Fr.via ⟨HF.out.kept.of_no, HF.out.box, HF.out.low, HF.out.inj⟩ hk (fun k e => ⟨e.elim (fun e => e ▸ hpl) (fun e => HE.out.own.lt e), e⟩)
    refine ⟨.agg (Av.cells ⟨(creS es c room).2.er, (creS es c room).2.e, ⟨xa, xn, xc⟩⟩), rfl, ?_⟩
    clear hB hX hD hk hA
    try simp only [pA, pB, p1, p2, p3]
    refine wp_storeW 36 _ _ rfl ⟨gk3, 0, none⟩ (.agg (Av.cells ⟨(creS es c room).2.er, ((creS es c room).2.e), ⟨xa, xn, xc⟩⟩)) (by kernel_rfl) (by kernel_rfl) (wk20.setRow gk3 (Av.cells ⟨(creS es c room).2.er, ((creS es c room).2.e), ⟨xa, xn, xc⟩⟩)) (st56 (HF.out.box 1 _ _ _ rfl) rfl) (by kernel_rfl) ?_
    try simp only [pA, pB, p1, p2, p3]
    have HBB : Hid (Bkt (wk20.setRow gk3 (Av.cells ⟨(creS es c room).2.er, ((creS es c room).2.e), ⟨xa, xn, xc⟩⟩)) base p up ⟨sa, sn, sc⟩ ⟨la, ln, lc⟩ (creS es c room).1 ls) := HBB.out.put (HF.out.box 1 _ _ _ rfl) (by decide) (by decide) (by decide) _
    have HOX : Hid (OwE (wk20.setRow gk3 (Av.cells ⟨(creS es c room).2.er, ((creS es c room).2.e), ⟨xa, xn, xc⟩⟩)) w.heap.size ⟨xa, xn, xc⟩ (creS es c room).2.l) := HOX.out.kept (Kept.setRow _ _ _) (fun k h e => (HOX.out.own.notBox (HF.out.box 1 _ _ _ rfl) (by decide)) ((show k = gk3 from e) ▸ h))
    have HF : Hid (Fr (fun k => k = p ∨ At ea k) w (wk20.setRow gk3 (Av.cells ⟨(creS es c room).2.er, ((creS es c room).2.e), ⟨xa, xn, xc⟩⟩)) [(gk1, 31, Cm.cells c), (gk3, 36, Av.cells ⟨(creS es c room).2.er, ((creS es c room).2.e), ⟨xa, xn, xc⟩⟩)]) := HF.out.set 1 rfl _
    generalize wk20.setRow gk3 (Av.cells ⟨(creS es c room).2.er, ((creS es c room).2.e), ⟨xa, xn, xc⟩⟩) = wk21 at HF HBB HOX ⊢
    refine WL.nil ?_
    try simp only [pA, pB, p1, p2, p3]
    go_wp2
    rw [HC.out]
    refine bodyPost_ret (results_row1 (by rfl) _ _ gk3 (Av.cells ⟨(creS es c room).2.er, ((creS es c room).2.e), ⟨xa, xn, xc⟩⟩) (by rfl) (ld56 (HF.out.box 1 _ _ _ rfl))) rfl ?_
    rw [actS_create q1 q2]
    exact ⟨⟨sa, sn, sc⟩, ⟨xa, xn, xc⟩, rfl, HBB.out, HOX.out, HDD.out, HF.out.kept, HA.out⟩
  ·skip
   refine tW (.bool true) (exec_bin .eql 3 _ _ _ rfl (.int .i64 c.k) (.int .i64 4) (.bool true) (by kernel_rfl) (by kernel_rfl) (by kernel_rfl) (by rw [b_eql, q1]; try rfl)) ?_
   try simp only [pA, pB, p1, p2, p3]
   refine tK (.bool true) ?_
   try simp only [pA, pB, p1, p2, p3]
   refine WL.nil ?_
   try simp only [pA, pB, p1, p2, p3]
   have HF5 : Hid (w.heap.size ≤ wk4.heap.size) := HF.out.kept.size
   go_upto_region 3 with fail
   refine WL.start ?_
   refine tK (.pointer (some ⟨p, 0, none⟩)) ?_
   try simp only [pA, pB, p1, p2, p3]
   refine tK (.pointer (some ⟨p, 0, none⟩)) ?_
   try simp only [pA, pB, p1, p2, p3]
   refine tW (.agg (Bv.cells ⟨up, ⟨ea, en, ec⟩, ⟨la, ln, lc⟩⟩)) (exec_load 26 _ rfl ⟨p, 0, none⟩ (by kernel_rfl) (.agg (Bv.cells ⟨up, ⟨ea, en, ec⟩, ⟨la, ln, lc⟩⟩)) (ld25 (HP.out.no HF.out.kept))) ?_
   try simp only [pA, pB, p1, p2, p3]
   refine wp_callW 37 #[.agg (Bv.cells ⟨up, ⟨ea, en, ec⟩, ⟨la, ln, lc⟩⟩)] (by kernel_rfl) _ (all_any up ea en ec ⟨la, ln, lc⟩ es _ hll hb (HE.out.no HF.out.kept).rd hle) (by kernel_rfl) ?_
   rintro e wk22 ⟨⟨xa, xn, xc⟩, rfl, hox, hk⟩
   have HF : Hid (Fr No w (wk22) [(gk1, 31, Cm.cells c), (gk3, 36, Av.cells avZ)]) := HF.out.no hk
   obtain ⟨s5, hs5⟩ : ∃ s5, s5 = wk4.heap.size := ⟨_, rfl⟩
   have HSX : Hid (w.heap.size ≤ s5) := by rw [hs5]; exact HF5.out
   rw [← hs5] at hox
   have HOX : Hid (OwE wk22 s5 ⟨xa, xn, xc⟩ es) := hox
   clear hox hs5 HF5
   clear hk
   refine ⟨.slice xa xn xc, rfl, ?_⟩
   try simp only [pA, pB, p1, p2, p3]
   refine tW (.agg (Av.cells ⟨0, enZ, ⟨xa, xn, xc⟩⟩)) (exec_build 36 _ rfl (Av.cells ⟨0, enZ, ⟨xa, xn, xc⟩⟩) (by kernel_rfl)) ?_
   try simp only [pA, pB, p1, p2, p3]
   refine wp_storeW 36 _ _ rfl ⟨gk3, 0, none⟩ (.agg (Av.cells ⟨0, enZ, ⟨xa, xn, xc⟩⟩)) (by kernel_rfl) (by kernel_rfl) (wk22.setRow gk3 (Av.cells ⟨0, enZ, ⟨xa, xn, xc⟩⟩)) (st56 (HF.out.box 1 _ _ _ rfl) rfl) (by kernel_rfl) ?_
   try simp only [pA, pB, p1, p2, p3]
   have HOX : Hid (OwE (wk22.setRow gk3 (Av.cells ⟨0, enZ, ⟨xa, xn, xc⟩⟩)) s5 ⟨xa, xn, xc⟩ es) := HOX.out.kept (Kept.setRow _ _ _) (fun k h e => (HOX.out.own.notBox (HF.out.box 1 _ _ _ rfl) (by decide)) ((show k = gk3 from e) ▸ h))
   have HF : Hid (Fr No w (wk22.setRow gk3 (Av.cells ⟨0, enZ, ⟨xa, xn, xc⟩⟩)) [(gk1, 31, Cm.cells c), (gk3, 36, Av.cells ⟨0, enZ, ⟨xa, xn, xc⟩⟩)]) := HF.out.set 1 rfl _
   generalize wk22.setRow gk3 (Av.cells ⟨0, enZ, ⟨xa, xn, xc⟩⟩) = wk23 at HF HOX ⊢
   refine WL.nil ?_
   try simp only [pA, pB, p1, p2, p3]
   go_wp2
   rw [HC.out]
   refine bodyPost_ret (results_row1 (by rfl) _ _ gk3 (Av.cells ⟨0, enZ, ⟨xa, xn, xc⟩⟩) (by rfl) (ld56 (HF.out.box 1 _ _ _ rfl))) rfl ?_
   rw [actS_list q1]
   exact ⟨_, ⟨xa, xn, xc⟩, rfl, HH.out.no HF.out.kept, HOX.out.lower HSX.out, fun k h1 h2 => by have e1 := HOX.out.own.base h1; have e2 := HE.out.own.lt h2; have e3 := HSX.out; omega, HF.out.kept.of_no, fun k h => .inl h⟩

end Go.Proofs.Ytfemlnfknebalab
