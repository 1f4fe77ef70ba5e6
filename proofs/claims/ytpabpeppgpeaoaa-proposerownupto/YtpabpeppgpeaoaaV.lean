import Derived.Test.YtpabpeppgpeaoaaU
namespace Go.Proofs.Ytpabpeppgpeaoaa
open Go.RowKit Gt
set_option linter.unusedVariables false
set_option linter.unusedSimpArgs false

theorem flds37 : (Try.prog.fieldsOf 37).toList = [fld "Client" 4 0 0, fld "Id" 3 1 8] := by kernel_rfl
theorem flds23 : (Try.prog.fieldsOf 23).toList = [fld "Kind" 3 0 0, fld "A" 3 1 8, fld "B" 3 2 16, fld "C" 3 3 24] := by kernel_rfl
def eqA (a : Bool) (b : Int) (c : Bool) (d : Int) : Bool := a == c && b == d
def eqK (a b : Ky) : Bool := a.k == b.k && (a.a == b.a && (a.b == b.b && a.c == b.c))
theorem eq37 (d : Nat) (a : Bool) (b : Int) (c : Bool) (e : Int) (w : World) : (Op.equalIn (d + 2) 37 (.agg #[.bool a, .int .i64 b]) (.agg #[.bool c, .int .i64 e])).run Try.prog w = .ok (eqA a b c e) w := by
  have h0 : ∀ (a : Bool) (b : Int) (w : World), (part 4 #[.bool a, .int .i64 b] 0).run Try.prog w = .ok (.bool a) w := fun a b w => by kernel_rfl
  have h1 : ∀ (a : Bool) (b : Int) (w : World), (part 3 #[.bool a, .int .i64 b] 1).run Try.prog w = .ok (.int .i64 b) w := fun a b w => by kernel_rfl
  have hB : ∀ (a b : Bool) (w : World), (Op.equalIn (d + 1) 4 (.bool a) (.bool b)).run Try.prog w = .ok (a == b) w := fun a b w => run_equalIn_bool w d 4 a b Try.und4
  rw [show d + 2 = (d + 1) + 1 from rfl, run_equalIn_struct w (d + 1) 37 _ _ Try.und37 (by kernel_rfl), flds37]
  unfold eqA
  generalize e1 : (a == c) = q1
  generalize e2 : (b == e) = q2
  cases q1 <;> cases q2 <;> simp [Op.eqFields, fld, h0, h1, hB, eqInt, e1, e2, Result.andThen]
theorem eq23K (d : Nat) (a b : Ky) (w : World) : (Op.equalIn (d + 2) 23 (.agg a.cells) (.agg b.cells)).run Try.prog w = .ok (eqK a b) w := by
  have h0 : ∀ (a : Ky) (w : World), (part 3 a.cells 0).run Try.prog w = .ok (.int .i64 a.k) w := fun a w => by kernel_rfl
  have h1 : ∀ (a : Ky) (w : World), (part 3 a.cells 1).run Try.prog w = .ok (.int .i64 a.a) w := fun a w => by kernel_rfl
  have h2 : ∀ (a : Ky) (w : World), (part 3 a.cells 2).run Try.prog w = .ok (.int .i64 a.b) w := fun a w => by kernel_rfl
  have h3 : ∀ (a : Ky) (w : World), (part 3 a.cells 3).run Try.prog w = .ok (.int .i64 a.c) w := fun a w => by kernel_rfl
  rw [show d + 2 = (d + 1) + 1 from rfl, run_equalIn_struct w (d + 1) 23 _ _ Try.und23 (by kernel_rfl), flds23]
  unfold eqK
  generalize e1 : (a.k == b.k) = q1
  generalize e2 : (a.a == b.a) = q2
  generalize e3 : (a.b == b.b) = q3
  generalize e4 : (a.c == b.c) = q4
  cases q1
  · simp [Op.eqFields, fld, h0, eqInt, e1, Result.andThen]
  cases q2
  · simp [Op.eqFields, fld, h0, h1, eqInt, e1, e2, Result.andThen]
  cases q3
  · simp [Op.eqFields, fld, h0, h1, h2, eqInt, e1, e2, e3, Result.andThen]
  cases q4 <;> simp [Op.eqFields, fld, h0, h1, h2, h3, eqInt, e1, e2, e3, e4, Result.andThen]
theorem eqlA (a : Bool) (b : Int) (c : Bool) (e : Int) (w : World) : (binOp .eql 37 (.agg #[.bool a, .int .i64 b]) (.agg #[.bool c, .int .i64 e])).run Try.prog w = .ok (.bool (eqA a b c e)) w := by
  rw [run_eql_struct, eq37 9998]; rfl
theorem eqlK (a b : Ky) (w : World) : (binOp .eql 23 (.agg a.cells) (.agg b.cells)).run Try.prog w = .ok (.bool (eqK a b)) w := by
  rw [run_eql_struct, eq23K 9998]; rfl
theorem guard_A (b : BinOp) (hb : b = .eql ∨ b = .neq) (x y : Operand) (u v : Array Value) (w : World) : (eqGuard b 37 x y (.agg u) (.agg v)).run Try.prog w = .ok () w := by
  rcases hb with rfl | rfl <;> kernel_rfl
theorem guard_K (b : BinOp) (hb : b = .eql ∨ b = .neq) (x y : Operand) (u v : Array Value) (w : World) : (eqGuard b 23 x y (.agg u) (.agg v)).run Try.prog w = .ok () w := by
  rcases hb with rfl | rfl <;> kernel_rfl
theorem Ms.partT (m : Ms) : Part m.cs 3 [.bool m.tc, .int .i64 m.ti] := fun j x h => by
  match j, h with
  | 0, h => exact h
  | 1, h => exact h
theorem Ms.partK (m : Ms) : Part m.cs 7 m.ky.cs := Part.mid _ _ _ rfl
theorem load_mT {w : World} {g : Nat} {m : Ms} (h : Box w g 47 m.cells) : (loadVar 37 ⟨g, 3, none⟩).run Try.prog w = .ok (.agg #[.bool m.tc, .int .i64 m.ti]) w := run_load_part h m.partT Try.und37 rfl Try.size37
theorem load_mK {w : World} {g : Nat} {m : Ms} (h : Box w g 47 m.cells) : (loadVar 23 ⟨g, 7, none⟩).run Try.prog w = .ok (.agg m.ky.cells) w := run_load_part h m.partK Try.und23 rfl Try.size23
theorem cont2 {a : Option Addr} {n c : Nat} (zs : List Int) (s : Int) (w : World) (hz : zs.length = n) (hn : n ≤ 17592186043904) (hg : Nums .i64 w a zs) : Calls Try.prog 78 #[.slice a n c, .int .i64 s] w (fun e w' => e = .returned (.bool (hasB zs s)) ∧ w' = w) := by
  subst hz
  exact contains_any a c zs s w hn hg
/-- It comes from a server of the group, to what is asked now. -/
def ansB (v : Pv) (zs : List Int) (m : Ms) : Bool := eqA m.tc m.ti true v.cl && (m.op == v.op && (m.rd == v.rd && (eqK m.ky v.ky && (!m.fc && hasB zs m.fi))))
set_option maxRecDepth 100000 in
set_option maxHeartbeats 4000000 in
theorem answers_any (p : Nat) (v : Pv) (m : Ms) (zs : List Int) (w : World) (h : Box w p 94 v.cells) (hz : zs.length = v.ga.l) (hn : v.ga.l ≤ 2000000) (hg : Nums .i64 w v.ga.a zs) : Calls Try.prog 55 #[.pointer (some ⟨p, 0, none⟩), .agg m.cells] w (fun e w' => e = .returned (.bool (ansB v zs m)) ∧ Kept No w w') := by
  refine hideC fun C HC => ?_
  have HPW : Hid (Box w p 94 v.cells) := h
  have HZ : Hid (zs.length = v.ga.l) := hz
  have HG0 : Hid (Nums .i64 w v.ga.a zs) := hg
  clear h hz hg
  go_enter Try.func55, Try.ntmps55
  go_upto_region 0 with fail
  refine WL.start ?_
  refine uR (pV w.heap.size 0) (w.alloc (.cells m.cells 47)) (exec_box 47 _ rfl m.cells (by kernel_rfl)) ?_
  try simp only [pS]
  refine uK (.bool false) <| WL.nil <| ?_
  try simp only [pS]
  obtain ⟨wa, hwa⟩ : ∃ wa, wa = w.alloc (.cells m.cells 47) := ⟨_, rfl⟩
  rw [← hwa]
  have HK : Hid (Kept No w wa) := by rw [hwa]; exact (Kept.refl No w).alloc _
  have HP : Hid (Box wa (p) 94 (v.cells)) := by rw [hwa]; exact HPW.out.alloc _
  have H3 : Hid (Box wa (w.heap.size) 47 (m.cells)) := by rw [hwa]; exact Box.new _ _ _
  have HLT : Hid (w.heap.size < wa.heap.size) := H3.out.lt
  obtain ⟨B3, hB3⟩ : ∃ B3, B3 = w.heap.size := ⟨_, rfl⟩
  rw [← hB3] at H3 HLT ⊢
  clear hwa hB3 HPW
  go_upto_region 1 with fail
  refine wp_region_held_drew (S := fun w' => Box w' (p) 94 (v.cells) ∧ Box w' (B3) 47 (m.cells)) rfl ⟨HP.out, H3.out⟩ (fun hH => ?_)
  have HP : Hid (Box wa.drew (p) 94 (v.cells)) := HP.out
  have H3 : Hid (Box wa.drew (B3) 47 (m.cells)) := H3.out
  have HK : Hid (Kept No w wa.drew) := HK.out.drew
  have HLT : Hid (B3 < wa.drew.heap.size) := HLT.out
  generalize wa.drew = wk1 at HP H3 HK HLT hH ⊢
  refine xV 0 5 (pV B3 3) hH <| xL 1 6 37 ⟨B3, 3, none⟩ (.agg #[.bool m.tc, .int .i64 m.ti]) (fun _ hw => load_mT hw.2) hH <| xV 2 7 (pV p 0) hH <| xV 3 8 (pV p 0) hH <| xV 4 9 (pV p 0) hH <| xL 5 10 37 ⟨p, 0, none⟩ (.agg #[.bool true, .int .i64 v.cl]) (fun _ hw => load_pA hw.1) hH <| ?_
  try simp only [pS]
  cases q1 : (eqA m.tc m.ti true v.cl)
  ·skip
   refine xB 6 11 .eql 37 (.agg #[.bool m.tc, .int .i64 m.ti]) (.agg #[.bool true, .int .i64 v.cl]) (.bool false) (fun _ _ => by rw [eqlA, q1]; try rfl) hH (hg := fun _ => guard_A _ (.inl rfl) _ _ _ _ _) <| xV 7 12 (.bool false) hH <| xZ 8 13 hH <| xZ 9 14 hH <| xZ 10 15 hH <| xZ 11 16 hH <| ?_
   try simp only [pS]
   refine xZ 12 17 hH <| xZ 13 18 hH <| xZ 14 19 hH <| xV 15 20 (.bool false) hH <| xV 16 21 (.bool false) hH <| xZ 17 22 hH <| ?_
   try simp only [pS]
   refine xZ 18 23 hH <| xZ 19 24 hH <| xZ 20 25 hH <| xZ 21 26 hH <| xZ 22 27 hH <| xZ 23 28 hH <| ?_
   try simp only [pS]
   refine xV 24 29 (.bool false) hH <| xV 25 30 (.bool false) hH <| xZ 26 31 hH <| xZ 27 32 hH <| xZ 28 33 hH <| xZ 29 34 hH <| ?_
   try simp only [pS]
   refine xZ 30 35 hH <| xZ 31 36 hH <| xZ 32 37 hH <| xV 33 38 (.bool false) hH <| xV 34 39 (.bool false) hH <| xZ 35 40 hH <| ?_
   try simp only [pS]
   refine xZ 36 41 hH <| xZ 37 42 hH <| xZ 38 43 hH <| xV 39 44 (.bool false) hH <| xV 40 45 (.bool false) hH <| xZ 41 46 hH <| ?_
   try simp only [pS]
   refine xZ 42 47 hH <| xZ 43 48 hH <| xZ 44 49 hH <| xZ 45 50 hH <| xZ 46 51 hH <| xZ 47 52 hH <| ?_
   try simp only [pS]
   refine xZ 48 53 hH <| xV 49 54 (.bool false) hH <| xV 50 4 (.bool false) hH <| ?_
   try simp only [pS]
   refine wpAnyH_done (by kernel_rfl) ?_ _
   try simp only [pS]
   go_wp2
   rw [HC.out]
   exact ⟨by unfold ansB; simp only [q1]; rfl, HK.out⟩
  ·skip
   refine xB 6 11 .eql 37 (.agg #[.bool m.tc, .int .i64 m.ti]) (.agg #[.bool true, .int .i64 v.cl]) (.bool true) (fun _ _ => by rw [eqlA, q1]; try rfl) hH (hg := fun _ => guard_A _ (.inl rfl) _ _ _ _ _) <| xV 7 12 (.bool true) hH <| xV 8 13 (pV B3 5) hH <| xL 9 14 3 ⟨B3, 5, none⟩ (.int .i64 m.op) (fun _ hw => load_N (hw.2.cell 5)) hH <| xV 10 15 (pV p 0) hH <| xV 11 16 (pV p 0) hH <| ?_
   try simp only [pS]
   refine xV 12 17 (pV p 2) hH <| xL 13 18 3 ⟨p, 2, none⟩ (.int .i64 v.op) (fun _ hw => load_N (hw.1.cell 2)) hH <| ?_
   try simp only [pS]
   cases q2 : (m.op == v.op)
   ·skip
    refine xB 14 19 .eql 3 (.int .i64 m.op) (.int .i64 v.op) (.bool false) (fun _ _ => by rw [eqlN, q2]; try rfl) hH <| xV 15 20 (.bool false) hH <| xV 16 21 (.bool false) hH <| xZ 17 22 hH <| xZ 18 23 hH <| xZ 19 24 hH <| ?_
    try simp only [pS]
    refine xZ 20 25 hH <| xZ 21 26 hH <| xZ 22 27 hH <| xZ 23 28 hH <| xV 24 29 (.bool false) hH <| xV 25 30 (.bool false) hH <| ?_
    try simp only [pS]
    refine xZ 26 31 hH <| xZ 27 32 hH <| xZ 28 33 hH <| xZ 29 34 hH <| xZ 30 35 hH <| xZ 31 36 hH <| ?_
    try simp only [pS]
    refine xZ 32 37 hH <| xV 33 38 (.bool false) hH <| xV 34 39 (.bool false) hH <| xZ 35 40 hH <| xZ 36 41 hH <| xZ 37 42 hH <| ?_
    try simp only [pS]
    refine xZ 38 43 hH <| xV 39 44 (.bool false) hH <| xV 40 45 (.bool false) hH <| xZ 41 46 hH <| xZ 42 47 hH <| xZ 43 48 hH <| ?_
    try simp only [pS]
    refine xZ 44 49 hH <| xZ 45 50 hH <| xZ 46 51 hH <| xZ 47 52 hH <| xZ 48 53 hH <| xV 49 54 (.bool false) hH <| ?_
    try simp only [pS]
    refine xV 50 4 (.bool false) hH ?_
    try simp only [pS]
    refine wpAnyH_done (by kernel_rfl) ?_ _
    try simp only [pS]
    go_wp2
    rw [HC.out]
    exact ⟨by unfold ansB; simp only [q1, q2]; rfl, HK.out⟩
   ·skip
    refine xB 14 19 .eql 3 (.int .i64 m.op) (.int .i64 v.op) (.bool true) (fun _ _ => by rw [eqlN, q2]; try rfl) hH <| xV 15 20 (.bool true) hH <| xV 16 21 (.bool true) hH <| xV 17 22 (pV B3 6) hH <| xL 18 23 3 ⟨B3, 6, none⟩ (.int .i64 m.rd) (fun _ hw => load_N (hw.2.cell 6)) hH <| xV 19 24 (pV p 0) hH <| ?_
    try simp only [pS]
    refine xV 20 25 (pV p 0) hH <| xV 21 26 (pV p 20) hH <| xL 22 27 3 ⟨p, 20, none⟩ (.int .i64 v.rd) (fun _ hw => load_N (hw.1.cell 20)) hH <| ?_
    try simp only [pS]
    cases q3 : (m.rd == v.rd)
    ·skip
     refine xB 23 28 .eql 3 (.int .i64 m.rd) (.int .i64 v.rd) (.bool false) (fun _ _ => by rw [eqlN, q3]; try rfl) hH <| xV 24 29 (.bool false) hH <| xV 25 30 (.bool false) hH <| xZ 26 31 hH <| xZ 27 32 hH <| xZ 28 33 hH <| ?_
     try simp only [pS]
     refine xZ 29 34 hH <| xZ 30 35 hH <| xZ 31 36 hH <| xZ 32 37 hH <| xV 33 38 (.bool false) hH <| xV 34 39 (.bool false) hH <| ?_
     try simp only [pS]
     refine xZ 35 40 hH <| xZ 36 41 hH <| xZ 37 42 hH <| xZ 38 43 hH <| xV 39 44 (.bool false) hH <| xV 40 45 (.bool false) hH <| ?_
     try simp only [pS]
     refine xZ 41 46 hH <| xZ 42 47 hH <| xZ 43 48 hH <| xZ 44 49 hH <| xZ 45 50 hH <| xZ 46 51 hH <| ?_
     try simp only [pS]
     refine xZ 47 52 hH <| xZ 48 53 hH <| xV 49 54 (.bool false) hH <| xV 50 4 (.bool false) hH <| ?_
     try simp only [pS]
     refine wpAnyH_done (by kernel_rfl) ?_ _
     try simp only [pS]
     go_wp2
     rw [HC.out]
     exact ⟨by unfold ansB; simp only [q1, q2, q3]; rfl, HK.out⟩
    ·skip
     refine xB 23 28 .eql 3 (.int .i64 m.rd) (.int .i64 v.rd) (.bool true) (fun _ _ => by rw [eqlN, q3]; try rfl) hH <| xV 24 29 (.bool true) hH <| xV 25 30 (.bool true) hH <| xV 26 31 (pV B3 7) hH <| xL 27 32 23 ⟨B3, 7, none⟩ (.agg m.ky.cells) (fun _ hw => load_mK hw.2) hH <| xV 28 33 (pV p 0) hH <| ?_
     try simp only [pS]
     refine xV 29 34 (pV p 0) hH <| xV 30 35 (pV p 3) hH <| xL 31 36 23 ⟨p, 3, none⟩ (.agg v.ky.cells) (fun _ hw => load_pK hw.1) hH <| ?_
     try simp only [pS]
     cases q4 : (eqK m.ky v.ky)
     ·skip
      refine xB 32 37 .eql 23 (.agg m.ky.cells) (.agg v.ky.cells) (.bool false) (fun _ _ => by rw [eqlK, q4]; try rfl) hH (hg := fun _ => guard_K _ (.inl rfl) _ _ _ _ _) <| xV 33 38 (.bool false) hH <| xV 34 39 (.bool false) hH <| xZ 35 40 hH <| xZ 36 41 hH <| xZ 37 42 hH <| ?_
      try simp only [pS]
      refine xZ 38 43 hH <| xV 39 44 (.bool false) hH <| xV 40 45 (.bool false) hH <| xZ 41 46 hH <| xZ 42 47 hH <| xZ 43 48 hH <| ?_
      try simp only [pS]
      refine xZ 44 49 hH <| xZ 45 50 hH <| xZ 46 51 hH <| xZ 47 52 hH <| xZ 48 53 hH <| xV 49 54 (.bool false) hH <| ?_
      try simp only [pS]
      refine xV 50 4 (.bool false) hH ?_
      try simp only [pS]
      refine wpAnyH_done (by kernel_rfl) ?_ _
      try simp only [pS]
      go_wp2
      rw [HC.out]
      exact ⟨by unfold ansB; simp only [q1, q2, q3, q4]; rfl, HK.out⟩
     ·skip
      refine xB 32 37 .eql 23 (.agg m.ky.cells) (.agg v.ky.cells) (.bool true) (fun _ _ => by rw [eqlK, q4]; try rfl) hH (hg := fun _ => guard_K _ (.inl rfl) _ _ _ _ _) <| xV 33 38 (.bool true) hH <| xV 34 39 (.bool true) hH <| xV 35 40 (pV B3 1) hH <| xV 36 41 (pV B3 1) hH <| ?_
      try simp only [pS]
      cases q5 : (m.fc)
      ·skip
       refine xL 37 42 4 ⟨B3, 1, none⟩ (.bool false) (fun _ hw => by rw [← q5]; exact load_B (hw.2.cell 1)) hH <| xV 38 43 (.bool true) hH <| xV 39 44 (.bool true) hH <| xV 40 45 (.bool true) hH <| xV 41 46 (pV p 0) hH <| xV 42 47 (pV p 0) hH <| ?_
       try simp only [pS]
       refine xV 43 48 (pV p 7) hH <| xL 44 49 24 ⟨p, 7, none⟩ (.slice v.ga.a v.ga.l v.ga.k) (fun _ hw => load_24 (hw.1.cell 7)) hH <| xV 45 50 (pV B3 1) hH <| xV 46 51 (pV B3 2) hH <| xL 47 52 3 ⟨B3, 2, none⟩ (.int .i64 m.fi) (fun _ hw => load_N (hw.2.cell 2)) hH <| ?_
       try simp only [pS]
       refine xC 48 53 78 #[.slice v.ga.a v.ga.l v.ga.k, .int .i64 m.fi] (cont2 zs m.fi wk1 HZ.out (by omega) (HG0.out.no HK.out)) ?_
       rintro e wq ⟨rfl, hwq⟩
       rw [hwq]
       clear hwq wq
       refine ⟨.bool (hasB zs m.fi), rfl, hH, fun hH => ?_⟩
       try simp only [pS]
       refine xV 49 54 (.bool (hasB zs m.fi)) hH <| xV 50 4 (.bool (hasB zs m.fi)) hH <| ?_
       try simp only [pS]
       refine wpAnyH_done (by kernel_rfl) ?_ _
       try simp only [pS]
       go_wp2
       rw [HC.out]
       exact ⟨by unfold ansB; simp only [q1, q2, q3, q4, q5]; rfl, HK.out⟩
      ·skip
       refine xL 37 42 4 ⟨B3, 1, none⟩ (.bool true) (fun _ hw => by rw [← q5]; exact load_B (hw.2.cell 1)) hH <| xV 38 43 (.bool false) hH <| xV 39 44 (.bool false) hH <| xV 40 45 (.bool false) hH <| xZ 41 46 hH <| xZ 42 47 hH <| ?_
       try simp only [pS]
       refine xZ 43 48 hH <| xZ 44 49 hH <| xZ 45 50 hH <| xZ 46 51 hH <| xZ 47 52 hH <| xZ 48 53 hH <| ?_
       try simp only [pS]
       refine xV 49 54 (.bool false) hH <| xV 50 4 (.bool false) hH <| ?_
       try simp only [pS]
       refine wpAnyH_done (by kernel_rfl) ?_ _
       try simp only [pS]
       go_wp2
       rw [HC.out]
       exact ⟨by unfold ansB; simp only [q1, q2, q3, q4, q5]; rfl, HK.out⟩

end Go.Proofs.Ytpabpeppgpeaoaa
