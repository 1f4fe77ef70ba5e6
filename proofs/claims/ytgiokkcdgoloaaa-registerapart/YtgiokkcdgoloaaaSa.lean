import Derived.Test.YtgiokkcdgoloaaaYa
namespace Go.Proofs.Ytgiokkcdgoloaaa.Md
open Go.RowKit
set_option linter.unusedVariables false
set_option linter.unusedSimpArgs false

/-- A result, the reference's machine, what is asked, a step: as cells. -/
structure Rz where
  er : Int
  en : En
  li : Sl
  da : Sl
  n : Int
  st : Sp
  ins : Int
structure Rv where
  wr : Bool
  cl : Int
  op : Int
  ky : Ky
  g : Sl
  rd : Int
  sz : Int
  bl : Sl
  ph : Int
  an : Sl
  vs : Sl
  tag : Sp
  er : Int
structure Aq where
  wr : Bool
  cl : Int
  op : Int
  ky : Ky
  g : Sl
  rd : Int
  sz : Int
  da : Sl
structure Stp where
  k : Int
  m : Mg
def rzZ : Rz := ⟨0, enZ, slZ, slZ, 0, spZ, 0⟩
def blZ : Bl := ⟨spZ, slZ⟩
def Rz.cs (x : Rz) : List Value := [.int .i64 x.er] ++ (x.en.cs ++ ([x.li.v, x.da.v, .int .i64 x.n] ++ (x.st.cs ++ [.int .i64 x.ins])))
def Rv.cs (x : Rv) : List Value := [.bool x.wr, .int .i64 x.cl, .int .i64 x.op] ++ (x.ky.cs ++ ([x.g.v, .int .i64 x.rd, .int .i64 x.sz, x.bl.v, .int .i64 x.ph, x.an.v, x.vs.v] ++ (x.tag.cs ++ [.int .i64 x.er])))
def Aq.cs (x : Aq) : List Value := [.bool x.wr, .int .i64 x.cl, .int .i64 x.op] ++ (x.ky.cs ++ [x.g.v, .int .i64 x.rd, .int .i64 x.sz, x.da.v])
def Stp.cs (x : Stp) : List Value := [.int .i64 x.k] ++ x.m.cs
def Rz.cells (x : Rz) : Array Value := x.cs.toArray
def Rv.cells (x : Rv) : Array Value := x.cs.toArray
def Aq.cells (x : Aq) : Array Value := x.cs.toArray
def Stp.cells (x : Stp) : Array Value := x.cs.toArray
theorem Rz.oneL (x : Rz) : ∀ v ∈ x.cs, v.oneCell' = true := by simp [Rz.cs, En.cs, Sp.cs, Value.oneCell', Sl.v]
theorem Rv.oneL (x : Rv) : ∀ v ∈ x.cs, v.oneCell' = true := by simp [Rv.cs, Ky.cs, Sp.cs, Value.oneCell', Sl.v]
theorem Aq.oneL (x : Aq) : ∀ v ∈ x.cs, v.oneCell' = true := by simp [Aq.cs, Ky.cs, Value.oneCell', Sl.v]
theorem S90 : (Try.prog.info? 90).map (·.size) = some 11 := by kernel_rfl
theorem S57 : (Try.prog.info? 57).map (·.size) = some 3 := by kernel_rfl
theorem S54 : (Try.prog.info? 54).map (·.size) = some 31 := by kernel_rfl
theorem S27 : (Try.prog.info? 27).map (·.size) = some 11 := by kernel_rfl
theorem S88 : (Try.prog.info? 88).map (·.size) = some 4 := by kernel_rfl
theorem S126 : (Try.prog.info? 126).map (·.size) = some 7 := by kernel_rfl
theorem S34 : (Try.prog.info? 34).map (·.size) = some 2 := by kernel_rfl
theorem U90 : Try.prog.underlying 90 = some (.struct (Try.prog.fieldsOf 90)) := by kernel_rfl
theorem U57 : Try.prog.underlying 57 = some (.struct (Try.prog.fieldsOf 57)) := by kernel_rfl
theorem U54 : Try.prog.underlying 54 = some (.struct (Try.prog.fieldsOf 54)) := by kernel_rfl
theorem U27 : Try.prog.underlying 27 = some (.struct (Try.prog.fieldsOf 27)) := by kernel_rfl
theorem U88 : Try.prog.underlying 88 = some (.struct (Try.prog.fieldsOf 88)) := by kernel_rfl
theorem U34 : Try.prog.underlying 34 = some (.struct (Try.prog.fieldsOf 34)) := by kernel_rfl
theorem U86 : Try.prog.underlying 86 = some (.int .i64) := by kernel_rfl
theorem Z90 : (Try.prog.info? 90).bind (·.zero) = some (.agg rzZ.cells) := by kernel_rfl
theorem Z57 : (Try.prog.info? 57).bind (·.zero) = some (.agg blZ.cells) := by kernel_rfl
theorem Z34 : (Try.prog.info? 34).bind (·.zero) = some (.agg #[.nilIface, .pointer none]) := by kernel_rfl
theorem eqK_eql (a b : Ky) (w : World) : (binOp .eql 23 (.agg a.cells) (.agg b.cells)).run Try.prog w = .ok (.bool (eqK a b)) w := by
  rw [run_eql_struct, eq23 9998]; rfl
theorem eqS_eql (a b : Sp) (w : World) : (binOp .eql 41 (.agg a.cells) (.agg b.cells)).run Try.prog w = .ok (.bool (eqS a b)) w := by
  rw [run_eql_struct, eq25 9998]; rfl
theorem eqA_eql (a b : Ad) (w : World) : (binOp .eql 39 (.agg a.cells) (.agg b.cells)).run Try.prog w = .ok (.bool (eqA a b)) w := by
  rw [run_eql_struct, eq43 9998]; rfl
theorem eqC_eql (a b : Cm) (w : World) : (binOp .eql 45 (.agg a.cells) (.agg b.cells)).run Try.prog w = .ok (.bool (eqC a b)) w := by
  rw [run_eql_struct, eq47 9997]; rfl
theorem eqE_eql (a b : En) (w : World) : (binOp .eql 88 (.agg a.cells) (.agg b.cells)).run Try.prog w = .ok (.bool (eqE a b)) w := by
  rw [run_eql_struct, eq110 9997]; rfl
theorem b_eqlB (a b : Bool) (w : World) : (binOp .eql 4 (.bool a) (.bool b)).run Try.prog w = .ok (.bool (a == b)) w := by kernel_rfl
theorem b_gtr (x y : Int) (w : World) : (binOp .gtr 3 (.int .i64 x) (.int .i64 y)).run Try.prog w = .ok (.bool (decide (y < x))) w := by kernel_rfl
theorem b_eql111 (a b : Int) (w : World) : (binOp .eql 86 (.int .i64 a) (.int .i64 b)).run Try.prog w = .ok (.bool (a == b)) w := by kernel_rfl
def mgL (l : List Mg) : List Value := (l.map Mg.cs).flatten
theorem mgL_c (l : List Mg) : ∀ x ∈ l.map Mg.cs, x.length = 30 := by intro x hx; obtain ⟨s, _, rfl⟩ := List.mem_map.1 hx; rfl
theorem mgL_len (l : List Mg) : (mgL l).length = l.length * 30 := by rw [mgL, flat_len 30 _ (mgL_c l), List.length_map]
theorem mgL_app (a b : List Mg) : mgL (a ++ b) = mgL a ++ mgL b := by simp [mgL]
theorem mgL_1 (e : Mg) : mgL [e] = e.cs := by simp [mgL]
theorem rep_mg (n : Nat) : ((List.replicate n mgZ.cs).flatten) = mgL (List.replicate n mgZ) := by simp [mgL]
theorem make_mg (w : World) (n : Nat) (hb : n ≤ 100000000) : (Instr.makeSlice 71 (.int .i64 (n : Int)) (.int .i64 (n : Int))).run Try.prog w = .ok (.slice (some ⟨w.heap.size, 0, none⟩) n n) (w.alloc (.cells (mgL (List.replicate n mgZ)).toArray 52)) := by
  cases hq : Try.prog.info? 52 with
  | none => have := I52; simp [hq] at this
  | some i =>
    have h1 := I52
    simp only [hq, Option.map_some, Option.some.injEq, Prod.mk.injEq] at h1
    obtain ⟨hz, hs, hby⟩ := h1
    have h := run_make (P := Try.prog) w 71 52 i (.agg mgZ.cells) U71 hq hz .i64 .i64 (n : Int) (n : Int) (by omega) (by omega) (by rw [hby]; omega) (by omega)
    rw [h, hs, ← rep_mg]
    simp only [Int.toNat_natCast]
    rw [← made_row 30 mgZ.cs rfl (by omega) n]
    rfl
theorem mgL_set (l : List Mg) (i : Nat) (y : Mg) (h : i < l.length) : putL (mgL l) (i * 30) y.cs = mgL (l.set i y) := by
  unfold mgL
  rw [flat_set 30 _ (mgL_c l) i y.cs rfl (by rw [List.length_map]; exact h), List.map_set]
theorem st_M {w : World} {g : Nat} {cur : List Mg} {i : Nat} (y : Mg) (hb : Box w g 52 (mgL cur).toArray) (hi : i < cur.length) : (storeVar 52 ⟨g, 0 + i * 30, none⟩ (.agg (Mg.cells y))).run Try.prog w = .ok () (w.setRow g (mgL (cur.set i y)).toArray) := by
  have h := run_store_at (off := 0 + i * 30) (ty := 52) (vs := y.cs) (v := .agg y.cells) hb rfl S52 (by rw [mgL_len, Nat.zero_add]; show i * 30 + 30 ≤ cur.length * 30; omega) y.oneL
  rw [h, Nat.zero_add, mgL_set _ _ _ hi]
theorem row_M {w : World} {g : Nat} {xs : List Mg} (hb : Box w g 52 (mgL xs).toArray) {i : Nat} {x : Mg} (hx : xs[i]? = some x) : ∀ (j : Nat) v, x.cs[j]? = some v → w.cell? ⟨g, 0 + i * 30 + j, none⟩ = some v := by
  intro j v hv
  rw [hb.cell, Nat.zero_add, List.getElem?_toArray]
  exact flat_get 30 (xs.map Mg.cs) (mgL_c xs) i x.cs (by rw [List.getElem?_map, hx]; rfl) j v hv
theorem load_Ma {w : World} {b off i : Nat} {e : Mg} (hc : ∀ (j : Nat) v, e.cs[j]? = some v → w.cell? ⟨b, off + i * 30 + j, none⟩ = some v) : (loadVar 52 ⟨b, off + i * 30, none⟩).run Try.prog w = .ok (.agg e.cells) w := load_at hc U52 rfl S52
/-- A list of messages that can be read. -/
structure RdM (w : World) (s : Sl) (ms : List Mg) : Prop where
  row : RowsAt 30 w s.a (ms.map Mg.cs)
  len : ms.length = s.l
theorem RdM.kept {S : Nat → Prop} {w w' : World} {s : Sl} {ms : List Mg} (h : RdM w s ms) (hk : Kept S w w') (hS : ∀ k, At s.a k → ¬ S k) : RdM w' s ms := ⟨RowsAt.kept h.row hk hS, h.len⟩
theorem RdM.no {w w' : World} {s : Sl} {ms : List Mg} (h : RdM w s ms) (hk : Kept No w w') : RdM w' s ms := h.kept hk (fun _ _ e => e)
def gAt (es : List Mg) (i : Nat) : Mg := es[i]?.getD mgZ
theorem gAt_some {es : List Mg} {i : Nat} (h : i < es.length) : es[i]? = some (gAt es i) := by simp [gAt, List.getElem?_eq_getElem h]
theorem RdM.at {w : World} {s : Sl} {es : List Mg} (h : RdM w s es) {i : Nat} (hi : i < es.length) : ∃ b off, s.a = some ⟨b, off, none⟩ ∧ ∀ (j : Nat) v, (gAt es i).cs[j]? = some v → w.cell? ⟨b, off + i * 30 + j, none⟩ = some v :=
  h.row i _ (by rw [List.getElem?_map, gAt_some hi]; rfl)

end Go.Proofs.Ytgiokkcdgoloaaa.Md
namespace Go.Proofs.Ytgiokkcdgoloaaa.Md
open Go.RowKit
set_option linter.unusedVariables false
set_option linter.unusedSimpArgs false

set_option maxRecDepth 100000 in
set_option maxHeartbeats 4000000 in
theorem sameEn (sa ta : Option Addr) (n sk tk : Nat) (es : List En) (w : World) (hs : RdE w ⟨sa, n, sk⟩ es) (ht : RdE w ⟨ta, n, tk⟩ es) (hn : n ≤ 4000000000000) : Calls Try.prog 51 #[.slice sa n sk, .slice ta n tk] w (fun e w' => e = .returned (.bool true) ∧ Kept No w w') := by
  obtain ⟨C, hC⟩ : ∃ C : Ending → World → Prop, C = (fun e w' => e = .returned (.bool true) ∧ Kept No w w') := ⟨_, rfl⟩
  have HC : Hid (C = (fun e w' => e = .returned (.bool true) ∧ Kept No w w')) := hC
  rw [← hC]
  clear hC
  have HS : Hid (Es w sa es) := hs.row
  have HT : Hid (Es w ta es) := ht.row
  have hle : es.length = n := hs.len
  clear hs ht
  have HF : Hid (Fq No w w []) := Fq.start _ _
  go_enter Try.func51, Try.ntmps51
  go_upto_region 0 with fail
  refine WL.start <| uK (.bool false) <| WL.nil <| ?_
  try simp only [pS]
  go_upto_region 1 with fail
  refine WL.start <| uK (.slice sa n sk) <| uK (.int .i64 ((n : Nat) : Int)) <| uK (.slice ta n tk) <| uK (.int .i64 ((n : Nat) : Int)) <| uB .neq 3 (.int .i64 ((n : Nat) : Int)) (.int .i64 ((n : Nat) : Int)) (.bool false) (by rw [b_neq, beq_self_eq_true]; rfl) <| WL.nil <| ?_
  try simp only [pS]
  go_upto_region 3 with fail
  refine WL.start <| uK (.int .i64 0) <| WL.nil <| ?_
  try simp only [pS]
  go_wp2
  go_loopw [5] (fun v5 wr => ∃ i : Nat, v5 = .int .i64 ((i : Nat) : Int) ∧ i ≤ n ∧ Hid (Fq No w wr [])) (fun i _ => n - (intOf i).toNat)
  case atStart => exact ⟨0, by go_num, by omega, HF⟩
  case round =>
    clear HF
    obtain ⟨i, rfl, hi, HF⟩ := hrel
    by_cases hlt : i < n
    · skip
      obtain ⟨b, off, rfl, hc⟩ := Es.at HS.out (i := i) (by omega)
      obtain ⟨b', off', rfl, hc'⟩ := Es.at HT.out (i := i) (by omega)
      go_upto_region 4 with fail
      refine WL.start <| uK (.int .i64 ((i : Nat) : Int)) <| uK (.slice (some ⟨b, off, none⟩) n sk) <| uK (.int .i64 ((n : Nat) : Int)) <| uB .lss 3 (.int .i64 ((i : Nat) : Int)) (.int .i64 ((n : Nat) : Int)) (.bool true) (by rw [b_lss, decide_eq_true (by omega)]) <| WL.nil <| ?_
      try simp only [pS]
      go_upto_region 6 with fail
      refine wp_region_held_drew (S := fun w' => Fq No w w' []) rfl (HF.out.drew) (fun hH => ?_)
      have HF : Hid (Fq No w (wr.drew) []) := HF.out.drew
      generalize wr.drew = wk1 at HF hH ⊢
      refine xV 0 17 (.slice (some ⟨b, off, none⟩) n sk) hH <| xV 1 18 (.int .i64 ((i : Nat) : Int)) hH <| xU 2 19 (.pointer (some ⟨b, off + i * 4, none⟩)) (fun w' hw => exec_ixA 46 4 E46 F46 _ _ rfl b off n sk i (by kernel_rfl) (by kernel_rfl) (by omega)) hH <| xL 3 20 88 ⟨b, off + i * 4, none⟩ (.agg (En.cells (eAt es i))) (fun _ hw => load_E (fun j v h => hw.kept.cell (hc j v h) (fun e => e))) hH <| xV 4 21 (.slice (some ⟨b', off', none⟩) n tk) hH <| xV 5 22 (.int .i64 ((i : Nat) : Int)) hH <| ?_
      try simp only [pS]
      refine xU 6 23 (.pointer (some ⟨b', off' + i * 4, none⟩)) (fun w' hw => exec_ixA 46 4 E46 F46 _ _ rfl b' off' n tk i (by kernel_rfl) (by kernel_rfl) (by omega)) hH <| xL 7 24 88 ⟨b', off' + i * 4, none⟩ (.agg (En.cells (eAt es i))) (fun _ hw => load_E (fun j v h => hw.kept.cell (hc' j v h) (fun e => e))) hH <| xB 8 25 .neq 88 (.agg (En.cells (eAt es i))) (.agg (En.cells (eAt es i))) (.bool false) (fun _ _ => by rw [eqE_neq, eqE_refl]; rfl) hH <| ?_
      try simp only [pS]
      refine wpAnyH_done (by kernel_rfl) ?_ _
      try simp only [pS]
      clear hH
      go_upto_region 5 with fail
      refine WL.start <| uK (.int .i64 ((i : Nat) : Int)) <| uB .add 3 (.int .i64 ((i : Nat) : Int)) (.int .i64 1) (.int .i64 (((i + 1) : Nat) : Int)) (b_addw _ _ _ (by rw [IntKind.wrap_i64]; omega) _) <| uK (.int .i64 (((i + 1) : Nat) : Int)) <| WL.nil <| ?_
      try simp only [pS]
      go_wp2
      go_roundw
      case rel => exact ⟨i + 1, by go_num, by omega, HF⟩
      case measure => simp [intOf]; omega
    · skip
      go_upto_region 4 with fail
      refine WL.start <| uK (.int .i64 ((i : Nat) : Int)) <| uK (.slice sa n sk) <| uK (.int .i64 ((n : Nat) : Int)) <| uB .lss 3 (.int .i64 ((i : Nat) : Int)) (.int .i64 ((n : Nat) : Int)) (.bool false) (by rw [b_lss, decide_eq_false (by omega)]) <| WL.nil <| ?_
      try simp only [pS]
      go_upto_region 8 with fail
      refine WL.start <| uK (.bool true) <| WL.nil <| ?_
      try simp only [pS]
      go_wp2
      rw [HC.out]
      exact ⟨rfl, HF.out.kept⟩
set_option maxRecDepth 100000 in
set_option maxHeartbeats 4000000 in
theorem sameLa (sa ta : Option Addr) (n sk tk : Nat) (es : List La) (w : World) (hs : RdL w ⟨sa, n, sk⟩ es) (ht : RdL w ⟨ta, n, tk⟩ es) (hn : n ≤ 4000000000000) : Calls Try.prog 65 #[.slice sa n sk, .slice ta n tk] w (fun e w' => e = .returned (.bool true) ∧ Kept No w w') := by
  obtain ⟨C, hC⟩ : ∃ C : Ending → World → Prop, C = (fun e w' => e = .returned (.bool true) ∧ Kept No w w') := ⟨_, rfl⟩
  have HC : Hid (C = (fun e w' => e = .returned (.bool true) ∧ Kept No w w')) := hC
  rw [← hC]
  clear hC
  have HS : Hid (Ls w sa es) := hs.row
  have HT : Hid (Ls w ta es) := ht.row
  have hle : es.length = n := hs.len
  clear hs ht
  have HF : Hid (Fq No w w []) := Fq.start _ _
  go_enter Try.func65, Try.ntmps65
  go_upto_region 0 with fail
  refine WL.start <| uK (.bool false) <| WL.nil <| ?_
  try simp only [pS]
  go_upto_region 1 with fail
  refine WL.start <| uK (.slice sa n sk) <| uK (.int .i64 ((n : Nat) : Int)) <| uK (.slice ta n tk) <| uK (.int .i64 ((n : Nat) : Int)) <| uB .neq 3 (.int .i64 ((n : Nat) : Int)) (.int .i64 ((n : Nat) : Int)) (.bool false) (by rw [b_neq, beq_self_eq_true]; rfl) <| WL.nil <| ?_
  try simp only [pS]
  go_upto_region 3 with fail
  refine WL.start <| uK (.int .i64 0) <| WL.nil <| ?_
  try simp only [pS]
  go_wp2
  go_loopw [5] (fun v5 wr => ∃ i : Nat, v5 = .int .i64 ((i : Nat) : Int) ∧ i ≤ n ∧ Hid (Fq No w wr [])) (fun i _ => n - (intOf i).toNat)
  case atStart => exact ⟨0, by go_num, by omega, HF⟩
  case round =>
    clear HF
    obtain ⟨i, rfl, hi, HF⟩ := hrel
    by_cases hlt : i < n
    · skip
      obtain ⟨b, off, rfl, hc⟩ := Ls.at HS.out (i := i) (by omega)
      obtain ⟨b', off', rfl, hc'⟩ := Ls.at HT.out (i := i) (by omega)
      go_upto_region 4 with fail
      refine WL.start <| uK (.int .i64 ((i : Nat) : Int)) <| uK (.slice (some ⟨b, off, none⟩) n sk) <| uK (.int .i64 ((n : Nat) : Int)) <| uB .lss 3 (.int .i64 ((i : Nat) : Int)) (.int .i64 ((n : Nat) : Int)) (.bool true) (by rw [b_lss, decide_eq_true (by omega)]) <| WL.nil <| ?_
      try simp only [pS]
      go_upto_region 6 with fail
      refine wp_region_held_drew (S := fun w' => Fq No w w' []) rfl (HF.out.drew) (fun hH => ?_)
      have HF : Hid (Fq No w (wr.drew) []) := HF.out.drew
      generalize wr.drew = wk1 at HF hH ⊢
      refine xV 0 17 (.slice (some ⟨b, off, none⟩) n sk) hH <| xV 1 18 (.int .i64 ((i : Nat) : Int)) hH <| xU 2 19 (.pointer (some ⟨b, off + i * 7, none⟩)) (fun w' hw => exec_ixA 47 7 E47 F47 _ _ rfl b off n sk i (by kernel_rfl) (by kernel_rfl) (by omega)) hH <| xL 3 20 126 ⟨b, off + i * 7, none⟩ (.agg (La.cells (lAt es i))) (fun _ hw => load_L (fun j v h => hw.kept.cell (hc j v h) (fun e => e))) hH <| xV 4 21 (.slice (some ⟨b', off', none⟩) n tk) hH <| xV 5 22 (.int .i64 ((i : Nat) : Int)) hH <| ?_
      try simp only [pS]
      refine xU 6 23 (.pointer (some ⟨b', off' + i * 7, none⟩)) (fun w' hw => exec_ixA 47 7 E47 F47 _ _ rfl b' off' n tk i (by kernel_rfl) (by kernel_rfl) (by omega)) hH <| xL 7 24 126 ⟨b', off' + i * 7, none⟩ (.agg (La.cells (lAt es i))) (fun _ hw => load_L (fun j v h => hw.kept.cell (hc' j v h) (fun e => e))) hH <| xB 8 25 .neq 126 (.agg (La.cells (lAt es i))) (.agg (La.cells (lAt es i))) (.bool false) (fun _ _ => by rw [eqL_neq, eqL_refl]; rfl) hH <| ?_
      try simp only [pS]
      refine wpAnyH_done (by kernel_rfl) ?_ _
      try simp only [pS]
      clear hH
      go_upto_region 5 with fail
      refine WL.start <| uK (.int .i64 ((i : Nat) : Int)) <| uB .add 3 (.int .i64 ((i : Nat) : Int)) (.int .i64 1) (.int .i64 (((i + 1) : Nat) : Int)) (b_addw _ _ _ (by rw [IntKind.wrap_i64]; omega) _) <| uK (.int .i64 (((i + 1) : Nat) : Int)) <| WL.nil <| ?_
      try simp only [pS]
      go_wp2
      go_roundw
      case rel => exact ⟨i + 1, by go_num, by omega, HF⟩
      case measure => simp [intOf]; omega
    · skip
      go_upto_region 4 with fail
      refine WL.start <| uK (.int .i64 ((i : Nat) : Int)) <| uK (.slice sa n sk) <| uK (.int .i64 ((n : Nat) : Int)) <| uB .lss 3 (.int .i64 ((i : Nat) : Int)) (.int .i64 ((n : Nat) : Int)) (.bool false) (by rw [b_lss, decide_eq_false (by omega)]) <| WL.nil <| ?_
      try simp only [pS]
      go_upto_region 8 with fail
      refine WL.start <| uK (.bool true) <| WL.nil <| ?_
      try simp only [pS]
      go_wp2
      rw [HC.out]
      exact ⟨rfl, HF.out.kept⟩
set_option maxRecDepth 100000 in
set_option maxHeartbeats 4000000 in
theorem sameCm (sa ta : Option Addr) (n sk tk : Nat) (es : List Cm) (w : World) (hs : RdC w ⟨sa, n, sk⟩ es) (ht : RdC w ⟨ta, n, tk⟩ es) (hn : n ≤ 4000000000000) : Calls Try.prog 64 #[.slice sa n sk, .slice ta n tk] w (fun e w' => e = .returned (.bool true) ∧ Kept No w w') := by
  obtain ⟨C, hC⟩ : ∃ C : Ending → World → Prop, C = (fun e w' => e = .returned (.bool true) ∧ Kept No w w') := ⟨_, rfl⟩
  have HC : Hid (C = (fun e w' => e = .returned (.bool true) ∧ Kept No w w')) := hC
  rw [← hC]
  clear hC
  have HS : Hid (Cs w sa es) := hs.row
  have HT : Hid (Cs w ta es) := ht.row
  have hle : es.length = n := hs.len
  clear hs ht
  have HF : Hid (Fq No w w []) := Fq.start _ _
  go_enter Try.func64, Try.ntmps64
  go_upto_region 0 with fail
  refine WL.start <| uK (.bool false) <| WL.nil <| ?_
  try simp only [pS]
  go_upto_region 1 with fail
  refine WL.start <| uK (.slice sa n sk) <| uK (.int .i64 ((n : Nat) : Int)) <| uK (.slice ta n tk) <| uK (.int .i64 ((n : Nat) : Int)) <| uB .neq 3 (.int .i64 ((n : Nat) : Int)) (.int .i64 ((n : Nat) : Int)) (.bool false) (by rw [b_neq, beq_self_eq_true]; rfl) <| WL.nil <| ?_
  try simp only [pS]
  go_upto_region 3 with fail
  refine WL.start <| uK (.int .i64 0) <| WL.nil <| ?_
  try simp only [pS]
  go_wp2
  go_loopw [5] (fun v5 wr => ∃ i : Nat, v5 = .int .i64 ((i : Nat) : Int) ∧ i ≤ n ∧ Hid (Fq No w wr [])) (fun i _ => n - (intOf i).toNat)
  case atStart => exact ⟨0, by go_num, by omega, HF⟩
  case round =>
    clear HF
    obtain ⟨i, rfl, hi, HF⟩ := hrel
    by_cases hlt : i < n
    · skip
      obtain ⟨b, off, rfl, hc⟩ := Cs.at HS.out (i := i) (by omega)
      obtain ⟨b', off', rfl, hc'⟩ := Cs.at HT.out (i := i) (by omega)
      go_upto_region 4 with fail
      refine WL.start <| uK (.int .i64 ((i : Nat) : Int)) <| uK (.slice (some ⟨b, off, none⟩) n sk) <| uK (.int .i64 ((n : Nat) : Int)) <| uB .lss 3 (.int .i64 ((i : Nat) : Int)) (.int .i64 ((n : Nat) : Int)) (.bool true) (by rw [b_lss, decide_eq_true (by omega)]) <| WL.nil <| ?_
      try simp only [pS]
      go_upto_region 6 with fail
      refine wp_region_held_drew (S := fun w' => Fq No w w' []) rfl (HF.out.drew) (fun hH => ?_)
      have HF : Hid (Fq No w (wr.drew) []) := HF.out.drew
      generalize wr.drew = wk1 at HF hH ⊢
      refine xV 0 17 (.slice (some ⟨b, off, none⟩) n sk) hH <| xV 1 18 (.int .i64 ((i : Nat) : Int)) hH <| xU 2 19 (.pointer (some ⟨b, off + i * 9, none⟩)) (fun w' hw => exec_ixA 50 9 E50 F50 _ _ rfl b off n sk i (by kernel_rfl) (by kernel_rfl) (by omega)) hH <| xL 3 20 45 ⟨b, off + i * 9, none⟩ (.agg (Cm.cells (cAt es i))) (fun _ hw => load_Ca (fun j v h => hw.kept.cell (hc j v h) (fun e => e))) hH <| xV 4 21 (.slice (some ⟨b', off', none⟩) n tk) hH <| xV 5 22 (.int .i64 ((i : Nat) : Int)) hH <| ?_
      try simp only [pS]
      refine xU 6 23 (.pointer (some ⟨b', off' + i * 9, none⟩)) (fun w' hw => exec_ixA 50 9 E50 F50 _ _ rfl b' off' n tk i (by kernel_rfl) (by kernel_rfl) (by omega)) hH <| xL 7 24 45 ⟨b', off' + i * 9, none⟩ (.agg (Cm.cells (cAt es i))) (fun _ hw => load_Ca (fun j v h => hw.kept.cell (hc' j v h) (fun e => e))) hH <| xB 8 25 .neq 45 (.agg (Cm.cells (cAt es i))) (.agg (Cm.cells (cAt es i))) (.bool false) (fun _ _ => by rw [eqC_neq, eqC_refl]; rfl) hH <| ?_
      try simp only [pS]
      refine wpAnyH_done (by kernel_rfl) ?_ _
      try simp only [pS]
      clear hH
      go_upto_region 5 with fail
      refine WL.start <| uK (.int .i64 ((i : Nat) : Int)) <| uB .add 3 (.int .i64 ((i : Nat) : Int)) (.int .i64 1) (.int .i64 (((i + 1) : Nat) : Int)) (b_addw _ _ _ (by rw [IntKind.wrap_i64]; omega) _) <| uK (.int .i64 (((i + 1) : Nat) : Int)) <| WL.nil <| ?_
      try simp only [pS]
      go_wp2
      go_roundw
      case rel => exact ⟨i + 1, by go_num, by omega, HF⟩
      case measure => simp [intOf]; omega
    · skip
      go_upto_region 4 with fail
      refine WL.start <| uK (.int .i64 ((i : Nat) : Int)) <| uK (.slice sa n sk) <| uK (.int .i64 ((n : Nat) : Int)) <| uB .lss 3 (.int .i64 ((i : Nat) : Int)) (.int .i64 ((n : Nat) : Int)) (.bool false) (by rw [b_lss, decide_eq_false (by omega)]) <| WL.nil <| ?_
      try simp only [pS]
      go_upto_region 8 with fail
      refine WL.start <| uK (.bool true) <| WL.nil <| ?_
      try simp only [pS]
      go_wp2
      rw [HC.out]
      exact ⟨rfl, HF.out.kept⟩
set_option maxRecDepth 100000 in
set_option maxHeartbeats 4000000 in
theorem sameBk (up : Int) (ea ta la ua : Option Addr) (n m ek tk lk uk : Nat) (es : List En) (ls : List La) (w : World) (h1 : RdE w ⟨ea, n, ek⟩ es) (h2 : RdE w ⟨ta, n, tk⟩ es) (h3 : RdL w ⟨la, m, lk⟩ ls) (h4 : RdL w ⟨ua, m, uk⟩ ls) (hn : n ≤ 4000000000000) (hm : m ≤ 4000000000000) : Calls Try.prog 63 #[.agg (Bv.cells ⟨up, ⟨ea, n, ek⟩, ⟨la, m, lk⟩⟩), .agg (Bv.cells ⟨up, ⟨ta, n, tk⟩, ⟨ua, m, uk⟩⟩)] w (fun e w' => e = .returned (.bool true) ∧ Kept No w w') := by
  obtain ⟨C, hC⟩ : ∃ C : Ending → World → Prop, C = (fun e w' => e = .returned (.bool true) ∧ Kept No w w') := ⟨_, rfl⟩
  have HC : Hid (C = (fun e w' => e = .returned (.bool true) ∧ Kept No w w')) := hC
  rw [← hC]
  clear hC
  have H1 : Hid (RdE w ⟨ea, n, ek⟩ es) := h1
  have H2 : Hid (RdE w ⟨ta, n, tk⟩ es) := h2
  have H3 : Hid (RdL w ⟨la, m, lk⟩ ls) := h3
  have H4 : Hid (RdL w ⟨ua, m, uk⟩ ls) := h4
  clear h1 h2 h3 h4
  have HF : Hid (Fq No w w []) := Fq.start _ _
  go_enter Try.func63, Try.ntmps63
  go_upto_region 0 with fail
  refine WL.start ?_
  refine uR (.pointer (some ⟨w.heap.size, 0, none⟩)) (w.alloc (.cells (Bv.cells ⟨up, ⟨ea, n, ek⟩, ⟨la, m, lk⟩⟩) 49)) (exec_box 49 _ rfl (Bv.cells ⟨up, ⟨ea, n, ek⟩, ⟨la, m, lk⟩⟩) (by kernel_rfl)) ?_
  try simp only [pS]
  have HF : Hid (Fq No w (w.alloc (.cells (Bv.cells ⟨up, ⟨ea, n, ek⟩, ⟨la, m, lk⟩⟩) 49)) [(w.heap.size, 49, Bv.cells ⟨up, ⟨ea, n, ek⟩, ⟨la, m, lk⟩⟩)]) := HF.out.alloc _ _
  generalize w.alloc (.cells (Bv.cells ⟨up, ⟨ea, n, ek⟩, ⟨la, m, lk⟩⟩) 49) = wk2 at HF ⊢
  generalize w.heap.size = gk1 at HF ⊢
  refine uR (.pointer (some ⟨wk2.heap.size, 0, none⟩)) (wk2.alloc (.cells (Bv.cells ⟨up, ⟨ta, n, tk⟩, ⟨ua, m, uk⟩⟩) 49)) (exec_box 49 _ rfl (Bv.cells ⟨up, ⟨ta, n, tk⟩, ⟨ua, m, uk⟩⟩) (by kernel_rfl)) ?_
  try simp only [pS]
  have HF : Hid (Fq No w (wk2.alloc (.cells (Bv.cells ⟨up, ⟨ta, n, tk⟩, ⟨ua, m, uk⟩⟩) 49)) [(gk1, 49, Bv.cells ⟨up, ⟨ea, n, ek⟩, ⟨la, m, lk⟩⟩), (wk2.heap.size, 49, Bv.cells ⟨up, ⟨ta, n, tk⟩, ⟨ua, m, uk⟩⟩)]) := HF.out.alloc _ _
  generalize wk2.alloc (.cells (Bv.cells ⟨up, ⟨ta, n, tk⟩, ⟨ua, m, uk⟩⟩) 49) = wk4 at HF ⊢
  generalize wk2.heap.size = gk3 at HF ⊢
  refine uK (.bool false) <| WL.nil <| ?_
  try simp only [pS]
  go_upto_region 1 with fail
  refine WL.start <| uK (.pointer (some ⟨gk1, 0, none⟩)) <| uL 3 ⟨gk1, 0, none⟩ (.int .i64 up) (load_one ((HF.out.box 0 _ _ _ rfl).cell 0 |>.trans (by kernel_rfl)) U3 rfl) <| uK (.pointer (some ⟨gk3, 0, none⟩)) <| uL 3 ⟨gk3, 0, none⟩ (.int .i64 up) (load_one ((HF.out.box 1 _ _ _ rfl).cell 0 |>.trans (by kernel_rfl)) U3 rfl) <| uB .eql 3 (.int .i64 up) (.int .i64 up) (.bool true) (by rw [b_eql, beq_self_eq_true]) <| uK (.bool true) <| uK (.pointer (some ⟨gk1, 1, none⟩)) <| ?_
  try simp only [pS]
  refine uL 46 ⟨gk1, 1, none⟩ (.slice ea n ek) (load_one ((HF.out.box 0 _ _ _ rfl).cell 1 |>.trans (by kernel_rfl)) U46 rfl) <| uK (.pointer (some ⟨gk3, 1, none⟩)) <| uL 46 ⟨gk3, 1, none⟩ (.slice ta n tk) (load_one ((HF.out.box 1 _ _ _ rfl).cell 1 |>.trans (by kernel_rfl)) U46 rfl) <| ?_
  try simp only [pS]
  refine uC 51 #[.slice ea n ek, .slice ta n tk] (sameEn ea ta n ek tk es wk4 (H1.out.no HF.out.kept) (H2.out.no HF.out.kept) hn) ?_
  rintro e wk5 ⟨rfl, hk⟩
  have HF : Hid (Fq No w (wk5) [(gk1, 49, Bv.cells ⟨up, ⟨ea, n, ek⟩, ⟨la, m, lk⟩⟩), (gk3, 49, Bv.cells ⟨up, ⟨ta, n, tk⟩, ⟨ua, m, uk⟩⟩)]) := HF.out.no hk
  clear hk
  refine ⟨.bool true, rfl, ?_⟩
  try simp only [pS]
  refine uK (.bool true) <| uK (.bool true) <| uK (.pointer (some ⟨gk1, 2, none⟩)) <| uL 47 ⟨gk1, 2, none⟩ (.slice la m lk) (load_one ((HF.out.box 0 _ _ _ rfl).cell 2 |>.trans (by kernel_rfl)) U47 rfl) <| uK (.pointer (some ⟨gk3, 2, none⟩)) <| uL 47 ⟨gk3, 2, none⟩ (.slice ua m uk) (load_one ((HF.out.box 1 _ _ _ rfl).cell 2 |>.trans (by kernel_rfl)) U47 rfl) <| ?_
  try simp only [pS]
  refine uC 65 #[.slice la m lk, .slice ua m uk] (sameLa la ua m lk uk ls wk5 (H3.out.no HF.out.kept) (H4.out.no HF.out.kept) hm) ?_
  rintro e wk6 ⟨rfl, hk⟩
  have HF : Hid (Fq No w (wk6) [(gk1, 49, Bv.cells ⟨up, ⟨ea, n, ek⟩, ⟨la, m, lk⟩⟩), (gk3, 49, Bv.cells ⟨up, ⟨ta, n, tk⟩, ⟨ua, m, uk⟩⟩)]) := HF.out.no hk
  clear hk
  refine ⟨.bool true, rfl, ?_⟩
  try simp only [pS]
  refine uK (.bool true) <| uK (.bool true) <| WL.nil <| ?_
  try simp only [pS]
  go_wp2
  rw [HC.out]
  exact ⟨rfl, HF.out.kept⟩
set_option maxRecDepth 100000 in
set_option maxHeartbeats 4000000 in
theorem sameRz (er : Int) (en : En) (n ins : Int) (s : Sp) (la lb da db : Option Addr) (ll lk lj dl dk dj : Nat) (es : List En) (zs : List Int) (w : World) (h1 : RdE w ⟨la, ll, lk⟩ es) (h2 : RdE w ⟨lb, ll, lj⟩ es) (h3 : Nums .u8 w da zs) (h4 : Nums .u8 w db zs) (hz : zs.length = dl) (hn : ll ≤ 4000000000000) (hm : dl ≤ 281474976710656) : Calls Try.prog 30 #[.agg (Rz.cells ⟨er, en, ⟨la, ll, lk⟩, ⟨da, dl, dk⟩, n, s, ins⟩), .agg (Rz.cells ⟨er, en, ⟨lb, ll, lj⟩, ⟨db, dl, dj⟩, n, s, ins⟩)] w (fun e w' => e = .returned (.bool true) ∧ Kept No w w') := by
  obtain ⟨C, hC⟩ : ∃ C : Ending → World → Prop, C = (fun e w' => e = .returned (.bool true) ∧ Kept No w w') := ⟨_, rfl⟩
  have HC : Hid (C = (fun e w' => e = .returned (.bool true) ∧ Kept No w w')) := hC
  rw [← hC]
  clear hC
  have H1 : Hid (RdE w ⟨la, ll, lk⟩ es) := h1
  have H2 : Hid (RdE w ⟨lb, ll, lj⟩ es) := h2
  have H3 : Hid (Nums .u8 w da zs) := h3
  have H4 : Hid (Nums .u8 w db zs) := h4
  clear h1 h2 h3 h4
  have HF : Hid (Fq No w w []) := Fq.start _ _
  go_enter Try.func30, Try.ntmps30
  go_upto_region 0 with fail
  refine WL.start ?_
  refine uR (.pointer (some ⟨w.heap.size, 0, none⟩)) (w.alloc (.cells (Rz.cells ⟨er, en, ⟨la, ll, lk⟩, ⟨da, dl, dk⟩, n, s, ins⟩) 90)) (exec_box 90 _ rfl (Rz.cells ⟨er, en, ⟨la, ll, lk⟩, ⟨da, dl, dk⟩, n, s, ins⟩) (by kernel_rfl)) ?_
  try simp only [pS]
  have HF : Hid (Fq No w (w.alloc (.cells (Rz.cells ⟨er, en, ⟨la, ll, lk⟩, ⟨da, dl, dk⟩, n, s, ins⟩) 90)) [(w.heap.size, 90, Rz.cells ⟨er, en, ⟨la, ll, lk⟩, ⟨da, dl, dk⟩, n, s, ins⟩)]) := HF.out.alloc _ _
  generalize w.alloc (.cells (Rz.cells ⟨er, en, ⟨la, ll, lk⟩, ⟨da, dl, dk⟩, n, s, ins⟩) 90) = wk2 at HF ⊢
  generalize w.heap.size = gk1 at HF ⊢
  refine uR (.pointer (some ⟨wk2.heap.size, 0, none⟩)) (wk2.alloc (.cells (Rz.cells ⟨er, en, ⟨lb, ll, lj⟩, ⟨db, dl, dj⟩, n, s, ins⟩) 90)) (exec_box 90 _ rfl (Rz.cells ⟨er, en, ⟨lb, ll, lj⟩, ⟨db, dl, dj⟩, n, s, ins⟩) (by kernel_rfl)) ?_
  try simp only [pS]
  have HF : Hid (Fq No w (wk2.alloc (.cells (Rz.cells ⟨er, en, ⟨lb, ll, lj⟩, ⟨db, dl, dj⟩, n, s, ins⟩) 90)) [(gk1, 90, Rz.cells ⟨er, en, ⟨la, ll, lk⟩, ⟨da, dl, dk⟩, n, s, ins⟩), (wk2.heap.size, 90, Rz.cells ⟨er, en, ⟨lb, ll, lj⟩, ⟨db, dl, dj⟩, n, s, ins⟩)]) := HF.out.alloc _ _
  generalize wk2.alloc (.cells (Rz.cells ⟨er, en, ⟨lb, ll, lj⟩, ⟨db, dl, dj⟩, n, s, ins⟩) 90) = wk4 at HF ⊢
  generalize wk2.heap.size = gk3 at HF ⊢
  refine uK (.bool false) <| WL.nil <| ?_
  try simp only [pS]
  go_upto_region 1 with fail
  refine WL.start <| uK (.pointer (some ⟨gk1, 0, none⟩)) <| uL 86 ⟨gk1, 0, none⟩ (.int .i64 er) (load_one ((HF.out.box 0 _ _ _ rfl).cell 0 |>.trans (by kernel_rfl)) U86 rfl) <| uK (.pointer (some ⟨gk3, 0, none⟩)) <| uL 86 ⟨gk3, 0, none⟩ (.int .i64 er) (load_one ((HF.out.box 1 _ _ _ rfl).cell 0 |>.trans (by kernel_rfl)) U86 rfl) <| uB .eql 86 (.int .i64 er) (.int .i64 er) (.bool true) (by rw [b_eql111, beq_self_eq_true]) <| uK (.bool true) <| uK (.pointer (some ⟨gk1, 1, none⟩)) <| ?_
  try simp only [pS]
  refine uL 88 ⟨gk1, 1, none⟩ (.agg (En.cells en)) (run_load_part (cs := Rz.cs ⟨er, en, ⟨la, ll, lk⟩, ⟨da, dl, dk⟩, n, s, ins⟩) (sub := En.cs en) (HF.out.box 0 _ _ _ rfl) (part_of (by kernel_rfl)) U88 rfl S88) <| uK (.pointer (some ⟨gk3, 1, none⟩)) <| uL 88 ⟨gk3, 1, none⟩ (.agg (En.cells en)) (run_load_part (cs := Rz.cs ⟨er, en, ⟨lb, ll, lj⟩, ⟨db, dl, dj⟩, n, s, ins⟩) (sub := En.cs en) (HF.out.box 1 _ _ _ rfl) (part_of (by kernel_rfl)) U88 rfl S88) <| uB .eql 88 (.agg (En.cells en)) (.agg (En.cells en)) (.bool true) (by rw [eqE_eql, eqE_refl]) <| uK (.bool true) <| uK (.bool true) <| uK (.pointer (some ⟨gk1, 5, none⟩)) <| uL 46 ⟨gk1, 5, none⟩ (.slice la ll lk) (load_one ((HF.out.box 0 _ _ _ rfl).cell 5 |>.trans (by kernel_rfl)) U46 rfl) <| ?_
  try simp only [pS]
  refine uK (.pointer (some ⟨gk3, 5, none⟩)) <| uL 46 ⟨gk3, 5, none⟩ (.slice lb ll lj) (load_one ((HF.out.box 1 _ _ _ rfl).cell 5 |>.trans (by kernel_rfl)) U46 rfl) <| ?_
  try simp only [pS]
  refine uC 51 #[.slice la ll lk, .slice lb ll lj] (sameEn la lb ll lk lj es wk4 (H1.out.no HF.out.kept) (H2.out.no HF.out.kept) hn) ?_
  rintro e wk5 ⟨rfl, hk⟩
  have HF : Hid (Fq No w (wk5) [(gk1, 90, Rz.cells ⟨er, en, ⟨la, ll, lk⟩, ⟨da, dl, dk⟩, n, s, ins⟩), (gk3, 90, Rz.cells ⟨er, en, ⟨lb, ll, lj⟩, ⟨db, dl, dj⟩, n, s, ins⟩)]) := HF.out.no hk
  clear hk
  refine ⟨.bool true, rfl, ?_⟩
  try simp only [pS]
  refine uK (.bool true) <| uK (.bool true) <| uK (.pointer (some ⟨gk1, 6, none⟩)) <| uL 25 ⟨gk1, 6, none⟩ (.slice da dl dk) (load_one ((HF.out.box 0 _ _ _ rfl).cell 6 |>.trans (by kernel_rfl)) U25 rfl) <| uK (.pointer (some ⟨gk3, 6, none⟩)) <| uL 25 ⟨gk3, 6, none⟩ (.slice db dl dj) (load_one ((HF.out.box 1 _ _ _ rfl).cell 6 |>.trans (by kernel_rfl)) U25 rfl) <| ?_
  try simp only [pS]
  refine uC 17 #[.slice da dl dk, .slice db dl dj] (same_l da db dk dj dl zs wk5 hz hm (Nums.kept H3.out HF.out.kept (fun _ _ _ e => e)) (Nums.kept H4.out HF.out.kept (fun _ _ _ e => e))) ?_
  rintro e wk6 ⟨rfl, hk⟩
  have HF : Hid (Fq No w (wk6) [(gk1, 90, Rz.cells ⟨er, en, ⟨la, ll, lk⟩, ⟨da, dl, dk⟩, n, s, ins⟩), (gk3, 90, Rz.cells ⟨er, en, ⟨lb, ll, lj⟩, ⟨db, dl, dj⟩, n, s, ins⟩)]) := HF.out.no hk
  clear hk
  refine ⟨.bool true, rfl, ?_⟩
  try simp only [pS]
  refine uK (.bool true) <| uK (.bool true) <| uK (.pointer (some ⟨gk1, 7, none⟩)) <| uL 3 ⟨gk1, 7, none⟩ (.int .i64 n) (load_one ((HF.out.box 0 _ _ _ rfl).cell 7 |>.trans (by kernel_rfl)) U3 rfl) <| uK (.pointer (some ⟨gk3, 7, none⟩)) <| uL 3 ⟨gk3, 7, none⟩ (.int .i64 n) (load_one ((HF.out.box 1 _ _ _ rfl).cell 7 |>.trans (by kernel_rfl)) U3 rfl) <| uB .eql 3 (.int .i64 n) (.int .i64 n) (.bool true) (by rw [b_eql, beq_self_eq_true]) <| uK (.bool true) <| ?_
  try simp only [pS]
  refine uK (.bool true) <| uK (.pointer (some ⟨gk1, 8, none⟩)) <| uL 41 ⟨gk1, 8, none⟩ (.agg (Sp.cells s)) (run_load_part (cs := Rz.cs ⟨er, en, ⟨la, ll, lk⟩, ⟨da, dl, dk⟩, n, s, ins⟩) (sub := Sp.cs s) (HF.out.box 0 _ _ _ rfl) (part_of (by kernel_rfl)) U41 rfl S41) <| uK (.pointer (some ⟨gk3, 8, none⟩)) <| uL 41 ⟨gk3, 8, none⟩ (.agg (Sp.cells s)) (run_load_part (cs := Rz.cs ⟨er, en, ⟨lb, ll, lj⟩, ⟨db, dl, dj⟩, n, s, ins⟩) (sub := Sp.cs s) (HF.out.box 1 _ _ _ rfl) (part_of (by kernel_rfl)) U41 rfl S41) <| uB .eql 41 (.agg (Sp.cells s)) (.agg (Sp.cells s)) (.bool true) (by rw [eqS_eql, eqS_refl]) <| uK (.bool true) <| uK (.bool true) <| ?_
  try simp only [pS]
  refine uK (.pointer (some ⟨gk1, 10, none⟩)) <| uL 3 ⟨gk1, 10, none⟩ (.int .i64 ins) (load_one ((HF.out.box 0 _ _ _ rfl).cell 10 |>.trans (by kernel_rfl)) U3 rfl) <| uK (.pointer (some ⟨gk3, 10, none⟩)) <| uL 3 ⟨gk3, 10, none⟩ (.int .i64 ins) (load_one ((HF.out.box 1 _ _ _ rfl).cell 10 |>.trans (by kernel_rfl)) U3 rfl) <| uB .eql 3 (.int .i64 ins) (.int .i64 ins) (.bool true) (by rw [b_eql, beq_self_eq_true]) <| uK (.bool true) <| uK (.bool true) <| WL.nil <| ?_
  try simp only [pS]
  go_wp2
  rw [HC.out]
  exact ⟨rfl, HF.out.kept⟩

end Go.Proofs.Ytgiokkcdgoloaaa.Md
