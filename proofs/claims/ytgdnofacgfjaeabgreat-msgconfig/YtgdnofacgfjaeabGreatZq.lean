import Derived.Test.YtgdnofacgfjaeabGreatZp
namespace Go.Proofs.YtgdnofacgfjaeabGreat
open Go.RowKit
set_option linter.unusedVariables false

/-- The zero block, instance, bucket. -/
def zB : Array Value := #[.int .i64 0, .int .i64 0, .slice none 0 0]
def zI : Array Value := #[.int .i64 0, .int .i64 0, .int .i64 0, .int .i64 0, .int .i64 0, .int .i64 0, .int .i64 0, .string ByteArray.empty, .int .i64 0, .int .i64 0, .int .i64 0, .int .i64 0, .int .i64 0, .bool false]
def zK : Array Value := #[.int .i64 0, .slice none 0 0, .slice none 0 0]
theorem zB_one : zB.all (·.oneCell') = true := by simp [zB, Value.oneCell']
theorem zI_one : zI.all (·.oneCell') = true := by simp [zI, Value.oneCell']
theorem zK_one : zK.all (·.oneCell') = true := by simp [zK, Value.oneCell']
theorem results_row_tmp {fn : Func} {p u : Tmp} {t : TypeId} (h : fn.results = #[.cell p t, .tmp u]) (tmps : Array Value) (w : World) (g : Nat) (cs : Array Value) (hp : tmps.getD p undef = .pointer (some ⟨g, 0, none⟩)) (hrun : (loadVar t ⟨g, 0, none⟩).run Tryz.prog w = .ok (.agg cs) w) :
    (results fn tmps).run Tryz.prog w = .ok (.tuple #[.agg cs, tmps.getD u undef]) w := by
  rw [results_cell_tmp h, hp]
  simp [asAddr, hrun, Result.andThen]
theorem load71_run {w : World} {g : Nat} {cs : Array Value} (hb : Box w g 71 cs) (hl : cs.size = 30) : (loadVar 71 ⟨g, 0, none⟩).run Tryz.prog w = .ok (.agg cs) w :=
  run_loadVar_row w g 71 71 cs (0, 0) _ hb Tryz.underlying71 rfl (by rw [hl]; exact Tryz.size71)
theorem Tryz.info37z : (Tryz.prog.info? 37).bind (·.zero) = some (.agg zB) := by kernel_rfl
theorem load37_run {w : World} {g : Nat} {cs : Array Value} (hb : Box w g 37 cs) (hl : cs.size = 3) : (loadVar 37 ⟨g, 0, none⟩).run Tryz.prog w = .ok (.agg cs) w :=
  run_loadVar_row w g 37 37 cs (0, 0) _ hb Tryz.underlying37 rfl (by rw [hl]; exact Tryz.size37)
theorem Tryz.info47z : (Tryz.prog.info? 47).bind (·.zero) = some (.agg zI) := by kernel_rfl
theorem load47_run {w : World} {g : Nat} {cs : Array Value} (hb : Box w g 47 cs) (hl : cs.size = 14) : (loadVar 47 ⟨g, 0, none⟩).run Tryz.prog w = .ok (.agg cs) w :=
  run_loadVar_row w g 47 47 cs (0, 0) _ hb Tryz.underlying47 rfl (by rw [hl]; exact Tryz.size47)
theorem Tryz.info54z : (Tryz.prog.info? 54).bind (·.zero) = some (.agg zK) := by kernel_rfl
theorem load54_run {w : World} {g : Nat} {cs : Array Value} (hb : Box w g 54 cs) (hl : cs.size = 3) : (loadVar 54 ⟨g, 0, none⟩).run Tryz.prog w = .ok (.agg cs) w :=
  run_loadVar_row w g 54 54 cs (0, 0) _ hb Tryz.underlying54 rfl (by rw [hl]; exact Tryz.size54)

set_option maxRecDepth 100000 in
set_option maxHeartbeats 4000000 in
theorem unpackMsg_no (ba : Option Addr) (bn bc : Nat) (rv fv : Value) (r : Int) (sa : Option Addr) (sn sc : Nat) (zs : List Int) (f p bu bl ro : Int) (w : World) (h : Cfg w sa sn sc zs) (hno : cfgB zs f p bu bl ro = false) :
    Calls Tryz.prog 57 #[.slice ba bn bc, cfgV (.slice sa sn sc) f p bu bl ro, rv, fv, .int .i64 r] w fun e w' => e = .returned (.tuple #[.agg mZ.cells, .int .i64 20]) ∧ Kept No w w' := by
  have HC : Hid (Cfg w sa sn sc zs) := h
  have HN : Hid (cfgB zs f p bu bl ro = false) := hno
  clear h hno
  have TA : Hid (1 = 1) := rfl
  have TB : Hid (1 = 1) := rfl
  go_enter Tryz.func57, Tryz.ntmps57
  go_upto_region 2 with (first
    | (have hguard := TA; clear hguard; refine wp_allocT rfl 71 rfl mZ.cells Tryz.info71z (w.heap.size + 1) (by simp) ?_; clear TA)
    | (have hguard := TB; clear hguard; refine wp_allocT rfl 71 rfl mZ.cells Tryz.info71z (w.heap.size + 1 + 1) (by simp) ?_; clear TB))
  obtain ⟨w3, hw3⟩ : ∃ w3, w3 = ((w.alloc (.cells #[.slice sa sn sc, .int .i64 f, .int .i64 p, .int .i64 bu, .int .i64 bl, .int .i64 ro] 24)).alloc (.cells mZ.cells 71)).alloc (.cells mZ.cells 71) := ⟨_, rfl⟩
  rw [← hw3]
  have HK3 : Hid (Kept No w w3) := by rw [hw3]; exact (((Kept.refl No w).alloc _).alloc _).alloc _
  have HC3 : Hid (Box w3 w.heap.size 24 #[.slice sa sn sc, .int .i64 f, .int .i64 p, .int .i64 bu, .int .i64 bl, .int .i64 ro]) := by rw [hw3]; exact ((Box.new w 24 _).alloc _).alloc _
  have HA3 : Hid (Box w3 (w.heap.size + 1) 71 mZ.cells) := by
    show Box _ _ _ _
    rw [hw3]
    have := (Box.new (w.alloc (.cells #[.slice sa sn sc, .int .i64 f, .int .i64 p, .int .i64 bu, .int .i64 bl, .int .i64 ro] 24)) 71 mZ.cells).alloc (.cells mZ.cells 71)
    simpa using this
  have HZ3 : Hid (Box w3 (w.heap.size + 1 + 1) 71 mZ.cells) := by
    show Box _ _ _ _
    rw [hw3]
    have := Box.new ((w.alloc (.cells #[.slice sa sn sc, .int .i64 f, .int .i64 p, .int .i64 bu, .int .i64 bl, .int .i64 ro] 24)).alloc (.cells mZ.cells 71)) 71 mZ.cells
    simpa using this
  clear hw3
  try simp only [Act.put, List.setIfInBounds_toArray, List.set_cons_zero, List.set_cons_succ]
  have q0 := HC3.out.cell 0
  have q1 := HC3.out.cell 1
  have q2 := HC3.out.cell 2
  have q3 := HC3.out.cell 3
  have q4 := HC3.out.cell 4
  have q5 := HC3.out.cell 5
  simp at q0 q1 q2 q3 q4 q5
  go_wp2_with fail
  refine ((HC.out.no HK3.out).right f p bu bl ro).mono ?_
  rintro e w4 ⟨rfl, hk4⟩
  have HK4 : Hid (Kept No w w4) := HK3.out.then hk4
  have HA4 : Hid (Box w4 (w.heap.size + 1) 71 mZ.cells) := HA3.out.kept hk4 (fun e => e)
  have HZ4 : Hid (Box w4 (w.heap.size + 1 + 1) 71 mZ.cells) := HZ3.out.kept hk4 (fun e => e)
  have HC4 : Hid (Box w4 w.heap.size 24 #[.slice sa sn sc, .int .i64 f, .int .i64 p, .int .i64 bu, .int .i64 bl, .int .i64 ro]) := HC3.out.kept hk4 (fun e => e)
  clear hk4 q0 q1 q2 q3 q4 q5 HK3 HA3 HZ3 HC3
  rw [HN.out]
  have TL : Hid (1 = 1) := rfl
  have TS : Hid (1 = 1) := rfl
  go_wp2_with (first
    | (have hguard := TL; clear hguard; refine wp_load71 rfl _ rfl (w.heap.size + 1 + 1) mZ.cells rfl rfl HZ4.out ?_; clear TL)
    | (have hguard := TS; clear hguard; refine wpList_store_row rfl 71 _ _ rfl (w.heap.size + 1) mZ.cells (by rfl) (by rfl) 71 mZ.cells HA4.out Tryz.size71 (by rfl) mZ.one ?_; clear TS))
  have HF : Hid (Box (w4.setRow (w.heap.size + 1) mZ.cells) (w.heap.size + 1) 71 mZ.cells) := HA4.out.setRow _
  refine bodyPost_ret (results_row_tmp (by rfl) _ _ (w.heap.size + 1) mZ.cells (by rfl) (load71_run HF.out rfl)) rfl ?_
  exact ⟨rfl, HK4.out.fresh (Kept.setRow _ _ _) (fun i e => by unfold Only at e; omega)⟩

set_option maxRecDepth 100000 in
set_option maxHeartbeats 4000000 in
/-- Bytes that are no sealed body. -/
theorem unpackMsg_shut (ba : Option Addr) (bn bc : Nat) (ys : List Int) (rv fv : Value) (r : Int) (sa : Option Addr) (sn sc : Nat) (zs : List Int) (f p bu bl ro : Int) (w : World) (h : Cfg w sa sn sc zs) (hyes : cfgB zs f p bu bl ro = true) (hs : Sl w ba bn bc ys) (ho : (openOf ys).2 ≠ 0) :
    Calls Tryz.prog 57 #[.slice ba bn bc, cfgV (.slice sa sn sc) f p bu bl ro, rv, fv, .int .i64 r] w fun e w' => e = .returned (.tuple #[.agg mZ.cells, .int .i64 (openOf ys).2]) ∧ Kept No w w' := by
  have HC : Hid (Cfg w sa sn sc zs) := h
  have HN : Hid (cfgB zs f p bu bl ro = true) := hyes
  have HS : Hid (Sl w ba bn bc ys) := hs
  clear h hyes hs
  have TA : Hid (1 = 1) := rfl
  have TB : Hid (1 = 1) := rfl
  go_enter Tryz.func57, Tryz.ntmps57
  go_upto_region 2 with (first
    | (have hguard := TA; clear hguard; refine wp_allocT rfl 71 rfl mZ.cells Tryz.info71z (w.heap.size + 1) (by simp) ?_; clear TA)
    | (have hguard := TB; clear hguard; refine wp_allocT rfl 71 rfl mZ.cells Tryz.info71z (w.heap.size + 1 + 1) (by simp) ?_; clear TB))
  obtain ⟨w3, hw3⟩ : ∃ w3, w3 = ((w.alloc (.cells #[.slice sa sn sc, .int .i64 f, .int .i64 p, .int .i64 bu, .int .i64 bl, .int .i64 ro] 24)).alloc (.cells mZ.cells 71)).alloc (.cells mZ.cells 71) := ⟨_, rfl⟩
  rw [← hw3]
  have HK3 : Hid (Kept No w w3) := by rw [hw3]; exact (((Kept.refl No w).alloc _).alloc _).alloc _
  have HC3 : Hid (Box w3 w.heap.size 24 #[.slice sa sn sc, .int .i64 f, .int .i64 p, .int .i64 bu, .int .i64 bl, .int .i64 ro]) := by rw [hw3]; exact ((Box.new w 24 _).alloc _).alloc _
  have HA3 : Hid (Box w3 (w.heap.size + 1) 71 mZ.cells) := by
    show Box _ _ _ _
    rw [hw3]
    have := (Box.new (w.alloc (.cells #[.slice sa sn sc, .int .i64 f, .int .i64 p, .int .i64 bu, .int .i64 bl, .int .i64 ro] 24)) 71 mZ.cells).alloc (.cells mZ.cells 71)
    simpa using this
  have HZ3 : Hid (Box w3 (w.heap.size + 1 + 1) 71 mZ.cells) := by
    show Box _ _ _ _
    rw [hw3]
    have := Box.new ((w.alloc (.cells #[.slice sa sn sc, .int .i64 f, .int .i64 p, .int .i64 bu, .int .i64 bl, .int .i64 ro] 24)).alloc (.cells mZ.cells 71)) 71 mZ.cells
    simpa using this
  clear hw3
  try simp only [Act.put, List.setIfInBounds_toArray, List.set_cons_zero, List.set_cons_succ]
  have q0 := HC3.out.cell 0
  have q1 := HC3.out.cell 1
  have q2 := HC3.out.cell 2
  have q3 := HC3.out.cell 3
  have q4 := HC3.out.cell 4
  have q5 := HC3.out.cell 5
  simp at q0 q1 q2 q3 q4 q5
  go_wp2_with fail
  refine ((HC.out.no HK3.out).right f p bu bl ro).mono ?_
  rintro e w4 ⟨rfl, hk4⟩
  have HK4 : Hid (Kept No w w4) := HK3.out.then hk4
  have HA4 : Hid (Box w4 (w.heap.size + 1) 71 mZ.cells) := HA3.out.kept hk4 (fun e => e)
  have HZ4 : Hid (Box w4 (w.heap.size + 1 + 1) 71 mZ.cells) := HZ3.out.kept hk4 (fun e => e)
  have HC4 : Hid (Box w4 w.heap.size 24 #[.slice sa sn sc, .int .i64 f, .int .i64 p, .int .i64 bu, .int .i64 bl, .int .i64 ro]) := HC3.out.kept hk4 (fun e => e)
  clear hk4 q0 q1 q2 q3 q4 q5 HK3 HA3 HZ3 HC3
  rw [HN.out]
  have HO : Hid (Calls Tryz.prog 79 #[.slice ba bn bc] w4 (Opens w4 ys)) := open_sl (HS.out.no HK4.out)
  generalize hov : (openOf ys).2 = ov at *
  have HOV : Hid ((openOf ys).2 = ov) := hov
  clear hov
  go_wp2_with fail
  refine HO.out.mono ?_
  rintro e w5 ⟨a5, n5, c5, he, -, -, hk5⟩
  rw [HOV.out] at he
  subst he
  have HK5 : Hid (Kept No w w5) := HK4.out.then hk5
  have HA5 : Hid (Box w5 (w.heap.size + 1) 71 mZ.cells) := HA4.out.kept hk5 (fun e => e)
  have HZ5 : Hid (Box w5 (w.heap.size + 1 + 1) 71 mZ.cells) := HZ4.out.kept hk5 (fun e => e)
  clear hk5 HO HA4 HZ4 HC4 HK4
  have TL : Hid (1 = 1) := rfl
  have TS : Hid (1 = 1) := rfl
  go_wp2_with (first
    | (have hguard := TL; clear hguard; refine wp_load71 rfl _ rfl (w.heap.size + 1 + 1) mZ.cells rfl rfl HZ5.out ?_; clear TL)
    | (have hguard := TS; clear hguard; refine wpList_store_row rfl 71 _ _ rfl (w.heap.size + 1) mZ.cells (by rfl) (by rfl) 71 mZ.cells HA5.out Tryz.size71 (by rfl) mZ.one ?_; clear TS))
  have HF : Hid (Box (w5.setRow (w.heap.size + 1) mZ.cells) (w.heap.size + 1) 71 mZ.cells) := HA5.out.setRow _
  refine bodyPost_ret (results_row_tmp (by rfl) _ _ (w.heap.size + 1) mZ.cells (by rfl) (load71_run HF.out rfl)) rfl ?_
  exact ⟨by rw [HOV.out]; rfl, HK5.out.fresh (Kept.setRow _ _ _) (fun i e => by unfold Only at e; omega)⟩

set_option maxRecDepth 100000 in
set_option maxHeartbeats 4000000 in
theorem unpackBlock_no (ba : Option Addr) (bn bc : Nat) (rv fv : Value) (r : Int) (sa : Option Addr) (sn sc : Nat) (zs : List Int) (f p bu bl ro : Int) (w : World) (h : Cfg w sa sn sc zs) (hno : cfgB zs f p bu bl ro = false) :
    Calls Tryz.prog 39 #[.slice ba bn bc, cfgV (.slice sa sn sc) f p bu bl ro, rv, fv, .int .i64 r] w fun e w' => e = .returned (.tuple #[.agg zB, .int .i64 20]) ∧ Kept No w w' := by
  have HC : Hid (Cfg w sa sn sc zs) := h
  have HN : Hid (cfgB zs f p bu bl ro = false) := hno
  clear h hno
  have TA : Hid (1 = 1) := rfl
  have TB : Hid (1 = 1) := rfl
  go_enter Tryz.func39, Tryz.ntmps39
  go_upto_region 2 with (first
    | (have hguard := TA; clear hguard; refine wp_allocT rfl 37 rfl zB Tryz.info37z (w.heap.size + 1) (by simp) ?_; clear TA)
    | (have hguard := TB; clear hguard; refine wp_allocT rfl 37 rfl zB Tryz.info37z (w.heap.size + 1 + 1) (by simp) ?_; clear TB))
  obtain ⟨w3, hw3⟩ : ∃ w3, w3 = ((w.alloc (.cells #[.slice sa sn sc, .int .i64 f, .int .i64 p, .int .i64 bu, .int .i64 bl, .int .i64 ro] 24)).alloc (.cells zB 37)).alloc (.cells zB 37) := ⟨_, rfl⟩
  rw [← hw3]
  have HK3 : Hid (Kept No w w3) := by rw [hw3]; exact (((Kept.refl No w).alloc _).alloc _).alloc _
  have HC3 : Hid (Box w3 w.heap.size 24 #[.slice sa sn sc, .int .i64 f, .int .i64 p, .int .i64 bu, .int .i64 bl, .int .i64 ro]) := by rw [hw3]; exact ((Box.new w 24 _).alloc _).alloc _
  have HA3 : Hid (Box w3 (w.heap.size + 1) 37 zB) := by
    show Box _ _ _ _
    rw [hw3]
    have := (Box.new (w.alloc (.cells #[.slice sa sn sc, .int .i64 f, .int .i64 p, .int .i64 bu, .int .i64 bl, .int .i64 ro] 24)) 37 zB).alloc (.cells zB 37)
    simpa using this
  have HZ3 : Hid (Box w3 (w.heap.size + 1 + 1) 37 zB) := by
    show Box _ _ _ _
    rw [hw3]
    have := Box.new ((w.alloc (.cells #[.slice sa sn sc, .int .i64 f, .int .i64 p, .int .i64 bu, .int .i64 bl, .int .i64 ro] 24)).alloc (.cells zB 37)) 37 zB
    simpa using this
  clear hw3
  try simp only [Act.put, List.setIfInBounds_toArray, List.set_cons_zero, List.set_cons_succ]
  have q0 := HC3.out.cell 0
  have q1 := HC3.out.cell 1
  have q2 := HC3.out.cell 2
  have q3 := HC3.out.cell 3
  have q4 := HC3.out.cell 4
  have q5 := HC3.out.cell 5
  simp at q0 q1 q2 q3 q4 q5
  go_wp2_with fail
  refine ((HC.out.no HK3.out).right f p bu bl ro).mono ?_
  rintro e w4 ⟨rfl, hk4⟩
  have HK4 : Hid (Kept No w w4) := HK3.out.then hk4
  have HA4 : Hid (Box w4 (w.heap.size + 1) 37 zB) := HA3.out.kept hk4 (fun e => e)
  have HZ4 : Hid (Box w4 (w.heap.size + 1 + 1) 37 zB) := HZ3.out.kept hk4 (fun e => e)
  have HC4 : Hid (Box w4 w.heap.size 24 #[.slice sa sn sc, .int .i64 f, .int .i64 p, .int .i64 bu, .int .i64 bl, .int .i64 ro]) := HC3.out.kept hk4 (fun e => e)
  clear hk4 q0 q1 q2 q3 q4 q5 HK3 HA3 HZ3 HC3
  rw [HN.out]
  have TL : Hid (1 = 1) := rfl
  have TS : Hid (1 = 1) := rfl
  go_wp2_with (first
    | (have hguard := TL; clear hguard; refine wp_load37 rfl _ rfl (w.heap.size + 1 + 1) zB rfl rfl HZ4.out ?_; clear TL)
    | (have hguard := TS; clear hguard; refine wpList_store_row rfl 37 _ _ rfl (w.heap.size + 1) zB (by rfl) (by rfl) 37 zB HA4.out Tryz.size37 (by rfl) zB_one ?_; clear TS))
  have HF : Hid (Box (w4.setRow (w.heap.size + 1) zB) (w.heap.size + 1) 37 zB) := HA4.out.setRow _
  refine bodyPost_ret (results_row_tmp (by rfl) _ _ (w.heap.size + 1) zB (by rfl) (load37_run HF.out rfl)) rfl ?_
  exact ⟨rfl, HK4.out.fresh (Kept.setRow _ _ _) (fun i e => by unfold Only at e; omega)⟩

set_option maxRecDepth 100000 in
set_option maxHeartbeats 4000000 in
/-- Bytes that are no sealed body. -/
theorem unpackBlock_shut (ba : Option Addr) (bn bc : Nat) (ys : List Int) (rv fv : Value) (r : Int) (sa : Option Addr) (sn sc : Nat) (zs : List Int) (f p bu bl ro : Int) (w : World) (h : Cfg w sa sn sc zs) (hyes : cfgB zs f p bu bl ro = true) (hs : Sl w ba bn bc ys) (ho : (openOf ys).2 ≠ 0) :
    Calls Tryz.prog 39 #[.slice ba bn bc, cfgV (.slice sa sn sc) f p bu bl ro, rv, fv, .int .i64 r] w fun e w' => e = .returned (.tuple #[.agg zB, .int .i64 (openOf ys).2]) ∧ Kept No w w' := by
  have HC : Hid (Cfg w sa sn sc zs) := h
  have HN : Hid (cfgB zs f p bu bl ro = true) := hyes
  have HS : Hid (Sl w ba bn bc ys) := hs
  clear h hyes hs
  have TA : Hid (1 = 1) := rfl
  have TB : Hid (1 = 1) := rfl
  go_enter Tryz.func39, Tryz.ntmps39
  go_upto_region 2 with (first
    | (have hguard := TA; clear hguard; refine wp_allocT rfl 37 rfl zB Tryz.info37z (w.heap.size + 1) (by simp) ?_; clear TA)
    | (have hguard := TB; clear hguard; refine wp_allocT rfl 37 rfl zB Tryz.info37z (w.heap.size + 1 + 1) (by simp) ?_; clear TB))
  obtain ⟨w3, hw3⟩ : ∃ w3, w3 = ((w.alloc (.cells #[.slice sa sn sc, .int .i64 f, .int .i64 p, .int .i64 bu, .int .i64 bl, .int .i64 ro] 24)).alloc (.cells zB 37)).alloc (.cells zB 37) := ⟨_, rfl⟩
  rw [← hw3]
  have HK3 : Hid (Kept No w w3) := by rw [hw3]; exact (((Kept.refl No w).alloc _).alloc _).alloc _
  have HC3 : Hid (Box w3 w.heap.size 24 #[.slice sa sn sc, .int .i64 f, .int .i64 p, .int .i64 bu, .int .i64 bl, .int .i64 ro]) := by rw [hw3]; exact ((Box.new w 24 _).alloc _).alloc _
  have HA3 : Hid (Box w3 (w.heap.size + 1) 37 zB) := by
    show Box _ _ _ _
    rw [hw3]
    have := (Box.new (w.alloc (.cells #[.slice sa sn sc, .int .i64 f, .int .i64 p, .int .i64 bu, .int .i64 bl, .int .i64 ro] 24)) 37 zB).alloc (.cells zB 37)
    simpa using this
  have HZ3 : Hid (Box w3 (w.heap.size + 1 + 1) 37 zB) := by
    show Box _ _ _ _
    rw [hw3]
    have := Box.new ((w.alloc (.cells #[.slice sa sn sc, .int .i64 f, .int .i64 p, .int .i64 bu, .int .i64 bl, .int .i64 ro] 24)).alloc (.cells zB 37)) 37 zB
    simpa using this
  clear hw3
  try simp only [Act.put, List.setIfInBounds_toArray, List.set_cons_zero, List.set_cons_succ]
  have q0 := HC3.out.cell 0
  have q1 := HC3.out.cell 1
  have q2 := HC3.out.cell 2
  have q3 := HC3.out.cell 3
  have q4 := HC3.out.cell 4
  have q5 := HC3.out.cell 5
  simp at q0 q1 q2 q3 q4 q5
  go_wp2_with fail
  refine ((HC.out.no HK3.out).right f p bu bl ro).mono ?_
  rintro e w4 ⟨rfl, hk4⟩
  have HK4 : Hid (Kept No w w4) := HK3.out.then hk4
  have HA4 : Hid (Box w4 (w.heap.size + 1) 37 zB) := HA3.out.kept hk4 (fun e => e)
  have HZ4 : Hid (Box w4 (w.heap.size + 1 + 1) 37 zB) := HZ3.out.kept hk4 (fun e => e)
  have HC4 : Hid (Box w4 w.heap.size 24 #[.slice sa sn sc, .int .i64 f, .int .i64 p, .int .i64 bu, .int .i64 bl, .int .i64 ro]) := HC3.out.kept hk4 (fun e => e)
  clear hk4 q0 q1 q2 q3 q4 q5 HK3 HA3 HZ3 HC3
  rw [HN.out]
  have HO : Hid (Calls Tryz.prog 79 #[.slice ba bn bc] w4 (Opens w4 ys)) := open_sl (HS.out.no HK4.out)
  generalize hov : (openOf ys).2 = ov at *
  have HOV : Hid ((openOf ys).2 = ov) := hov
  clear hov
  go_wp2_with fail
  refine HO.out.mono ?_
  rintro e w5 ⟨a5, n5, c5, he, -, -, hk5⟩
  rw [HOV.out] at he
  subst he
  have HK5 : Hid (Kept No w w5) := HK4.out.then hk5
  have HA5 : Hid (Box w5 (w.heap.size + 1) 37 zB) := HA4.out.kept hk5 (fun e => e)
  have HZ5 : Hid (Box w5 (w.heap.size + 1 + 1) 37 zB) := HZ4.out.kept hk5 (fun e => e)
  clear hk5 HO HA4 HZ4 HC4 HK4
  have TL : Hid (1 = 1) := rfl
  have TS : Hid (1 = 1) := rfl
  go_wp2_with (first
    | (have hguard := TL; clear hguard; refine wp_load37 rfl _ rfl (w.heap.size + 1 + 1) zB rfl rfl HZ5.out ?_; clear TL)
    | (have hguard := TS; clear hguard; refine wpList_store_row rfl 37 _ _ rfl (w.heap.size + 1) zB (by rfl) (by rfl) 37 zB HA5.out Tryz.size37 (by rfl) zB_one ?_; clear TS))
  have HF : Hid (Box (w5.setRow (w.heap.size + 1) zB) (w.heap.size + 1) 37 zB) := HA5.out.setRow _
  refine bodyPost_ret (results_row_tmp (by rfl) _ _ (w.heap.size + 1) zB (by rfl) (load37_run HF.out rfl)) rfl ?_
  exact ⟨by rw [HOV.out]; rfl, HK5.out.fresh (Kept.setRow _ _ _) (fun i e => by unfold Only at e; omega)⟩

set_option maxRecDepth 100000 in
set_option maxHeartbeats 4000000 in
theorem unpackInst_no (ba : Option Addr) (bn bc : Nat) (rv fv : Value) (r : Int) (sa : Option Addr) (sn sc : Nat) (zs : List Int) (f p bu bl ro : Int) (w : World) (h : Cfg w sa sn sc zs) (hno : cfgB zs f p bu bl ro = false) :
    Calls Tryz.prog 44 #[.slice ba bn bc, cfgV (.slice sa sn sc) f p bu bl ro, rv, fv, .int .i64 r] w fun e w' => e = .returned (.tuple #[.agg zI, .int .i64 20]) ∧ Kept No w w' := by
  have HC : Hid (Cfg w sa sn sc zs) := h
  have HN : Hid (cfgB zs f p bu bl ro = false) := hno
  clear h hno
  have TA : Hid (1 = 1) := rfl
  have TB : Hid (1 = 1) := rfl
  go_enter Tryz.func44, Tryz.ntmps44
  go_upto_region 2 with (first
    | (have hguard := TA; clear hguard; refine wp_allocT rfl 47 rfl zI Tryz.info47z (w.heap.size + 1) (by simp) ?_; clear TA)
    | (have hguard := TB; clear hguard; refine wp_allocT rfl 47 rfl zI Tryz.info47z (w.heap.size + 1 + 1) (by simp) ?_; clear TB))
  obtain ⟨w3, hw3⟩ : ∃ w3, w3 = ((w.alloc (.cells #[.slice sa sn sc, .int .i64 f, .int .i64 p, .int .i64 bu, .int .i64 bl, .int .i64 ro] 24)).alloc (.cells zI 47)).alloc (.cells zI 47) := ⟨_, rfl⟩
  rw [← hw3]
  have HK3 : Hid (Kept No w w3) := by rw [hw3]; exact (((Kept.refl No w).alloc _).alloc _).alloc _
  have HC3 : Hid (Box w3 w.heap.size 24 #[.slice sa sn sc, .int .i64 f, .int .i64 p, .int .i64 bu, .int .i64 bl, .int .i64 ro]) := by rw [hw3]; exact ((Box.new w 24 _).alloc _).alloc _
  have HA3 : Hid (Box w3 (w.heap.size + 1) 47 zI) := by
    show Box _ _ _ _
    rw [hw3]
    have := (Box.new (w.alloc (.cells #[.slice sa sn sc, .int .i64 f, .int .i64 p, .int .i64 bu, .int .i64 bl, .int .i64 ro] 24)) 47 zI).alloc (.cells zI 47)
    simpa using this
  have HZ3 : Hid (Box w3 (w.heap.size + 1 + 1) 47 zI) := by
    show Box _ _ _ _
    rw [hw3]
    have := Box.new ((w.alloc (.cells #[.slice sa sn sc, .int .i64 f, .int .i64 p, .int .i64 bu, .int .i64 bl, .int .i64 ro] 24)).alloc (.cells zI 47)) 47 zI
    simpa using this
  clear hw3
  try simp only [Act.put, List.setIfInBounds_toArray, List.set_cons_zero, List.set_cons_succ]
  have q0 := HC3.out.cell 0
  have q1 := HC3.out.cell 1
  have q2 := HC3.out.cell 2
  have q3 := HC3.out.cell 3
  have q4 := HC3.out.cell 4
  have q5 := HC3.out.cell 5
  simp at q0 q1 q2 q3 q4 q5
  go_wp2_with fail
  refine ((HC.out.no HK3.out).right f p bu bl ro).mono ?_
  rintro e w4 ⟨rfl, hk4⟩
  have HK4 : Hid (Kept No w w4) := HK3.out.then hk4
  have HA4 : Hid (Box w4 (w.heap.size + 1) 47 zI) := HA3.out.kept hk4 (fun e => e)
  have HZ4 : Hid (Box w4 (w.heap.size + 1 + 1) 47 zI) := HZ3.out.kept hk4 (fun e => e)
  have HC4 : Hid (Box w4 w.heap.size 24 #[.slice sa sn sc, .int .i64 f, .int .i64 p, .int .i64 bu, .int .i64 bl, .int .i64 ro]) := HC3.out.kept hk4 (fun e => e)
  clear hk4 q0 q1 q2 q3 q4 q5 HK3 HA3 HZ3 HC3
  rw [HN.out]
  have TL : Hid (1 = 1) := rfl
  have TS : Hid (1 = 1) := rfl
  go_wp2_with (first
    | (have hguard := TL; clear hguard; refine wp_load47 rfl _ rfl (w.heap.size + 1 + 1) zI rfl rfl HZ4.out ?_; clear TL)
    | (have hguard := TS; clear hguard; refine wpList_store_row rfl 47 _ _ rfl (w.heap.size + 1) zI (by rfl) (by rfl) 47 zI HA4.out Tryz.size47 (by rfl) zI_one ?_; clear TS))
  have HF : Hid (Box (w4.setRow (w.heap.size + 1) zI) (w.heap.size + 1) 47 zI) := HA4.out.setRow _
  refine bodyPost_ret (results_row_tmp (by rfl) _ _ (w.heap.size + 1) zI (by rfl) (load47_run HF.out rfl)) rfl ?_
  exact ⟨rfl, HK4.out.fresh (Kept.setRow _ _ _) (fun i e => by unfold Only at e; omega)⟩

set_option maxRecDepth 100000 in
set_option maxHeartbeats 4000000 in
/-- Bytes that are no sealed body. -/
theorem unpackInst_shut (ba : Option Addr) (bn bc : Nat) (ys : List Int) (rv fv : Value) (r : Int) (sa : Option Addr) (sn sc : Nat) (zs : List Int) (f p bu bl ro : Int) (w : World) (h : Cfg w sa sn sc zs) (hyes : cfgB zs f p bu bl ro = true) (hs : Sl w ba bn bc ys) (ho : (openOf ys).2 ≠ 0) :
    Calls Tryz.prog 44 #[.slice ba bn bc, cfgV (.slice sa sn sc) f p bu bl ro, rv, fv, .int .i64 r] w fun e w' => e = .returned (.tuple #[.agg zI, .int .i64 (openOf ys).2]) ∧ Kept No w w' := by
  have HC : Hid (Cfg w sa sn sc zs) := h
  have HN : Hid (cfgB zs f p bu bl ro = true) := hyes
  have HS : Hid (Sl w ba bn bc ys) := hs
  clear h hyes hs
  have TA : Hid (1 = 1) := rfl
  have TB : Hid (1 = 1) := rfl
  go_enter Tryz.func44, Tryz.ntmps44
  go_upto_region 2 with (first
    | (have hguard := TA; clear hguard; refine wp_allocT rfl 47 rfl zI Tryz.info47z (w.heap.size + 1) (by simp) ?_; clear TA)
    | (have hguard := TB; clear hguard; refine wp_allocT rfl 47 rfl zI Tryz.info47z (w.heap.size + 1 + 1) (by simp) ?_; clear TB))
  obtain ⟨w3, hw3⟩ : ∃ w3, w3 = ((w.alloc (.cells #[.slice sa sn sc, .int .i64 f, .int .i64 p, .int .i64 bu, .int .i64 bl, .int .i64 ro] 24)).alloc (.cells zI 47)).alloc (.cells zI 47) := ⟨_, rfl⟩
  rw [← hw3]
  have HK3 : Hid (Kept No w w3) := by rw [hw3]; exact (((Kept.refl No w).alloc _).alloc _).alloc _
  have HC3 : Hid (Box w3 w.heap.size 24 #[.slice sa sn sc, .int .i64 f, .int .i64 p, .int .i64 bu, .int .i64 bl, .int .i64 ro]) := by rw [hw3]; exact ((Box.new w 24 _).alloc _).alloc _
  have HA3 : Hid (Box w3 (w.heap.size + 1) 47 zI) := by
    show Box _ _ _ _
    rw [hw3]
    have := (Box.new (w.alloc (.cells #[.slice sa sn sc, .int .i64 f, .int .i64 p, .int .i64 bu, .int .i64 bl, .int .i64 ro] 24)) 47 zI).alloc (.cells zI 47)
    simpa using this
  have HZ3 : Hid (Box w3 (w.heap.size + 1 + 1) 47 zI) := by
    show Box _ _ _ _
    rw [hw3]
    have := Box.new ((w.alloc (.cells #[.slice sa sn sc, .int .i64 f, .int .i64 p, .int .i64 bu, .int .i64 bl, .int .i64 ro] 24)).alloc (.cells zI 47)) 47 zI
    simpa using this
  clear hw3
  try simp only [Act.put, List.setIfInBounds_toArray, List.set_cons_zero, List.set_cons_succ]
  have q0 := HC3.out.cell 0
  have q1 := HC3.out.cell 1
  have q2 := HC3.out.cell 2
  have q3 := HC3.out.cell 3
  have q4 := HC3.out.cell 4
  have q5 := HC3.out.cell 5
  simp at q0 q1 q2 q3 q4 q5
  go_wp2_with fail
  refine ((HC.out.no HK3.out).right f p bu bl ro).mono ?_
  rintro e w4 ⟨rfl, hk4⟩
  have HK4 : Hid (Kept No w w4) := HK3.out.then hk4
  have HA4 : Hid (Box w4 (w.heap.size + 1) 47 zI) := HA3.out.kept hk4 (fun e => e)
  have HZ4 : Hid (Box w4 (w.heap.size + 1 + 1) 47 zI) := HZ3.out.kept hk4 (fun e => e)
  have HC4 : Hid (Box w4 w.heap.size 24 #[.slice sa sn sc, .int .i64 f, .int .i64 p, .int .i64 bu, .int .i64 bl, .int .i64 ro]) := HC3.out.kept hk4 (fun e => e)
  clear hk4 q0 q1 q2 q3 q4 q5 HK3 HA3 HZ3 HC3
  rw [HN.out]
  have HO : Hid (Calls Tryz.prog 79 #[.slice ba bn bc] w4 (Opens w4 ys)) := open_sl (HS.out.no HK4.out)
  generalize hov : (openOf ys).2 = ov at *
  have HOV : Hid ((openOf ys).2 = ov) := hov
  clear hov
  go_wp2_with fail
  refine HO.out.mono ?_
  rintro e w5 ⟨a5, n5, c5, he, -, -, hk5⟩
  rw [HOV.out] at he
  subst he
  have HK5 : Hid (Kept No w w5) := HK4.out.then hk5
  have HA5 : Hid (Box w5 (w.heap.size + 1) 47 zI) := HA4.out.kept hk5 (fun e => e)
  have HZ5 : Hid (Box w5 (w.heap.size + 1 + 1) 47 zI) := HZ4.out.kept hk5 (fun e => e)
  clear hk5 HO HA4 HZ4 HC4 HK4
  have TL : Hid (1 = 1) := rfl
  have TS : Hid (1 = 1) := rfl
  go_wp2_with (first
    | (have hguard := TL; clear hguard; refine wp_load47 rfl _ rfl (w.heap.size + 1 + 1) zI rfl rfl HZ5.out ?_; clear TL)
    | (have hguard := TS; clear hguard; refine wpList_store_row rfl 47 _ _ rfl (w.heap.size + 1) zI (by rfl) (by rfl) 47 zI HA5.out Tryz.size47 (by rfl) zI_one ?_; clear TS))
  have HF : Hid (Box (w5.setRow (w.heap.size + 1) zI) (w.heap.size + 1) 47 zI) := HA5.out.setRow _
  refine bodyPost_ret (results_row_tmp (by rfl) _ _ (w.heap.size + 1) zI (by rfl) (load47_run HF.out rfl)) rfl ?_
  exact ⟨by rw [HOV.out]; rfl, HK5.out.fresh (Kept.setRow _ _ _) (fun i e => by unfold Only at e; omega)⟩

set_option maxRecDepth 100000 in
set_option maxHeartbeats 4000000 in
theorem unpackBucket_no (ba : Option Addr) (bn bc : Nat) (rv fv : Value) (r : Int) (sa : Option Addr) (sn sc : Nat) (zs : List Int) (f p bu bl ro : Int) (w : World) (h : Cfg w sa sn sc zs) (hno : cfgB zs f p bu bl ro = false) :
    Calls Tryz.prog 50 #[.slice ba bn bc, cfgV (.slice sa sn sc) f p bu bl ro, rv, fv, .int .i64 r] w fun e w' => e = .returned (.tuple #[.agg zK, .int .i64 20]) ∧ Kept No w w' := by
  have HC : Hid (Cfg w sa sn sc zs) := h
  have HN : Hid (cfgB zs f p bu bl ro = false) := hno
  clear h hno
  have TA : Hid (1 = 1) := rfl
  have TB : Hid (1 = 1) := rfl
  go_enter Tryz.func50, Tryz.ntmps50
  go_upto_region 2 with (first
    | (have hguard := TA; clear hguard; refine wp_allocT rfl 54 rfl zK Tryz.info54z (w.heap.size + 1) (by simp) ?_; clear TA)
    | (have hguard := TB; clear hguard; refine wp_allocT rfl 54 rfl zK Tryz.info54z (w.heap.size + 1 + 1) (by simp) ?_; clear TB))
  obtain ⟨w3, hw3⟩ : ∃ w3, w3 = ((w.alloc (.cells #[.slice sa sn sc, .int .i64 f, .int .i64 p, .int .i64 bu, .int .i64 bl, .int .i64 ro] 24)).alloc (.cells zK 54)).alloc (.cells zK 54) := ⟨_, rfl⟩
  rw [← hw3]
  have HK3 : Hid (Kept No w w3) := by rw [hw3]; exact (((Kept.refl No w).alloc _).alloc _).alloc _
  have HC3 : Hid (Box w3 w.heap.size 24 #[.slice sa sn sc, .int .i64 f, .int .i64 p, .int .i64 bu, .int .i64 bl, .int .i64 ro]) := by rw [hw3]; exact ((Box.new w 24 _).alloc _).alloc _
  have HA3 : Hid (Box w3 (w.heap.size + 1) 54 zK) := by
    show Box _ _ _ _
    rw [hw3]
    have := (Box.new (w.alloc (.cells #[.slice sa sn sc, .int .i64 f, .int .i64 p, .int .i64 bu, .int .i64 bl, .int .i64 ro] 24)) 54 zK).alloc (.cells zK 54)
    simpa using this
  have HZ3 : Hid (Box w3 (w.heap.size + 1 + 1) 54 zK) := by
    show Box _ _ _ _
    rw [hw3]
    have := Box.new ((w.alloc (.cells #[.slice sa sn sc, .int .i64 f, .int .i64 p, .int .i64 bu, .int .i64 bl, .int .i64 ro] 24)).alloc (.cells zK 54)) 54 zK
    simpa using this
  clear hw3
  try simp only [Act.put, List.setIfInBounds_toArray, List.set_cons_zero, List.set_cons_succ]
  have q0 := HC3.out.cell 0
  have q1 := HC3.out.cell 1
  have q2 := HC3.out.cell 2
  have q3 := HC3.out.cell 3
  have q4 := HC3.out.cell 4
  have q5 := HC3.out.cell 5
  simp at q0 q1 q2 q3 q4 q5
  go_wp2_with fail
  refine ((HC.out.no HK3.out).right f p bu bl ro).mono ?_
  rintro e w4 ⟨rfl, hk4⟩
  have HK4 : Hid (Kept No w w4) := HK3.out.then hk4
  have HA4 : Hid (Box w4 (w.heap.size + 1) 54 zK) := HA3.out.kept hk4 (fun e => e)
  have HZ4 : Hid (Box w4 (w.heap.size + 1 + 1) 54 zK) := HZ3.out.kept hk4 (fun e => e)
  have HC4 : Hid (Box w4 w.heap.size 24 #[.slice sa sn sc, .int .i64 f, .int .i64 p, .int .i64 bu, .int .i64 bl, .int .i64 ro]) := HC3.out.kept hk4 (fun e => e)
  clear hk4 q0 q1 q2 q3 q4 q5 HK3 HA3 HZ3 HC3
  rw [HN.out]
  have TL : Hid (1 = 1) := rfl
  have TS : Hid (1 = 1) := rfl
  go_wp2_with (first
    | (have hguard := TL; clear hguard; refine wp_load54 rfl _ rfl (w.heap.size + 1 + 1) zK rfl rfl HZ4.out ?_; clear TL)
    | (have hguard := TS; clear hguard; refine wpList_store_row rfl 54 _ _ rfl (w.heap.size + 1) zK (by rfl) (by rfl) 54 zK HA4.out Tryz.size54 (by rfl) zK_one ?_; clear TS))
  have HF : Hid (Box (w4.setRow (w.heap.size + 1) zK) (w.heap.size + 1) 54 zK) := HA4.out.setRow _
  refine bodyPost_ret (results_row_tmp (by rfl) _ _ (w.heap.size + 1) zK (by rfl) (load54_run HF.out rfl)) rfl ?_
  exact ⟨rfl, HK4.out.fresh (Kept.setRow _ _ _) (fun i e => by unfold Only at e; omega)⟩

set_option maxRecDepth 100000 in
set_option maxHeartbeats 4000000 in
/-- Bytes that are no sealed body. -/
theorem unpackBucket_shut (ba : Option Addr) (bn bc : Nat) (ys : List Int) (rv fv : Value) (r : Int) (sa : Option Addr) (sn sc : Nat) (zs : List Int) (f p bu bl ro : Int) (w : World) (h : Cfg w sa sn sc zs) (hyes : cfgB zs f p bu bl ro = true) (hs : Sl w ba bn bc ys) (ho : (openOf ys).2 ≠ 0) :
    Calls Tryz.prog 50 #[.slice ba bn bc, cfgV (.slice sa sn sc) f p bu bl ro, rv, fv, .int .i64 r] w fun e w' => e = .returned (.tuple #[.agg zK, .int .i64 (openOf ys).2]) ∧ Kept No w w' := by
  have HC : Hid (Cfg w sa sn sc zs) := h
  have HN : Hid (cfgB zs f p bu bl ro = true) := hyes
  have HS : Hid (Sl w ba bn bc ys) := hs
  clear h hyes hs
  have TA : Hid (1 = 1) := rfl
  have TB : Hid (1 = 1) := rfl
  go_enter Tryz.func50, Tryz.ntmps50
  go_upto_region 2 with (first
    | (have hguard := TA; clear hguard; refine wp_allocT rfl 54 rfl zK Tryz.info54z (w.heap.size + 1) (by simp) ?_; clear TA)
    | (have hguard := TB; clear hguard; refine wp_allocT rfl 54 rfl zK Tryz.info54z (w.heap.size + 1 + 1) (by simp) ?_; clear TB))
  obtain ⟨w3, hw3⟩ : ∃ w3, w3 = ((w.alloc (.cells #[.slice sa sn sc, .int .i64 f, .int .i64 p, .int .i64 bu, .int .i64 bl, .int .i64 ro] 24)).alloc (.cells zK 54)).alloc (.cells zK 54) := ⟨_, rfl⟩
  rw [← hw3]
  have HK3 : Hid (Kept No w w3) := by rw [hw3]; exact (((Kept.refl No w).alloc _).alloc _).alloc _
  have HC3 : Hid (Box w3 w.heap.size 24 #[.slice sa sn sc, .int .i64 f, .int .i64 p, .int .i64 bu, .int .i64 bl, .int .i64 ro]) := by rw [hw3]; exact ((Box.new w 24 _).alloc _).alloc _
  have HA3 : Hid (Box w3 (w.heap.size + 1) 54 zK) := by
    show Box _ _ _ _
    rw [hw3]
    have := (Box.new (w.alloc (.cells #[.slice sa sn sc, .int .i64 f, .int .i64 p, .int .i64 bu, .int .i64 bl, .int .i64 ro] 24)) 54 zK).alloc (.cells zK 54)
    simpa using this
  have HZ3 : Hid (Box w3 (w.heap.size + 1 + 1) 54 zK) := by
    show Box _ _ _ _
    rw [hw3]
    have := Box.new ((w.alloc (.cells #[.slice sa sn sc, .int .i64 f, .int .i64 p, .int .i64 bu, .int .i64 bl, .int .i64 ro] 24)).alloc (.cells zK 54)) 54 zK
    simpa using this
  clear hw3
  try simp only [Act.put, List.setIfInBounds_toArray, List.set_cons_zero, List.set_cons_succ]
  have q0 := HC3.out.cell 0
  have q1 := HC3.out.cell 1
  have q2 := HC3.out.cell 2
  have q3 := HC3.out.cell 3
  have q4 := HC3.out.cell 4
  have q5 := HC3.out.cell 5
  simp at q0 q1 q2 q3 q4 q5
  go_wp2_with fail
  refine ((HC.out.no HK3.out).right f p bu bl ro).mono ?_
  rintro e w4 ⟨rfl, hk4⟩
  have HK4 : Hid (Kept No w w4) := HK3.out.then hk4
  have HA4 : Hid (Box w4 (w.heap.size + 1) 54 zK) := HA3.out.kept hk4 (fun e => e)
  have HZ4 : Hid (Box w4 (w.heap.size + 1 + 1) 54 zK) := HZ3.out.kept hk4 (fun e => e)
  have HC4 : Hid (Box w4 w.heap.size 24 #[.slice sa sn sc, .int .i64 f, .int .i64 p, .int .i64 bu, .int .i64 bl, .int .i64 ro]) := HC3.out.kept hk4 (fun e => e)
  clear hk4 q0 q1 q2 q3 q4 q5 HK3 HA3 HZ3 HC3
  rw [HN.out]
  have HO : Hid (Calls Tryz.prog 79 #[.slice ba bn bc] w4 (Opens w4 ys)) := open_sl (HS.out.no HK4.out)
  generalize hov : (openOf ys).2 = ov at *
  have HOV : Hid ((openOf ys).2 = ov) := hov
  clear hov
  go_wp2_with fail
  refine HO.out.mono ?_
  rintro e w5 ⟨a5, n5, c5, he, -, -, hk5⟩
  rw [HOV.out] at he
  subst he
  have HK5 : Hid (Kept No w w5) := HK4.out.then hk5
  have HA5 : Hid (Box w5 (w.heap.size + 1) 54 zK) := HA4.out.kept hk5 (fun e => e)
  have HZ5 : Hid (Box w5 (w.heap.size + 1 + 1) 54 zK) := HZ4.out.kept hk5 (fun e => e)
  clear hk5 HO HA4 HZ4 HC4 HK4
  have TL : Hid (1 = 1) := rfl
  have TS : Hid (1 = 1) := rfl
  go_wp2_with (first
    | (have hguard := TL; clear hguard; refine wp_load54 rfl _ rfl (w.heap.size + 1 + 1) zK rfl rfl HZ5.out ?_; clear TL)
    | (have hguard := TS; clear hguard; refine wpList_store_row rfl 54 _ _ rfl (w.heap.size + 1) zK (by rfl) (by rfl) 54 zK HA5.out Tryz.size54 (by rfl) zK_one ?_; clear TS))
  have HF : Hid (Box (w5.setRow (w.heap.size + 1) zK) (w.heap.size + 1) 54 zK) := HA5.out.setRow _
  refine bodyPost_ret (results_row_tmp (by rfl) _ _ (w.heap.size + 1) zK (by rfl) (load54_run HF.out rfl)) rfl ?_
  exact ⟨by rw [HOV.out]; rfl, HK5.out.fresh (Kept.setRow _ _ _) (fun i e => by unfold Only at e; omega)⟩

end Go.Proofs.YtgdnofacgfjaeabGreat
