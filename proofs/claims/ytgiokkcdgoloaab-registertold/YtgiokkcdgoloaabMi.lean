import Derived.Test.YtgiokkcdgoloaabMh
namespace Go.Proofs.Ytgiokkcdgoloaab
open Go.RowKit
set_option linter.unusedVariables false
set_option linter.unusedSimpArgs false

theorem results_row_tmp {fn : Func} {p u : Tmp} {t : TypeId} (h : fn.results = #[.cell p t, .tmp u]) (tmps : Array Value) (w : World) (g : Nat) (cs : Array Value) (hp : tmps.getD p undef = .pointer (some ⟨g, 0, none⟩)) (hrun : (loadVar t ⟨g, 0, none⟩).run Try.prog w = .ok (.agg cs) w) :
    (results fn tmps).run Try.prog w = .ok (.tuple #[.agg cs, tmps.getD u undef]) w := by
  rw [results_cell_tmp h, hp]
  simp [asAddr, hrun, Result.andThen]
theorem Try.size39 : (Try.prog.info? 39).map (·.size) = some 11 := by kernel_rfl
theorem Try.size31 : (Try.prog.info? 31).map (·.size) = some 3 := by kernel_rfl
theorem load90_run {w : World} {g : Nat} {cs : Array Value} (hb : Box w g 39 cs) (hl : cs.size = 11) : (loadVar 39 ⟨g, 0, none⟩).run Try.prog w = .ok (.agg cs) w :=
  run_loadVar_row w g 39 39 cs (0, 0) _ hb Try.underlying39 rfl (by rw [hl]; exact Try.size39)
theorem load57_run {w : World} {g : Nat} {cs : Array Value} (hb : Box w g 31 cs) (hl : cs.size = 3) : (loadVar 31 ⟨g, 0, none⟩).run Try.prog w = .ok (.agg cs) w :=
  run_loadVar_row w g 31 31 cs (0, 0) _ hb Try.underlying31 rfl (by rw [hl]; exact Try.size31)

theorem Box.setRow {w : World} {g : Nat} {t : TypeId} {old : Array Value} (h : Box w g t old) (cs : Array Value) : Box (w.setRow g cs) g t cs := setRow_heap w g old cs t (0, 0) h
theorem Kept.setRow (w : World) (g : Nat) (cs : Array Value) : Kept (Only g) w (w.setRow g cs) :=
  ⟨rfl, rfl, rfl, by simp [World.setRow], fun k _ hk => setRow_other w g k cs hk⟩

/-- A result's cells. -/
def resC (err sn sc : Int) (da : Option Addr) (dl dc : Nat) : Array Value := #[.int .i64 err, .string ⟨#[]⟩, .int .i64 0, .int .i64 0, .int .i64 0, .slice none 0 0, .slice da dl dc, .int .i64 0, .int .i64 sn, .int .i64 sc, .int .i64 0]
theorem resC_one (err sn sc : Int) (da : Option Addr) (dl dc : Nat) : (resC err sn sc da dl dc).all (·.oneCell') = true := by simp [resC, Value.oneCell']
theorem resC_size (err sn sc : Int) (da : Option Addr) (dl dc : Nat) : (resC err sn sc da dl dc).size = 11 := rfl
def DoneOut (w : World) (err sn sc : Int) (zs : List Int) (b : Bool) (e : Ending) (w' : World) : Prop :=
  ∃ da dc, e = .returned (.tuple #[.agg (resC err sn sc da zs.length dc), .bool b]) ∧ OwnB w' w.heap.size da dc zs ∧ Kept No w w'

set_option maxRecDepth 100000 in
set_option maxHeartbeats 2000000 in
theorem done0_any (w : World) : Calls Try.prog 71 #[.agg #[]] w (DoneOut w 0 0 0 [] false) := by
  have HF : Hid (Box ((w.alloc (.cells #[] 107)).alloc (.cells (resC 0 0 0 none 0 0) 39)) (w.heap.size + 1) 39 (resC 0 0 0 none 0 0)) := by
    have := Box.new (w.alloc (.cells #[] 107)) 39 (resC 0 0 0 none 0 0)
    have e : (w.alloc (.cells #[] 107)).heap.size = w.heap.size + 1 := by simp
    rw [e] at this
    exact this
  go_enter Try.func71, Try.ntmps71
  go_wp2
  refine bodyPost_ret (results_row_tmp (by rfl) _ _ (w.heap.size + 1) (resC 0 0 0 none 0 0) (by rfl) (load90_run HF.out rfl)) rfl ?_
  exact ⟨none, 0, rfl, Own.nil _ _ _ _, (((Kept.refl No w).alloc _).alloc _)⟩

set_option maxRecDepth 100000 in
set_option maxHeartbeats 2000000 in
theorem done_gen92 (m : Nat) (a : Option Addr) (cap : Nat) (x : MS) (t : TypeId) (v u : Value) (err sn sc : Int) (zs : List Int) (b : Bool) (w : World) (hM : Mach w m a cap x t v)
    (hm : ∀ w, (method 280 t v "cairn/register.done").run Try.prog w = .ok (71, u) w)
    (hcall : ∀ w1, Kept No w w1 → Calls Try.prog 71 #[u] w1 (DoneOut w1 err sn sc zs b)) :
    Calls Try.prog 62 #[.pointer (some ⟨m, 0, none⟩)] w (DoneOut w err sn sc zs b) := by
  obtain ⟨w1, hw1⟩ : ∃ w1, w1 = w.alloc (.cells (resC 0 0 0 none 0 0) 39) := ⟨_, rfl⟩
  have HK1 : Hid (Kept No w w1) := by rw [hw1]; exact (Kept.refl No w).alloc _
  have HX1 : Hid (Box w1 w.heap.size 39 (resC 0 0 0 none 0 0)) := by rw [hw1]; exact Box.new _ _ _
  have HC : Hid (∀ w1, Kept No w w1 → Calls Try.prog 71 #[u] w1 (DoneOut w1 err sn sc zs b)) := hcall
  have HS : Hid (w1.heap.size = w.heap.size + 1) := by show _ = _; rw [hw1]; simp
  have c9 : w1.cell? ⟨m, 9, none⟩ = some (.iface t v) := (hM.no HK1.out).box.cell 9
  rw [hw1] at c9
  unfold resC at c9
  clear hM hcall
  go_enter Try.func62, Try.ntmps62
  go_wp2_with (first
    | (go_at_call 71
       (try unfold resC at hw1)
       rw [← hw1]
       refine Calls.mono (HC.out w1 HK1.out) ?_
       rintro e w3 ⟨da, dc, rfl, hO, hk⟩
       have HX3 : Hid (Box w3 w.heap.size 39 (resC 0 0 0 none 0 0)) := HX1.out.kept hk (fun e => e)
       have HK3 : Hid (Kept No w w3) := HK1.out.then hk
       have HO3 : Hid (OwnB w3 w1.heap.size da dc zs) := hO
       clear hO hk hw1 c9)
    | (refine wpList_store_row rfl 39 _ _ rfl w.heap.size (resC err sn sc da zs.length dc) rfl rfl 39 (resC 0 0 0 none 0 0) HX3.out Try.size39 rfl (resC_one _ _ _ _ _ _) ?_
       have HF : Hid (Box (w3.setRow w.heap.size (resC err sn sc da zs.length dc)) w.heap.size 39 (resC err sn sc da zs.length dc)) := HX3.out.setRow _
       have HKf : Hid (Kept No w (w3.setRow w.heap.size (resC err sn sc da zs.length dc))) := HK3.out.trans (Kept.setRow _ _ _) (fun _ e => e) (fun i hi e => by have : i = w.heap.size := e; omega)
       have HOf : Hid (OwnB (w3.setRow w.heap.size (resC err sn sc da zs.length dc)) w.heap.size da dc zs) := Own.lower (HO3.out.kept (Kept.setRow _ _ _) (fun k hk e => by have : k = w.heap.size := e; have := HO3.out.base hk; have := HS.out; omega)) HK1.out.size
       generalize w3.setRow w.heap.size (resC err sn sc da zs.length dc) = w4 at HF HKf HOf ⊢
       clear HX3 HK3 HO3))
  refine bodyPost_ret (results_row_tmp (by rfl) _ _ w.heap.size (resC err sn sc da zs.length dc) (by rfl) (load90_run HF.out rfl)) rfl ?_
  exact ⟨da, dc, rfl, HOf.out, HKf.out⟩

set_option maxRecDepth 100000 in
set_option maxHeartbeats 2000000 in
theorem done_gen101 (m : Nat) (a : Option Addr) (cap : Nat) (x : MS) (t : TypeId) (v u : Value) (err sn sc : Int) (zs : List Int) (b : Bool) (w : World) (hM : Mach w m a cap x t v)
    (hm : ∀ w, (method 280 t v "cairn/register.done").run Try.prog w = .ok (80, u) w)
    (hcall : ∀ w1, Kept No w w1 → Calls Try.prog 80 #[u] w1 (DoneOut w1 err sn sc zs b)) :
    Calls Try.prog 62 #[.pointer (some ⟨m, 0, none⟩)] w (DoneOut w err sn sc zs b) := by
  obtain ⟨w1, hw1⟩ : ∃ w1, w1 = w.alloc (.cells (resC 0 0 0 none 0 0) 39) := ⟨_, rfl⟩
  have HK1 : Hid (Kept No w w1) := by rw [hw1]; exact (Kept.refl No w).alloc _
  have HX1 : Hid (Box w1 w.heap.size 39 (resC 0 0 0 none 0 0)) := by rw [hw1]; exact Box.new _ _ _
  have HC : Hid (∀ w1, Kept No w w1 → Calls Try.prog 80 #[u] w1 (DoneOut w1 err sn sc zs b)) := hcall
  have HS : Hid (w1.heap.size = w.heap.size + 1) := by show _ = _; rw [hw1]; simp
  have c9 : w1.cell? ⟨m, 9, none⟩ = some (.iface t v) := (hM.no HK1.out).box.cell 9
  rw [hw1] at c9
  unfold resC at c9
  clear hM hcall
  go_enter Try.func62, Try.ntmps62
  go_wp2_with (first
    | (go_at_call 80
       (try unfold resC at hw1)
       rw [← hw1]
       refine Calls.mono (HC.out w1 HK1.out) ?_
       rintro e w3 ⟨da, dc, rfl, hO, hk⟩
       have HX3 : Hid (Box w3 w.heap.size 39 (resC 0 0 0 none 0 0)) := HX1.out.kept hk (fun e => e)
       have HK3 : Hid (Kept No w w3) := HK1.out.then hk
       have HO3 : Hid (OwnB w3 w1.heap.size da dc zs) := hO
       clear hO hk hw1 c9)
    | (refine wpList_store_row rfl 39 _ _ rfl w.heap.size (resC err sn sc da zs.length dc) rfl rfl 39 (resC 0 0 0 none 0 0) HX3.out Try.size39 rfl (resC_one _ _ _ _ _ _) ?_
       have HF : Hid (Box (w3.setRow w.heap.size (resC err sn sc da zs.length dc)) w.heap.size 39 (resC err sn sc da zs.length dc)) := HX3.out.setRow _
       have HKf : Hid (Kept No w (w3.setRow w.heap.size (resC err sn sc da zs.length dc))) := HK3.out.trans (Kept.setRow _ _ _) (fun _ e => e) (fun i hi e => by have : i = w.heap.size := e; omega)
       have HOf : Hid (OwnB (w3.setRow w.heap.size (resC err sn sc da zs.length dc)) w.heap.size da dc zs) := Own.lower (HO3.out.kept (Kept.setRow _ _ _) (fun k hk e => by have : k = w.heap.size := e; have := HO3.out.base hk; have := HS.out; omega)) HK1.out.size
       generalize w3.setRow w.heap.size (resC err sn sc da zs.length dc) = w4 at HF HKf HOf ⊢
       clear HX3 HK3 HO3))
  refine bodyPost_ret (results_row_tmp (by rfl) _ _ w.heap.size (resC err sn sc da zs.length dc) (by rfl) (load90_run HF.out rfl)) rfl ?_
  exact ⟨da, dc, rfl, HOf.out, HKf.out⟩

theorem doneA_any (m : Nat) (a : Option Addr) (cap : Nat) (x : MS) (a1 a2 : Value) (w : World) (hM : Mach w m a cap x 150 (.agg #[a1, a2])) :
    Calls Try.prog 62 #[.pointer (some ⟨m, 0, none⟩)] w (DoneOut w 0 0 0 [] false) :=
  done_gen92 m a cap x 150 _ (.agg #[]) 0 0 0 [] false w hM (meth_doneA a1 a2) (fun w1 _ => done0_any w1)
set_option maxRecDepth 100000 in
theorem round_any (m : Nat) (a : Option Addr) (cap : Nat) (x : MS) (t : TypeId) (v : Value) (w : World) (hM : Mach w m a cap x t v) :
    Calls Try.prog 63 #[.pointer (some ⟨m, 0, none⟩)] w (fun e w' => e = .returned (.int .i64 x.rd) ∧ w' = w) := by
  have c8 := hM.box.cell 8
  simp only [mC, List.getElem?_toArray, List.getElem?_cons_zero, List.getElem?_cons_succ] at c8
  clear hM
  go_enter Try.func63, Try.ntmps63
  go_wp2
  go_ret
  exact ⟨rfl, rfl⟩

end Go.Proofs.Ytgiokkcdgoloaab
