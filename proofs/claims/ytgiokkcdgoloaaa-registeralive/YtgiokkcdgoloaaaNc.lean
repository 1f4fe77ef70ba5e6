import Derived.Test.YtgiokkcdgoloaaaMg
import Derived.ProofKit
import Derived.OpenShut
import Derived.ShutString
import Derived.ChangeOld
import Derived.SizedLaws
import Derived.Deep.Slices
import Derived.Laws.StructEq
namespace Go.Proofs.Ytgiokkcdgoloaaa
open Go.RowKit
set_option linter.unusedVariables false
set_option linter.unusedSimpArgs false
def BeginOut (w : World) (m : Nat) (a : Option Addr) (cap : Nat) (x : MS) (ai : TypeId) (av : Value) (e : Ending) (w' : World) : Prop :=
  ∃ a' cap' qs tb bb at' ct, e = .returned (.slice a' qs.length cap') ∧ qs.map Qm.sv = x.g ∧ Msgs w' w.heap.size a' cap' x ⟨1, 0, 0, 0⟩ [] qs ∧ Mach w' m a cap x 182 (.agg #[.iface ai av, .pointer (some ⟨tb, 0, none⟩)]) ∧ Tal 185 ansB w' tb bb at' ct (tNew Bk x.g (needI x)) ∧ (∀ k, TB tb bb at' k → w.heap.size ≤ k) ∧ Kept (Only m) w w'
set_option maxRecDepth 100000 in
set_option maxHeartbeats 4000000 in
theorem begin0_any (m : Nat) (a : Option Addr) (cap : Nat) (x : MS) (t : TypeId) (v : Value) (ai : TypeId) (av : Value) (w : World) (hM : Mach w m a cap x t v) (hr0 : 1 ≤ x.rd) (hr1 : x.rd ≤ 1099511627776) (hl : x.g.length ≤ 400000000000) :
    Calls Try.prog 95 #[.agg #[.iface ai av], .pointer (some ⟨m, 0, none⟩)] w (BeginOut w m a cap x ai av) := by
  obtain ⟨w1, hw1⟩ : ∃ w1, w1 = w.alloc (.cells #[.iface ai av] 138) := ⟨_, rfl⟩
  have HK1 : Hid (Kept No w w1) := by rw [hw1]; exact (Kept.refl No w).alloc _
  obtain ⟨N, hN⟩ : ∃ N, N = w.heap.size := ⟨_, rfl⟩
  have HX1 : Hid (∀ wr, Kept No w1 wr → wr.cell? ⟨N, 0, none⟩ = some (.iface ai av)) := fun wr hk => by
    have hX : Box w1 w.heap.size 138 #[.iface ai av] := by rw [hw1]; exact Box.new _ _ _
    have hX := hX.kept hk (fun e => e)
    rw [hN]
    exact hX.cell 0
  have HM : Hid (∀ wr, Kept No w1 wr → Mach wr m a cap x t v) := fun wr hk => hM.no (HK1.out.then hk)
  have HL : Hid (x.g.length ≤ 400000000000) := hl
  have HNd : Hid x.g.Nodup := hM.nd
  have HMl : Hid (m < w.heap.size) := hM.box.lt
  have HMc : Hid (∀ wr, Kept No w1 wr → wr.cell? ⟨m, 7, none⟩ = some (.slice a x.g.length cap) ∧ wr.cell? ⟨m, 8, none⟩ = some (.int .i64 x.rd)) := fun wr hk => by
    have hB := (HM.out wr hk).box
    exact ⟨hB.cell 7, hB.cell 8⟩
  obtain ⟨c7, c8⟩ := HMc.out w1 (Kept.refl _ _)
  have x0 := HX1.out w1 (Kept.refl _ _)
  obtain ⟨r, hr⟩ : ∃ r, r = x.rd := ⟨_, rfl⟩
  have HR : Hid (r = x.rd) := hr
  rw [← hr] at c8 hr0 hr1
  rw [hw1] at c7 c8
  have h0 : ¬ (r < 1) := by omega
  have h1 : ¬ (r > 1099511627776) := by omega
  clear hM hl hr
  go_enter Try.func95, Try.ntmps95
  go_upto_region 3 with fail
  rw [← hw1, ← hN]
  rw [← hw1] at c7 c8
  have HNN : Hid (N = w.heap.size) := hN
  clear hw1 hN
  have HKr : Hid (Kept No w1 w1.drew) := (Kept.refl No w1).drew
  go_region_held3 (fun w' => w'.cell? ⟨N, 0, none⟩ = some (.iface ai av) ∧ w'.cell? ⟨m, 7, none⟩ = some (.slice a x.g.length cap)) (go_keep) (first
    | (go_at_call 99
       refine Calls.mono (need_any m a cap x t v w1.drew (HM.out _ HKr.out)) ?_
       rintro e w2 ⟨rfl, rfl⟩)
    | (go_at_call 98
       refine Calls.mono (new_anyB a x.g.length cap x.g (needI x) w1.drew rfl (by have := HL.out; omega) ((HM.out _ HKr.out).row.nums rfl)) ?_
       rintro e w2 ⟨at', ct, rfl, hT2, hf2, hk2⟩
       have hf2' : ∀ k, TB (w1.drew.heap.size + 1) w1.drew.heap.size at' k → w1.drew.heap.size ≤ k := by
         rintro k (rfl | rfl | hk)
         · omega
         · omega
         · exact hf2 k hk
       clear hf2
       have hsz : w1.drew.heap.size = w1.heap.size := rfl
       generalize w1.drew.heap.size + 1 = tb at hT2 hf2' ⊢
       generalize w1.drew.heap.size = bb at hT2 hf2' hsz ⊢
       have HT2 : Hid (Tal 185 ansB w2 tb bb at' ct (tNew Bk x.g (needI x))) := hT2
       have HF2 : Hid (∀ k, TB tb bb at' k → w1.heap.size ≤ k) := by rw [← hsz]; exact hf2'
       have HK2 : Hid (Kept No w1 w2) := HKr.out.then hk2
       have y0 := HX1.out w2 HK2.out
       obtain ⟨d7, d8⟩ := HMc.out w2 HK2.out
       clear hT2 hf2' hk2 hsz d8)
    | (go_at_call 96
       refine Calls.mono (enterA_any m a cap x t v ai av tb bb ct at' (tNew Bk x.g (needI x)) w2 (HM.out _ HK2.out) HT2.out (by show (uq x.g).length ≤ _; have := uq_len x.g; have := HL.out; omega) (fun e => by have := HF2.out m e; have := HMl.out; have := HK1.out.size; omega)) ?_
       rw [missL_new, uq_self HNd.out]
       rintro e w3 ⟨a3, c3, qs, rfl, hq, hm3, hM3, hk3⟩
       have HQ : Hid (qs.map Qm.sv = x.g) := hq
       have HQ3 : Hid (Msgs w3 w.heap.size a3 c3 x ⟨1, 0, 0, 0⟩ [] qs) := hm3.lower (HK1.out.then HK2.out).size
       have HM3 : Hid (Mach w3 m a cap x 182 (.agg #[.iface ai av, .pointer (some ⟨tb, 0, none⟩)])) := hM3
       have HT3 : Hid (Tal 185 ansB w3 tb bb at' ct (tNew Bk x.g (needI x))) := HT2.out.kept hk3 (fun k hk e => by have := HF2.out k hk; have := HMl.out; have := HK1.out.size; have : k = m := e; omega)
       have HK3 : Hid (Kept (Only m) w w3) := (HK1.out.then HK2.out).of_no.then hk3
       have z0 : w3.cell? ⟨N, 0, none⟩ = some (.iface ai av) := hk3.cell y0 (fun e => by have : N = m := e; have := HNN.out; have := HMl.out; omega)
       have z7 : w3.cell? ⟨m, 7, none⟩ = some (.slice a x.g.length cap) := hM3.box.cell 7
       clear hq hm3 hM3 hk3))
  go_wp2
  go_ret
  exact ⟨a3, c3, qs, tb, bb, at', ct, rfl, HQ.out, HQ3.out, HM3.out, HT3.out, fun k hk => Nat.le_trans HK1.out.size (HF2.out k hk), HK3.out⟩
theorem meth_begin0 (a1 : Value) (w : World) : (method 311 138 (.agg #[a1]) "cairn/register.begin").run Try.prog w = .ok (95, .agg #[a1]) w := by kernel_rfl
theorem meth_doneA (a1 a2 : Value) (w : World) : (method 311 182 (.agg #[a1, a2]) "cairn/register.done").run Try.prog w = .ok (92, .agg #[]) w := by kernel_rfl
theorem meth_Begin (p : Option Addr) (w : World) : (method 311 115 (.pointer p) "Begin").run Try.prog w = .ok (82, .pointer p) w := by kernel_rfl
theorem meth_Done (p : Option Addr) (w : World) : (method 311 115 (.pointer p) "Done").run Try.prog w = .ok (83, .pointer p) w := by kernel_rfl
theorem meth_Round (p : Option Addr) (w : World) : (method 311 115 (.pointer p) "Round").run Try.prog w = .ok (84, .pointer p) w := by kernel_rfl
set_option maxRecDepth 100000 in
set_option maxHeartbeats 2000000 in
theorem begin_any (m : Nat) (a : Option Addr) (cap : Nat) (x : MS) (ai : TypeId) (av : Value) (w : World) (hM : Mach w m a cap x 138 (.agg #[.iface ai av])) (hr0 : 1 ≤ x.rd) (hr1 : x.rd ≤ 1099511627776) (hl : x.g.length ≤ 400000000000) :
    Calls Try.prog 82 #[.pointer (some ⟨m, 0, none⟩)] w (BeginOut w m a cap x ai av) := by
  have HM : Hid (Mach w m a cap x 138 (.agg #[.iface ai av])) := hM
  have c9 := hM.box.cell 9
  simp only [mC, List.getElem?_toArray, List.getElem?_cons_zero, List.getElem?_cons_succ] at c9
  have HR : Hid (1 ≤ x.rd ∧ x.rd ≤ 1099511627776) := ⟨hr0, hr1⟩
  have HL : Hid (x.g.length ≤ 400000000000) := hl
  clear hM hr0 hr1 hl
  have hm := meth_begin0
  go_enter Try.func82, Try.ntmps82
  go_wp2_with (go_at_call 95
               refine Calls.mono (begin0_any m a cap x _ _ ai av w HM.out HR.out.1 HR.out.2 HL.out) ?_
               rintro e w3 ⟨a3, c3, qs, tb, bb, at', ct, rfl, hO⟩
               have HO : Hid _ := hO
               clear hO)
  go_ret
  exact ⟨a3, c3, qs, tb, bb, at', ct, rfl, HO.out⟩
end Go.Proofs.Ytgiokkcdgoloaaa
namespace Go.Proofs.Ytgiokkcdgoloaaa
open Go.RowKit
set_option linter.unusedVariables false
set_option linter.unusedSimpArgs false
theorem results_row_tmp {fn : Func} {p u : Tmp} {t : TypeId} (h : fn.results = #[.cell p t, .tmp u]) (tmps : Array Value) (w : World) (g : Nat) (cs : Array Value) (hp : tmps.getD p undef = .pointer (some ⟨g, 0, none⟩)) (hrun : (loadVar t ⟨g, 0, none⟩).run Try.prog w = .ok (.agg cs) w) :
    (results fn tmps).run Try.prog w = .ok (.tuple #[.agg cs, tmps.getD u undef]) w := by
  rw [results_cell_tmp h, hp]
  simp [asAddr, hrun, Result.andThen]
theorem Try.size90 : (Try.prog.info? 90).map (·.size) = some 11 := by kernel_rfl
theorem Try.size57 : (Try.prog.info? 57).map (·.size) = some 3 := by kernel_rfl
theorem load90_run {w : World} {g : Nat} {cs : Array Value} (hb : Box w g 90 cs) (hl : cs.size = 11) : (loadVar 90 ⟨g, 0, none⟩).run Try.prog w = .ok (.agg cs) w :=
  run_loadVar_row w g 90 90 cs (0, 0) _ hb Try.underlying90 rfl (by rw [hl]; exact Try.size90)
theorem load57_run {w : World} {g : Nat} {cs : Array Value} (hb : Box w g 57 cs) (hl : cs.size = 3) : (loadVar 57 ⟨g, 0, none⟩).run Try.prog w = .ok (.agg cs) w :=
  run_loadVar_row w g 57 57 cs (0, 0) _ hb Try.underlying57 rfl (by rw [hl]; exact Try.size57)
theorem Box.setRow {w : World} {g : Nat} {t : TypeId} {old : Array Value} (h : Box w g t old) (cs : Array Value) : Box (w.setRow g cs) g t cs := setRow_heap w g old cs t (0, 0) h
theorem Kept.setRow (w : World) (g : Nat) (cs : Array Value) : Kept (Only g) w (w.setRow g cs) :=
  ⟨rfl, rfl, rfl, by simp [World.setRow], fun k _ hk => setRow_other w g k cs hk⟩
def resC (err sn sc : Int) (da : Option Addr) (dl dc : Nat) : Array Value := #[.int .i64 err, .string ⟨#[]⟩, .int .i64 0, .int .i64 0, .int .i64 0, .slice none 0 0, .slice da dl dc, .int .i64 0, .int .i64 sn, .int .i64 sc, .int .i64 0]
theorem resC_one (err sn sc : Int) (da : Option Addr) (dl dc : Nat) : (resC err sn sc da dl dc).all (·.oneCell') = true := by simp [resC, Value.oneCell']
def DoneOut (w : World) (err sn sc : Int) (zs : List Int) (b : Bool) (e : Ending) (w' : World) : Prop :=
  ∃ da dc, e = .returned (.tuple #[.agg (resC err sn sc da zs.length dc), .bool b]) ∧ OwnB w' w.heap.size da dc zs ∧ Kept No w w'
set_option maxRecDepth 100000 in
set_option maxHeartbeats 2000000 in
theorem done0_any (w : World) : Calls Try.prog 92 #[.agg #[]] w (DoneOut w 0 0 0 [] false) := by
  have HF : Hid (Box ((w.alloc (.cells #[] 136)).alloc (.cells (resC 0 0 0 none 0 0) 90)) (w.heap.size + 1) 90 (resC 0 0 0 none 0 0)) := by
    have := Box.new (w.alloc (.cells #[] 136)) 90 (resC 0 0 0 none 0 0)
    have e : (w.alloc (.cells #[] 136)).heap.size = w.heap.size + 1 := by simp
    rw [e] at this
    exact this
  go_enter Try.func92, Try.ntmps92
  go_wp2
  refine bodyPost_ret (results_row_tmp (by rfl) _ _ (w.heap.size + 1) (resC 0 0 0 none 0 0) (by rfl) (load90_run HF.out rfl)) rfl ?_
  exact ⟨none, 0, rfl, Own.nil _ _ _ _, (((Kept.refl No w).alloc _).alloc _)⟩
set_option maxRecDepth 100000 in
set_option maxHeartbeats 2000000 in
theorem done_gen92 (m : Nat) (a : Option Addr) (cap : Nat) (x : MS) (t : TypeId) (v u : Value) (err sn sc : Int) (zs : List Int) (b : Bool) (w : World) (hM : Mach w m a cap x t v)
    (hm : ∀ w, (method 311 t v "cairn/register.done").run Try.prog w = .ok (92, u) w)
    (hcall : ∀ w1, Kept No w w1 → Calls Try.prog 92 #[u] w1 (DoneOut w1 err sn sc zs b)) :
    Calls Try.prog 83 #[.pointer (some ⟨m, 0, none⟩)] w (DoneOut w err sn sc zs b) := by
  obtain ⟨w1, hw1⟩ : ∃ w1, w1 = w.alloc (.cells (resC 0 0 0 none 0 0) 90) := ⟨_, rfl⟩
  have HK1 : Hid (Kept No w w1) := by rw [hw1]; exact (Kept.refl No w).alloc _
  have HX1 : Hid (Box w1 w.heap.size 90 (resC 0 0 0 none 0 0)) := by rw [hw1]; exact Box.new _ _ _
  have HC : Hid (∀ w1, Kept No w w1 → Calls Try.prog 92 #[u] w1 (DoneOut w1 err sn sc zs b)) := hcall
  have HS : Hid (w1.heap.size = w.heap.size + 1) := by show _ = _; rw [hw1]; simp
  have c9 : w1.cell? ⟨m, 9, none⟩ = some (.iface t v) := (hM.no HK1.out).box.cell 9
  rw [hw1] at c9
  unfold resC at c9
  clear hM hcall
  go_enter Try.func83, Try.ntmps83
  go_wp2_with (first
    | (go_at_call 92
       (try unfold resC at hw1)
       rw [← hw1]
       refine Calls.mono (HC.out w1 HK1.out) ?_
       rintro e w3 ⟨da, dc, rfl, hO, hk⟩
       have HX3 : Hid (Box w3 w.heap.size 90 (resC 0 0 0 none 0 0)) := HX1.out.kept hk (fun e => e)
       have HK3 : Hid (Kept No w w3) := HK1.out.then hk
       have HO3 : Hid (OwnB w3 w1.heap.size da dc zs) := hO
       clear hO hk hw1 c9)
    | (refine wpList_store_row rfl 90 _ _ rfl w.heap.size (resC err sn sc da zs.length dc) rfl rfl 90 (resC 0 0 0 none 0 0) HX3.out Try.size90 rfl (resC_one _ _ _ _ _ _) ?_
       have HF : Hid (Box (w3.setRow w.heap.size (resC err sn sc da zs.length dc)) w.heap.size 90 (resC err sn sc da zs.length dc)) := HX3.out.setRow _
       have HKf : Hid (Kept No w (w3.setRow w.heap.size (resC err sn sc da zs.length dc))) := HK3.out.trans (Kept.setRow _ _ _) (fun _ e => e) (fun i hi e => by have : i = w.heap.size := e; omega)
       have HOf : Hid (OwnB (w3.setRow w.heap.size (resC err sn sc da zs.length dc)) w.heap.size da dc zs) := Own.lower (HO3.out.kept (Kept.setRow _ _ _) (fun k hk e => by have : k = w.heap.size := e; have := HO3.out.base hk; have := HS.out; omega)) HK1.out.size
       generalize w3.setRow w.heap.size (resC err sn sc da zs.length dc) = w4 at HF HKf HOf ⊢
       clear HX3 HK3 HO3))
  refine bodyPost_ret (results_row_tmp (by rfl) _ _ w.heap.size (resC err sn sc da zs.length dc) (by rfl) (load90_run HF.out rfl)) rfl ?_
  exact ⟨da, dc, rfl, HOf.out, HKf.out⟩
set_option maxRecDepth 100000 in
set_option maxHeartbeats 2000000 in
theorem done_gen101 (m : Nat) (a : Option Addr) (cap : Nat) (x : MS) (t : TypeId) (v u : Value) (err sn sc : Int) (zs : List Int) (b : Bool) (w : World) (hM : Mach w m a cap x t v)
    (hm : ∀ w, (method 311 t v "cairn/register.done").run Try.prog w = .ok (101, u) w)
    (hcall : ∀ w1, Kept No w w1 → Calls Try.prog 101 #[u] w1 (DoneOut w1 err sn sc zs b)) :
    Calls Try.prog 83 #[.pointer (some ⟨m, 0, none⟩)] w (DoneOut w err sn sc zs b) := by
  obtain ⟨w1, hw1⟩ : ∃ w1, w1 = w.alloc (.cells (resC 0 0 0 none 0 0) 90) := ⟨_, rfl⟩
  have HK1 : Hid (Kept No w w1) := by rw [hw1]; exact (Kept.refl No w).alloc _
  have HX1 : Hid (Box w1 w.heap.size 90 (resC 0 0 0 none 0 0)) := by rw [hw1]; exact Box.new _ _ _
  have HC : Hid (∀ w1, Kept No w w1 → Calls Try.prog 101 #[u] w1 (DoneOut w1 err sn sc zs b)) := hcall
  have HS : Hid (w1.heap.size = w.heap.size + 1) := by show _ = _; rw [hw1]; simp
  have c9 : w1.cell? ⟨m, 9, none⟩ = some (.iface t v) := (hM.no HK1.out).box.cell 9
  rw [hw1] at c9
  unfold resC at c9
  clear hM hcall
  go_enter Try.func83, Try.ntmps83
  go_wp2_with (first
    | (go_at_call 101
       (try unfold resC at hw1)
       rw [← hw1]
       refine Calls.mono (HC.out w1 HK1.out) ?_
       rintro e w3 ⟨da, dc, rfl, hO, hk⟩
       have HX3 : Hid (Box w3 w.heap.size 90 (resC 0 0 0 none 0 0)) := HX1.out.kept hk (fun e => e)
       have HK3 : Hid (Kept No w w3) := HK1.out.then hk
       have HO3 : Hid (OwnB w3 w1.heap.size da dc zs) := hO
       clear hO hk hw1 c9)
    | (refine wpList_store_row rfl 90 _ _ rfl w.heap.size (resC err sn sc da zs.length dc) rfl rfl 90 (resC 0 0 0 none 0 0) HX3.out Try.size90 rfl (resC_one _ _ _ _ _ _) ?_
       have HF : Hid (Box (w3.setRow w.heap.size (resC err sn sc da zs.length dc)) w.heap.size 90 (resC err sn sc da zs.length dc)) := HX3.out.setRow _
       have HKf : Hid (Kept No w (w3.setRow w.heap.size (resC err sn sc da zs.length dc))) := HK3.out.trans (Kept.setRow _ _ _) (fun _ e => e) (fun i hi e => by have : i = w.heap.size := e; omega)
       have HOf : Hid (OwnB (w3.setRow w.heap.size (resC err sn sc da zs.length dc)) w.heap.size da dc zs) := Own.lower (HO3.out.kept (Kept.setRow _ _ _) (fun k hk e => by have : k = w.heap.size := e; have := HO3.out.base hk; have := HS.out; omega)) HK1.out.size
       generalize w3.setRow w.heap.size (resC err sn sc da zs.length dc) = w4 at HF HKf HOf ⊢
       clear HX3 HK3 HO3))
  refine bodyPost_ret (results_row_tmp (by rfl) _ _ w.heap.size (resC err sn sc da zs.length dc) (by rfl) (load90_run HF.out rfl)) rfl ?_
  exact ⟨da, dc, rfl, HOf.out, HKf.out⟩
theorem doneA_any (m : Nat) (a : Option Addr) (cap : Nat) (x : MS) (a1 a2 : Value) (w : World) (hM : Mach w m a cap x 182 (.agg #[a1, a2])) :
    Calls Try.prog 83 #[.pointer (some ⟨m, 0, none⟩)] w (DoneOut w 0 0 0 [] false) :=
  done_gen92 m a cap x 182 _ (.agg #[]) 0 0 0 [] false w hM (meth_doneA a1 a2) (fun w1 _ => done0_any w1)
set_option maxRecDepth 100000 in
theorem round_any (m : Nat) (a : Option Addr) (cap : Nat) (x : MS) (t : TypeId) (v : Value) (w : World) (hM : Mach w m a cap x t v) :
    Calls Try.prog 84 #[.pointer (some ⟨m, 0, none⟩)] w (fun e w' => e = .returned (.int .i64 x.rd) ∧ w' = w) := by
  have c8 := hM.box.cell 8
  simp only [mC, List.getElem?_toArray, List.getElem?_cons_zero, List.getElem?_cons_succ] at c8
  clear hM
  go_enter Try.func84, Try.ntmps84
  go_wp2
  go_ret
  exact ⟨rfl, rfl⟩
end Go.Proofs.Ytgiokkcdgoloaaa
namespace Go.Proofs.Ytgiokkcdgoloaaa
open Go.RowKit
set_option linter.unusedVariables false
set_option linter.unusedSimpArgs false
theorem two_qs {qs : List Qm} (h : qs.map Qm.sv = [5, 6]) : ∃ q0 q1, qs = [q0, q1] ∧ q1.sv = 6 := by
  rcases qs with _ | ⟨q0, _ | ⟨q1, _ | ⟨q2, l⟩⟩⟩
  · simp at h
  · simp at h
  · simp at h; exact ⟨q0, q1, rfl, h.2⟩
  · simp at h
theorem row_cell {t : TypeId} {c : Nat} {w : World} {base : Nat} {a : Option Addr} {cap n : Nat} {vs : List Value} (h : Own t c w base a cap n vs) (hl : vs.length = n * c) (hn : 0 < n) : ∃ g, a = some ⟨g, 0, none⟩ ∧ ∀ i, i < vs.length → w.cell? ⟨g, i, none⟩ = vs[i]? := by
  rcases h.cases hl with ⟨_, _, h0⟩ | ⟨g, rfl, _, _, sp, hg, _⟩
  · omega
  · refine ⟨g, rfl, fun i hi => ?_⟩
    rw [cell_of_row w g i _ t (0, 0) hg]
    simp [List.getElem?_append_left, hi]
set_option maxRecDepth 100000 in
set_option maxHeartbeats 4000000 in
theorem head_any (w : World) : Calls Try.prog 9 #[] w (fun e w' => e = .returned (.bool true) ∧ Kept No w w') := by
  have qe : ∀ (w : World) (p : Option Addr), (binOp .eql 31 (.iface 115 (.pointer p)) .nilIface).run Try.prog w = .ok (.bool false) w := fun w p => by kernel_rfl
  have m1 := meth_Begin
  have m2 := meth_Done
  have m3 := meth_Round
  obtain ⟨w1, hw1⟩ : ∃ w1, w1 = (w.alloc (.cells #[.int .i64 5, .int .i64 6] 3)).alloc (.cells #[.int .u8 7] 5) := ⟨_, rfl⟩
  have HK1 : Hid (Kept No w w1) := by rw [hw1]; exact ((Kept.refl No w).alloc _).alloc _
  have HB1 : Hid (Nums .i64 w1 (some ⟨w.heap.size, 0, none⟩) [5, 6]) := by
    rw [hw1]
    exact ((Box.new w 3 (([5, 6] : List Int).map (Value.int .i64)).toArray).alloc _).nums 2
  have HB2 : Hid (Bytes w1 (some ⟨w.heap.size + 1, 0, none⟩) [7]) := by
    have e : (w.alloc (.cells #[.int .i64 5, .int .i64 6] 3)).heap.size = w.heap.size + 1 := by simp
    have := (Box.new (w.alloc (.cells #[.int .i64 5, .int .i64 6] 3)) 5 (([7] : List Int).map (Value.int .u8)).toArray).nums 1
    rw [e] at this
    rw [hw1]
    exact this
  go_enter Try.func9, Try.ntmps9
  go_wp2_with (first
    | (go_at_call 23
       rw [← hw1]
       refine Calls.mono (write_any 3 1 1 3 1 0 9 _ 2 2 [5, 6] _ 1 1 [7] w1 rfl (by omega) HB1.out rfl (by omega) HB2.out) ?_
       rintro e w2 ⟨m, a, cap, da, dc, rfl, hM, hO, hf, _, hk⟩
       have HM2 : Hid (Mach w2 m a cap ⟨3, 1, 1, 3, 1, 0, [5, 6], 9⟩ 138 (.agg #[.iface 118 (.agg #[.int .i64 3, .slice da ([7] : List Int).length dc])])) := hM
       have HF2 : Hid (w.heap.size ≤ m) := Nat.le_trans HK1.out.size (hf m (.inl rfl))
       have HK2 : Hid (Kept No w w2) := HK1.out.then hk
       clear hM hO hf hk hw1)
    | (go_at_call 82
       refine Calls.mono (begin_any m a cap _ _ _ w2 HM2.out (by decide) (by decide) (by decide)) ?_
       rintro e w3 ⟨a3, c3, qs, tb, bb, at', ct, rfl, hq, hQ, hM3, hT3, hf3, hk3⟩
       obtain ⟨q0, q1, rfl, h6⟩ := two_qs hq
       have HM3 : Hid _ := hM3
       have HK3 : Hid (Kept No w w3) := HK2.out.trans hk3 (fun _ e => e) (fun i hi e => by have : i = m := e; have := HF2.out; omega)
       have HR3 : Hid (∃ g, a3 = some ⟨g, 0, none⟩ ∧ ∀ wr, Kept No w3 wr → wr.cell? ⟨g, 34, none⟩ = some (.int .i64 6) ∧ wr.cell? ⟨g, 36, none⟩ = some (.int .i64 9)) := by
         obtain ⟨g, hg, hc⟩ := row_cell hQ.row (msgsC_len _ _ _) (by simp)
         refine ⟨g, hg, fun wr hk => ⟨?_, ?_⟩⟩
         · refine hk.cell ?_ (fun e => e)
           rw [hc 34 (by rw [msgsC_len]; simp)]
           show some (Value.int .i64 q1.sv) = _
           rw [h6]
         · refine hk.cell ?_ (fun e => e)
           rw [hc 36 (by rw [msgsC_len]; simp)]
           rfl
       obtain ⟨g, rfl, hcl⟩ := HR3.out
       have HCl : Hid _ := hcl
       simp only [List.length_cons, List.length_nil]
       clear hq hQ hM3 hT3 hf3 hk3 h6 HR3 hcl)
    | (go_at_call 83
       refine Calls.mono (doneA_any m a cap _ _ _ w3 HM3.out) ?_
       rintro e w4 ⟨da4, dc4, rfl, _, hk4⟩
       have HM4 : Hid _ := HM3.out.no hk4
       have HK4 : Hid (Kept No w w4) := HK3.out.then hk4
       obtain ⟨i34, i36⟩ := HCl.out (w4.alloc (.cells (resC 0 0 0 da4 0 dc4) 90)) (hk4.alloc _)
       have HM5 : Hid _ := HM4.out.no ((Kept.refl No w4).alloc (.cells (resC 0 0 0 da4 0 dc4) 90))
       have HK5 : Hid (Kept No w (w4.alloc (.cells (resC 0 0 0 da4 0 dc4) 90))) := HK4.out.alloc _
       simp only [resC, List.length_nil] at i34 i36 HM5 HK5 ⊢
       clear hk4)
    | (go_at_call 84
       refine Calls.mono (round_any m a cap _ _ _ _ HM5.out) ?_
       rintro e w6 ⟨rfl, rfl⟩))
  go_ret
  exact ⟨rfl, HK5.out⟩
end Go.Proofs.Ytgiokkcdgoloaaa
namespace Go.Proofs.Ytgiokkcdgoloaaa
open Go.RowKit
set_option linter.unusedVariables false
set_option linter.unusedSimpArgs false
def NewerOut (w : World) (n c : Int) (zs : List Int) (b : Bool) (e : Ending) (w' : World) : Prop :=
  ∃ a' cap', e = .returned (.tuple #[.agg #[.int .i64 n, .int .i64 c, .slice a' zs.length cap'], .bool b]) ∧ OwnB w' w.heap.size a' cap' zs ∧ Kept No w w'
theorem set3 {w : World} {g : Nat} {t : TypeId} {u0 u1 u2 : Value} (h : Box w g t #[u0, u1, u2]) (v0 v1 v2 : Value) :
    Box (((w.setCell ⟨g, 0, none⟩ v0).setCell ⟨g, 1, none⟩ v1).setCell ⟨g, 2, none⟩ v2) g t #[v0, v1, v2] ∧ Kept (Only g) w (((w.setCell ⟨g, 0, none⟩ v0).setCell ⟨g, 1, none⟩ v1).setCell ⟨g, 2, none⟩ v2) :=
  ⟨((h.set 0 v0).set 1 v1).set 2 v2, (((Kept.refl (Only g) w).setCell (p := ⟨g, 0, none⟩) (fun _ => rfl) _).setCell (p := ⟨g, 1, none⟩) (fun _ => rfl) _).setCell (p := ⟨g, 2, none⟩) (fun _ => rfl) _⟩
set_option maxRecDepth 100000 in
set_option maxHeartbeats 4000000 in
theorem newerYes_any (hn hc : Int) (ha : Option Addr) (hl hk : Nat) (sn sc : Int) (da : Option Addr) (dl dk : Nat) (dz : List Int) (w : World) (hd : dz.length = dl) (hdl : dl ≤ 140737488355328) (hdb : Bytes w da dz) (hL : lessB hn hc sn sc = true) :
    Calls Try.prog 14 #[.agg #[.int .i64 hn, .int .i64 hc, .slice ha hl hk], .agg #[.int .i64 sn, .int .i64 sc], .slice da dl dk] w (NewerOut w sn sc dz true) := by
  have HD : Hid (dz.length = dl) := hd
  have HDB : Hid (Bytes w da dz) := hdb
  have HL : Hid (lessB hn hc sn sc = true) := hL
  clear hd hdb hL
  obtain ⟨w1, hw1⟩ : ∃ w1, w1 = ((w.alloc (.cells #[.int .i64 hn, .int .i64 hc, .slice ha hl hk] 57)).alloc (.cells #[.int .i64 sn, .int .i64 sc] 41)).alloc (.cells #[.int .i64 0, .int .i64 0, .slice none 0 0] 57) := ⟨_, rfl⟩
  obtain ⟨N, hN⟩ : ∃ N, N = w.heap.size := ⟨_, rfl⟩
  have HNN : Hid (N = w.heap.size) := hN
  have HK1 : Hid (Kept No w w1) := by rw [hw1]; exact (((Kept.refl No w).alloc _).alloc _).alloc _
  have e1 : (w.alloc (.cells #[.int .i64 hn, .int .i64 hc, .slice ha hl hk] 57)).heap.size = w.heap.size + 1 := by simp
  have e2 : ((w.alloc (.cells #[.int .i64 hn, .int .i64 hc, .slice ha hl hk] 57)).alloc (.cells #[.int .i64 sn, .int .i64 sc] 41)).heap.size = w.heap.size + 1 + 1 := by simp
  have HX1 : Hid (∀ wr, Kept No w1 wr → wr.cell? ⟨N + 1, 0, none⟩ = some (.int .i64 sn) ∧ wr.cell? ⟨N + 1, 1, none⟩ = some (.int .i64 sc)) := fun wr hk' => by
    have hX := Box.new (w.alloc (.cells #[.int .i64 hn, .int .i64 hc, .slice ha hl hk] 57)) 41 #[.int .i64 sn, .int .i64 sc]
    rw [e1] at hX
    have hX := hX.alloc (.cells #[.int .i64 0, .int .i64 0, .slice none 0 0] 57)
    rw [← hw1] at hX
    have hX := hX.kept hk' (fun e => e)
    rw [hN]
    exact ⟨hX.cell 0, hX.cell 1⟩
  have HY1 : Hid (Box w1 (N + 1 + 1) 57 #[.int .i64 0, .int .i64 0, .slice none 0 0]) := by
    have hX := Box.new ((w.alloc (.cells #[.int .i64 hn, .int .i64 hc, .slice ha hl hk] 57)).alloc (.cells #[.int .i64 sn, .int .i64 sc] 41)) 57 #[.int .i64 0, .int .i64 0, .slice none 0 0]
    rw [e2] at hX
    rw [hw1, hN]
    exact hX
  clear e1 e2
  go_enter Try.func14, Try.ntmps14
  go_upto_region 2 with (first
    | (go_at_call 38
       rw [← hw1]
       refine Calls.mono (less_any hn hc sn sc w1) ?_
       rintro e w2 ⟨rfl, hk2⟩
       rw [HL.out]
       have HK2 : Hid (Kept No w1 w2) := hk2
       clear hk2))
  rw [← hN]
  clear hw1 hN
  have HKr : Hid (Kept No w1 w2.drew) := HK2.out.drew
  obtain ⟨x0, x1⟩ := HX1.out w2 HK2.out
  go_region_held3 (fun w' => w'.cell? ⟨N + 1, 0, none⟩ = some (.int .i64 sn) ∧ w'.cell? ⟨N + 1, 1, none⟩ = some (.int .i64 sc)) (go_keep) (first
    | (go_at_call 39
       refine Calls.mono (clone_any da dl dk dz w2.drew HD.out hdl (HDB.out.no (HK1.out.then HKr.out))) ?_
       rintro e w3 ⟨a3, c3, rfl, hO3, hk3, _, _⟩
       have HK3 : Hid (Kept No w1 w3) := HKr.out.then hk3
       have HO3 : Hid (OwnB w3 w2.heap.size a3 c3 dz) := hO3
       obtain ⟨y0, y1⟩ := HX1.out w3 HK3.out
       have HY3 : Hid (Box w3 (N + 1 + 1) 57 #[.int .i64 0, .int .i64 0, .slice none 0 0]) := HY1.out.kept HK3.out (fun e => e)
       have b0 := HY3.out.cell 0
       have b1 := HY3.out.cell 1
       have b2 := HY3.out.cell 2
       have f0 := HY3.out.frozen 0
       have f1 := HY3.out.frozen 1
       have f2 := HY3.out.frozen 2
       simp only [List.getElem?_toArray, List.getElem?_cons_zero, List.getElem?_cons_succ] at b0 b1 b2
       clear hO3 hk3))
  obtain ⟨HF, HKs⟩ := set3 HY3.out (.int .i64 sn) (.int .i64 sc) (.slice a3 dz.length c3)
  have HF : Hid _ := HF
  have HKs : Hid _ := HKs
  generalize (((w3.setCell ⟨N + 1 + 1, 0, none⟩ (.int .i64 sn)).setCell ⟨N + 1 + 1, 1, none⟩ (.int .i64 sc)).setCell ⟨N + 1 + 1, 2, none⟩ (.slice a3 dz.length c3)) = w4 at HF HKs ⊢
  clear b0 b1 b2 f0 f1 f2
  go_wp2
  refine bodyPost_ret (results_row_tmp (by rfl) _ _ (N + 1 + 1) #[.int .i64 sn, .int .i64 sc, .slice a3 dz.length c3] (by rfl) (load57_run HF.out rfl)) rfl ?_
  have hN := HNN.out
  have hs1 := HY1.out.lt
  refine ⟨a3, c3, rfl, Own.lower (HO3.out.kept HKs.out (fun k hk e => ?_)) (HK1.out.then HK2.out).size, (HK1.out.then HK3.out).trans HKs.out (fun _ e => e) (fun i hi e => ?_)⟩
  · have : k = N + 1 + 1 := e
    have := HO3.out.base hk
    have := HK2.out.size
    omega
  · have : i = N + 1 + 1 := e
    omega
set_option maxRecDepth 100000 in
set_option maxHeartbeats 4000000 in
theorem newerNo_any (hn hc : Int) (ha : Option Addr) (hl hk : Nat) (dz : List Int) (sn sc : Int) (da : Option Addr) (dl dk : Nat) (w : World) (hd : dz.length = hl) (hdl : hl ≤ 140737488355328) (hdb : Bytes w ha dz) (hL : lessB hn hc sn sc = false) :
    Calls Try.prog 14 #[.agg #[.int .i64 hn, .int .i64 hc, .slice ha hl hk], .agg #[.int .i64 sn, .int .i64 sc], .slice da dl dk] w (NewerOut w hn hc dz false) := by
  have HD : Hid (dz.length = hl) := hd
  have HDB : Hid (Bytes w ha dz) := hdb
  have HL : Hid (lessB hn hc sn sc = false) := hL
  clear hd hdb hL
  obtain ⟨w1, hw1⟩ : ∃ w1, w1 = ((w.alloc (.cells #[.int .i64 hn, .int .i64 hc, .slice ha hl hk] 57)).alloc (.cells #[.int .i64 sn, .int .i64 sc] 41)).alloc (.cells #[.int .i64 0, .int .i64 0, .slice none 0 0] 57) := ⟨_, rfl⟩
  obtain ⟨N, hN⟩ : ∃ N, N = w.heap.size := ⟨_, rfl⟩
  have HNN : Hid (N = w.heap.size) := hN
  have HK1 : Hid (Kept No w w1) := by rw [hw1]; exact (((Kept.refl No w).alloc _).alloc _).alloc _
  have e1 : (w.alloc (.cells #[.int .i64 hn, .int .i64 hc, .slice ha hl hk] 57)).heap.size = w.heap.size + 1 := by simp
  have e2 : ((w.alloc (.cells #[.int .i64 hn, .int .i64 hc, .slice ha hl hk] 57)).alloc (.cells #[.int .i64 sn, .int .i64 sc] 41)).heap.size = w.heap.size + 1 + 1 := by simp
  have HX1 : Hid (∀ wr, Kept No w1 wr → wr.cell? ⟨N, 0, none⟩ = some (.int .i64 hn) ∧ wr.cell? ⟨N, 1, none⟩ = some (.int .i64 hc) ∧ wr.cell? ⟨N, 2, none⟩ = some (.slice ha hl hk)) := fun wr hk' => by
    have hX := Box.new w 57 #[.int .i64 hn, .int .i64 hc, .slice ha hl hk]
    have hX := (hX.alloc (.cells #[.int .i64 sn, .int .i64 sc] 41)).alloc (.cells #[.int .i64 0, .int .i64 0, .slice none 0 0] 57)
    rw [← hw1] at hX
    have hX := hX.kept hk' (fun e => e)
    rw [hN]
    exact ⟨hX.cell 0, hX.cell 1, hX.cell 2⟩
  have HY1 : Hid (Box w1 (N + 1 + 1) 57 #[.int .i64 0, .int .i64 0, .slice none 0 0]) := by
    have hX := Box.new ((w.alloc (.cells #[.int .i64 hn, .int .i64 hc, .slice ha hl hk] 57)).alloc (.cells #[.int .i64 sn, .int .i64 sc] 41)) 57 #[.int .i64 0, .int .i64 0, .slice none 0 0]
    rw [e2] at hX
    rw [hw1, hN]
    exact hX
  clear e1 e2
  go_enter Try.func14, Try.ntmps14
  go_upto_region 3 with (first
    | (go_at_call 38
       rw [← hw1]
       refine Calls.mono (less_any hn hc sn sc w1) ?_
       rintro e w2 ⟨rfl, hk2⟩
       rw [HL.out]
       have HK2 : Hid (Kept No w1 w2) := hk2
       clear hk2))
  rw [← hN]
  clear hw1 hN
  have HKr : Hid (Kept No w1 w2.drew) := HK2.out.drew
  obtain ⟨x0, x1, x2⟩ := HX1.out w2 HK2.out
  have nA : N ≠ N + 1 + 1 := by omega
  have nB : N + 1 + 1 ≠ N := by omega
  go_region_held3 (fun w' => w'.cell? ⟨N, 0, none⟩ = some (.int .i64 hn) ∧ w'.cell? ⟨N, 1, none⟩ = some (.int .i64 hc) ∧ w'.cell? ⟨N, 2, none⟩ = some (.slice ha hl hk)) (go_keep) (first
    | (go_at_call 39
       refine Calls.mono (clone_any ha hl hk dz w2.drew HD.out hdl (HDB.out.no (HK1.out.then HKr.out))) ?_
       rintro e w3 ⟨a3, c3, rfl, hO3, hk3, _, _⟩
       have HK3 : Hid (Kept No w1 w3) := HKr.out.then hk3
       have HO3 : Hid (OwnB w3 w2.heap.size a3 c3 dz) := hO3
       obtain ⟨y0, y1, y2⟩ := HX1.out w3 HK3.out
       have HY3 : Hid (Box w3 (N + 1 + 1) 57 #[.int .i64 0, .int .i64 0, .slice none 0 0]) := HY1.out.kept HK3.out (fun e => e)
       have b0 := HY3.out.cell 0
       have b1 := HY3.out.cell 1
       have b2 := HY3.out.cell 2
       have f0 := HY3.out.frozen 0
       have f1 := HY3.out.frozen 1
       have f2 := HY3.out.frozen 2
       simp only [List.getElem?_toArray, List.getElem?_cons_zero, List.getElem?_cons_succ] at b0 b1 b2
       clear hO3 hk3))
  obtain ⟨HF, HKs⟩ := set3 HY3.out (.int .i64 hn) (.int .i64 hc) (.slice a3 dz.length c3)
  have HF : Hid _ := HF
  have HKs : Hid _ := HKs
  generalize (((w3.setCell ⟨N + 1 + 1, 0, none⟩ (.int .i64 hn)).setCell ⟨N + 1 + 1, 1, none⟩ (.int .i64 hc)).setCell ⟨N + 1 + 1, 2, none⟩ (.slice a3 dz.length c3)) = w4 at HF HKs ⊢
  clear b0 b1 b2 f0 f1 f2
  go_wp2
  refine bodyPost_ret (results_row_tmp (by rfl) _ _ (N + 1 + 1) #[.int .i64 hn, .int .i64 hc, .slice a3 dz.length c3] (by rfl) (load57_run HF.out rfl)) rfl ?_
  have hN := HNN.out
  have hs1 := HY1.out.lt
  refine ⟨a3, c3, rfl, Own.lower (HO3.out.kept HKs.out (fun k hk e => ?_)) (HK1.out.then HK2.out).size, (HK1.out.then HK3.out).trans HKs.out (fun _ e => e) (fun i hi e => ?_)⟩
  · have : k = N + 1 + 1 := e
    have := HO3.out.base hk
    have := HK2.out.size
    omega
  · have : i = N + 1 + 1 := e
    omega
end Go.Proofs.Ytgiokkcdgoloaaa
namespace Go.Proofs.Ytgiokkcdgoloaaa
open Go.ChangeShapes Go.WideShapes Go.ChangeAt Go.RowKit
open Go.ChangeMaps (open_string shut_string)
set_option linter.unusedVariables false
set_option linter.unusedSimpArgs false
theorem own : ownKnob Try.prog.godebug = none := by kernel_rfl
theorem laidOut : laidOutB Try.prog = true := by kernel_rfl
theorem Try.und4 : Try.prog.underlying 4 = some .bool := by kernel_rfl
theorem Try.und5 : Try.prog.underlying 5 = some (.int .u8) := by kernel_rfl
theorem Try.und25 : Try.prog.underlying 25 = some (.slice 5) := by kernel_rfl
theorem Try.bytes5 : Try.prog.bytesOf 5 = 1 := by kernel_rfl
theorem Try.cells3 : Try.prog.cellsOf 3 = 1 := by kernel_rfl
structure Bl where
  n : Int
  c : Int
  a : Option Addr
  l : Nat
  k : Nat
  bs : List Int
instance : Inhabited Bl := ⟨⟨0, 0, none, 0, 0, []⟩⟩
def Bl.cs (b : Bl) : List Value := [.int .i64 b.n, .int .i64 b.c, .slice b.a b.l b.k]
structure BlOk (w : World) (b : Bl) : Prop where
  nums : Bytes w b.a b.bs
  len : b.bs.length = b.l
  cap : b.l ≤ b.k
  big : b.k ≤ 140737488351232
  u8 : U8 b.bs
  nil : b.a = none → b.l = 0 ∧ b.k = 0
def Bls (w : World) (a : Option Addr) (xs : List Bl) : Prop :=
  ∀ (i : Nat) it, xs[i]? = some it → ∃ b off, a = some ⟨b, off, none⟩ ∧ w.cell? ⟨b, off + i * 3, none⟩ = some (.int .i64 it.n) ∧ w.cell? ⟨b, off + i * 3 + 1, none⟩ = some (.int .i64 it.c) ∧ w.cell? ⟨b, off + i * 3 + 2, none⟩ = some (.slice it.a it.l it.k)
theorem Bls.no {w w' : World} {a : Option Addr} {xs : List Bl} (h : Bls w a xs) (hk : Kept No w w') : Bls w' a xs := by
  intro i it hi
  obtain ⟨b, off, e, c0, c1, c2⟩ := h i it hi
  exact ⟨b, off, e, hk.cell c0 (fun e => e), hk.cell c1 (fun e => e), hk.cell c2 (fun e => e)⟩
theorem BlOk.no {w w' : World} {it : Bl} (h : BlOk w it) (hk : Kept No w w') : BlOk w' it := ⟨h.nums.no hk, h.len, h.cap, h.big, h.u8, h.nil⟩
theorem weights_all {H : Type} {P : Program} {e : TypeId} : ∀ {ds : List (DataW H)} {d : DataW H}, d ∈ ds → ∀ n ∈ d.weights P e, n ∈ DataW.weightsAll P e ds
  | d0 :: r, d, hd, n, hn => by
    rw [DataW.weightsAll, List.mem_append]
    rcases List.mem_cons.1 hd with rfl | h
    · exact .inl hn
    · exact .inr (weights_all h n hn)
end Go.Proofs.Ytgiokkcdgoloaaa
namespace Go.Proofs.Ytgiokkcdgoloaaa
open Go.RowKit
set_option linter.unusedVariables false
set_option linter.unusedSimpArgs false
def lessBl (x y : Bl) : Bool := lessB x.n x.c y.n y.c
def pickB (x y : Bl) : Bl := if lessBl x y then y else x
def NewOut2 (w : World) (r : Bl) (b : Bool) (e : Ending) (w' : World) : Prop :=
  ∃ a' cap', e = .returned (.tuple #[.agg #[.int .i64 r.n, .int .i64 r.c, .slice a' r.l cap'], .bool b]) ∧ OwnB w' w.heap.size a' cap' r.bs ∧ Kept No w w'
theorem newer_any (nb it : Bl) (ma : Option Addr) (mc : Nat) (da : Option Addr) (dk : Nat) (w : World) (hmb : Bytes w ma nb.bs) (hm : nb.bs.length = nb.l) (hml : nb.l ≤ 140737488351232) (hdb : Bytes w da it.bs) (hd : it.bs.length = it.l) (hdl : it.l ≤ 140737488351232) :
    Calls Try.prog 14 #[.agg #[.int .i64 nb.n, .int .i64 nb.c, .slice ma nb.l mc], .agg #[.int .i64 it.n, .int .i64 it.c], .slice da it.l dk] w (NewOut2 w (pickB nb it) (lessBl nb it)) := by
  unfold pickB
  cases h : lessBl nb it
  · refine (newerNo_any nb.n nb.c ma _ mc nb.bs it.n it.c da _ dk w hm (by omega) hmb h).mono ?_
    rintro e w' ⟨a', c', rfl, hO, hk⟩
    rw [hm]
    exact ⟨a', c', rfl, hO, hk⟩
  · refine (newerYes_any nb.n nb.c ma _ mc it.n it.c da _ dk it.bs w hd (by omega) hdb h).mono ?_
    rintro e w' ⟨a', c', rfl, hO, hk⟩
    rw [hd]
    exact ⟨a', c', rfl, hO, hk⟩
theorem flds41 : (Try.prog.fieldsOf 41).toList = [{ name := "N", type := 3, offset := 0, embedded := false, tag := "", pkgPath := "", byteOffset := 0 }, { name := "Client", type := 3, offset := 1, embedded := false, tag := "", pkgPath := "", byteOffset := 8 }] := by kernel_rfl
theorem part30 (a b : Value) (k : IntKind) (n : Int) (h : a = .int k n) (w : World) : (part 3 #[a, b] 0).run Try.prog w = .ok a w := by subst h; kernel_rfl
theorem part31 (a b : Value) (k : IntKind) (n : Int) (h : b = .int k n) (w : World) : (part 3 #[a, b] 1).run Try.prog w = .ok b w := by subst h; kernel_rfl
theorem eqStamp (n c m d : Int) (w : World) : (Op.equalIn 10000 41 (.agg #[.int .i64 n, .int .i64 c]) (.agg #[.int .i64 m, .int .i64 d])).run Try.prog w = .ok (n == m && c == d) w := by
  have h0 : ∀ (a c : Int) (w : World), (part 3 #[.int .i64 a, .int .i64 c] 0).run Try.prog w = .ok (.int .i64 a) w := fun a c w => part30 _ _ .i64 a rfl w
  have h1 : ∀ (a c : Int) (w : World), (part 3 #[.int .i64 a, .int .i64 c] 1).run Try.prog w = .ok (.int .i64 c) w := fun a c w => part31 _ _ .i64 c rfl w
  have hE : ∀ (a b : Int) (w : World), (Op.equalIn 9999 3 (.int .i64 a) (.int .i64 b)).run Try.prog w = .ok (a == b) w := fun a b w => run_equalIn_int w 9998 3 .i64 .i64 a b Try.und3
  rw [show (10000 : Nat) = 9998 + 1 + 1 from rfl, run_equalIn_struct w (9998 + 1) 41 _ _ (by kernel_rfl) (by kernel_rfl), flds41]
  cases h : n == m <;> cases h' : c == d <;> simp [Op.eqFields, h0, h1, hE, h, h', Result.andThen]
theorem neqStamp (n c m d : Int) (w : World) : (binOp .neq 41 (.agg #[.int .i64 n, .int .i64 c]) (.agg #[.int .i64 m, .int .i64 d])).run Try.prog w = .ok (.bool (!(n == m && c == d))) w := by
  rw [run_neq_struct, eqStamp]; rfl
end Go.Proofs.Ytgiokkcdgoloaaa
