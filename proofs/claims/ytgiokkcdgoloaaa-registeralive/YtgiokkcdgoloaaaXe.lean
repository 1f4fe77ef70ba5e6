import Derived.Test.YtgiokkcdgoloaaaUb
import Derived.Test.YtgiokkcdgoloaaaXc
namespace Go.Proofs.Ytgiokkcdgoloaaa.Md
open Go.RowKit
set_option linter.unusedVariables false
set_option linter.unusedSimpArgs false
theorem rnd_mod (a : Int) (n : Nat) (h0 : 0 < n) : (if decide (a.tmod (n : Int) < 0) = true then a.tmod (n : Int) + (n : Int) else a.tmod (n : Int)) = ((rndW a n : Nat) : Int) ∧ rndW a n < n := by
 have hn : (0 : Int) < (n : Int) := by omega
 have e1 := Int.emod_nonneg a (show (n : Int) ≠ 0 by omega)
 have e2 := Int.emod_lt_of_pos a hn
 have key : (if a.tmod (n : Int) < 0 then a.tmod (n : Int) + (n : Int) else a.tmod (n : Int)) = a % (n : Int) := by
  have h := @Int.tmod_eq_emod a (n : Int)
  have hd : (n : Int) ∣ a ↔ a % (n : Int) = 0 := Int.dvd_iff_emod_eq_zero
  have hna : ((n : Int).natAbs : Int) = (n : Int) := by omega
  rw [h]
  split <;> split <;> omega
 unfold rndW
 refine ⟨?_, by omega⟩
 rw [Int.toNat_of_nonneg e1, ← key]
 by_cases hc : a.tmod (n : Int) < 0
 · simp [hc]
 · simp [hc]
def aftB (a b : Sp) (ab : Bool) : Bool := if eqS a b then !ab else (decide (a.n < b.n) || (a.n == b.n && decide (a.c < b.c)))
set_option maxRecDepth 100000 in
set_option maxHeartbeats 4000000 in
theorem round_any (a : Int) (n : Nat) (w : World) (h0 : 0 < n) (hn : n ≤ 1000000000) : Calls Try.prog 20 #[.int .i64 a, .int .i64 (n : Int)] w (fun e w' => e = .returned (.int .i64 ((rndW a n : Nat) : Int)) ∧ w' = w) := by
 refine hideC fun C HC => ?_
 obtain ⟨hr, hlt⟩ := rnd_mod a n h0
 have hm1 : a.tmod (n : Int) < (n : Int) := Int.tmod_lt_of_pos a (by omega)
 have hm2 : -(n : Int) < a.tmod (n : Int) := Int.lt_tmod_of_pos a (by omega)
 obtain ⟨k, hk⟩ : ∃ k, k = a.tmod (n : Int) := ⟨_, rfl⟩
 have hrem : ∀ w, (binOp .rem 3 (.int .i64 a) (.int .i64 (n : Int))).run Try.prog w = .ok (.int .i64 k) w := fun w => by rw [hk]; exact b_remI a n h0 w
 rw [← hk] at hr hm1 hm2
 clear hk
 have HF : Hid (Fq No w w []) := Fq.start _ _
 go_enter Try.func20, Try.ntmps20
 go_upto_region 0 with fail
 refine WL.start <| uK (.int .i64 0) <| WL.nil <| ?_
 try simp only [pS]
 go_upto_region 1 with fail
 refine WL.start <| uK (.int .i64 a) <| uK (.int .i64 (n : Int)) <| uB .rem 3 (.int .i64 a) (.int .i64 (n : Int)) (.int .i64 k) (hrem _) <| uK (.int .i64 k) <| WL.nil <| ?_
 try simp only [pS]
 go_upto_region 2 with fail
 refine WL.start <| uK (.int .i64 k) <| ?_
 try simp only [pS]
 cases q1 : (decide (k < 0))
 ·skip
  refine uB .lss 3 (.int .i64 k) (.int .i64 0) (.bool false) (by rw [b_lss, q1]; try rfl) <| WL.nil <| ?_
  try simp only [pS]
  rw [q1] at hr
  simp only [if_true, if_false, Bool.false_eq_true, reduceIte] at hr
  go_upto_region 4 with fail
  refine WL.start <| uK (.int .i64 k) <| uK (.int .i64 k) <| WL.nil <| ?_
  try simp only [pS]
  go_wp2
  rw [HC.out]
  rw [← hr]
  exact ⟨rfl, rfl⟩
 ·skip
  refine uB .lss 3 (.int .i64 k) (.int .i64 0) (.bool true) (by rw [b_lss, q1]; try rfl) <| WL.nil <| ?_
  try simp only [pS]
  rw [q1] at hr
  simp only [if_true, if_false, Bool.false_eq_true, reduceIte] at hr
  go_upto_region 3 with fail
  refine WL.start <| uK (.int .i64 k) <| uK (.int .i64 (n : Int)) <| uB .add 3 (.int .i64 k) (.int .i64 (n : Int)) (.int .i64 (k + (n : Int))) (b_addw _ _ _ (by rw [IntKind.wrap_i64]; omega) _) <| uK (.int .i64 (k + (n : Int))) <| WL.nil <| ?_
  try simp only [pS]
  go_upto_region 4 with fail
  refine WL.start <| uK (.int .i64 (k + (n : Int))) <| uK (.int .i64 (k + (n : Int))) <| WL.nil <| ?_
  try simp only [pS]
  go_wp2
  rw [HC.out]
  rw [← hr]
  exact ⟨rfl, rfl⟩
set_option maxRecDepth 100000 in
set_option maxHeartbeats 4000000 in
theorem after_any (a b : Sp) (ab : Bool) (w : World) : Calls Try.prog 44 #[.agg a.cells, .agg b.cells, .bool ab] w (fun e w' => e = .returned (.bool (aftB a b ab)) ∧ Kept No w w') := by
 refine hideC fun C HC => ?_
 unfold aftB at HC
 have HF : Hid (Fq No w w []) := Fq.start _ _
 go_enter Try.func44, Try.ntmps44
 go_upto_region 0 with fail
 refine WL.start ?_
 refine uR (pV w.heap.size 0) (w.alloc (.cells (Sp.cells a) 41)) (exec_box 41 _ rfl (Sp.cells a) (by kernel_rfl)) ?_
 try simp only [pS]
 have HF : Hid _ := HF.out.alloc 41 (Sp.cells a)
 generalize w.alloc (.cells (Sp.cells a) 41) = wk2 at HF ⊢
 generalize w.heap.size = gk1 at HF ⊢
 refine uR (pV wk2.heap.size 0) (wk2.alloc (.cells (Sp.cells b) 41)) (exec_box 41 _ rfl (Sp.cells b) (by kernel_rfl)) ?_
 try simp only [pS]
 have HF : Hid _ := HF.out.alloc 41 (Sp.cells b)
 generalize wk2.alloc (.cells (Sp.cells b) 41) = wk4 at HF ⊢
 generalize wk2.heap.size = gk3 at HF ⊢
 refine uK (.bool false) <| WL.nil <| ?_
 try simp only [pS]
 go_upto_region 1 with fail
 refine WL.start <| uL 41 ⟨gk1, 0, none⟩ (.agg (Sp.cells a)) (run_load_part (cs := Sp.cs a) (sub := Sp.cs a) (HF.out.box 0 _ _ _ rfl) (Part.all _) U41 rfl S41) <| uL 41 ⟨gk3, 0, none⟩ (.agg (Sp.cells b)) (run_load_part (cs := Sp.cs b) (sub := Sp.cs b) (HF.out.box 1 _ _ _ rfl) (Part.all _) U41 rfl S41) <| ?_
 try simp only [pS]
 cases q1 : (eqS a b)
 ·skip
  refine uB .eql 41 (.agg (Sp.cells a)) (.agg (Sp.cells b)) (.bool false) (by rw [eqS_eql, q1]; try rfl) <| WL.nil <| ?_
  try simp only [pS]
  go_upto_region 3 with fail
  refine WL.start <| uK (pV gk1 0) <| uL 3 ⟨gk1, 0, none⟩ (.int .i64 a.n) (ld1 (HF.out.box 0 _ _ _ rfl) 0 U3 rfl) <| uK (pV gk3 0) <| uL 3 ⟨gk3, 0, none⟩ (.int .i64 b.n) (ld1 (HF.out.box 1 _ _ _ rfl) 0 U3 rfl) <| ?_
  try simp only [pS]
  cases q2 : (decide (a.n < b.n))
  ·skip
   refine uB .lss 3 (.int .i64 a.n) (.int .i64 b.n) (.bool false) (by rw [b_lss, q2]; try rfl) <| uK (.bool false) <| uK (pV gk1 0) <| uL 3 ⟨gk1, 0, none⟩ (.int .i64 a.n) (ld1 (HF.out.box 0 _ _ _ rfl) 0 U3 rfl) <| uK (pV gk3 0) <| uL 3 ⟨gk3, 0, none⟩ (.int .i64 b.n) (ld1 (HF.out.box 1 _ _ _ rfl) 0 U3 rfl) <| ?_
   try simp only [pS]
   cases q3 : (a.n == b.n)
   ·skip
    refine uB .eql 3 (.int .i64 a.n) (.int .i64 b.n) (.bool false) (by rw [b_eql, q3]; try rfl) <| uK (.bool false) <| uZ <| uZ <| uZ <| uZ <| uZ <| uK (.bool false) <| uK (.bool false) <| uK (.bool false) <| WL.nil <| ?_
    try simp only [pS]
    go_wp2
    rw [HC.out]
    refine ⟨?_, HF.out.kept⟩
    simp [q1, q2, q3]
   ·skip
    refine uB .eql 3 (.int .i64 a.n) (.int .i64 b.n) (.bool true) (by rw [b_eql, q3]; try rfl) <| uK (.bool true) <| uK (pV gk1 1) <| uL 3 ⟨gk1, 1, none⟩ (.int .i64 a.c) (ld1 (HF.out.box 0 _ _ _ rfl) 1 U3 rfl) <| uK (pV gk3 1) <| uL 3 ⟨gk3, 1, none⟩ (.int .i64 b.c) (ld1 (HF.out.box 1 _ _ _ rfl) 1 U3 rfl) <| ?_
    try simp only [pS]
    cases q4 : (decide (a.c < b.c))
    ·skip
     refine uB .lss 3 (.int .i64 a.c) (.int .i64 b.c) (.bool false) (by rw [b_lss, q4]; try rfl) <| uK (.bool false) <| uK (.bool false) <| uK (.bool false) <| WL.nil <| ?_
     try simp only [pS]
     go_wp2
     rw [HC.out]
     refine ⟨?_, HF.out.kept⟩
     simp [q1, q2, q3, q4]
    ·skip
     refine uB .lss 3 (.int .i64 a.c) (.int .i64 b.c) (.bool true) (by rw [b_lss, q4]; try rfl) <| uK (.bool true) <| uK (.bool true) <| uK (.bool true) <| WL.nil <| ?_
     try simp only [pS]
     go_wp2
     rw [HC.out]
     refine ⟨?_, HF.out.kept⟩
     simp [q1, q2, q3, q4]
  ·skip
   refine uB .lss 3 (.int .i64 a.n) (.int .i64 b.n) (.bool true) (by rw [b_lss, q2]; try rfl) <| uK (.bool true) <| uZ <| uZ <| uZ <| uZ <| uZ <| uZ <| uZ <| uZ <| uZ <| uZ <| uZ <| uZ <| uK (.bool true) <| uK (.bool true) <| WL.nil <| ?_
   try simp only [pS]
   go_wp2
   rw [HC.out]
   refine ⟨?_, HF.out.kept⟩
   simp [q1, q2]
 ·skip
  refine uB .eql 41 (.agg (Sp.cells a)) (.agg (Sp.cells b)) (.bool true) (by rw [eqS_eql, q1]; try rfl) <| WL.nil <| ?_
  try simp only [pS]
  go_upto_region 2 with fail
  refine WL.start <| uK (.bool ab) <| ?_
  try simp only [pS]
  cases q5 : (ab)
  ·skip
   try simp only [q5]
   refine uK (.bool true) <| uK (.bool true) <| WL.nil <| ?_
   try simp only [pS]
   go_wp2
   rw [HC.out]
   refine ⟨?_, HF.out.kept⟩
   simp [q1, q5]
  ·skip
   try simp only [q5]
   refine uK (.bool false) <| uK (.bool false) <| WL.nil <| ?_
   try simp only [pS]
   go_wp2
   rw [HC.out]
   refine ⟨?_, HF.out.kept⟩
   simp [q1, q5]
end Go.Proofs.Ytgiokkcdgoloaaa.Md
namespace Go.Proofs.Ytgiokkcdgoloaaa.Md
open Go.RowKit
set_option linter.unusedVariables false
set_option linter.unusedSimpArgs false
def dvZ : Dv := ⟨false, 0, 0, 0, slZ, rzZ⟩
def lvZ : Lv := ⟨spZ, slZ⟩
theorem Wv.oneL (x : Wv) : ∀ v ∈ x.cs, v.oneCell' = true := by simp [Wv.cs, Value.oneCell', Sl.v]
theorem Lv.oneL (x : Lv) : ∀ v ∈ x.cs, v.oneCell' = true := by simp [Lv.cs, Sp.cs, Value.oneCell', Sl.v]
theorem Dv.oneL (x : Dv) : ∀ v ∈ x.cs, v.oneCell' = true := by simp [Dv.cs, Rz.cs, En.cs, Sp.cs, Value.oneCell', Sl.v]
theorem U58 : Try.prog.underlying 58 = some (.slice 57) := by kernel_rfl
theorem E58 : Try.prog.underlying 58 = some (.slice (Try.prog.elem 58)) := by kernel_rfl
theorem F58 : (Try.prog.info? (Try.prog.elem 58)).map (·.size) = some 3 := by kernel_rfl
theorem S58 : (Try.prog.info? 58).map (·.size) = some 1 := by kernel_rfl
theorem U69 : Try.prog.underlying 69 = some (.slice 31) := by kernel_rfl
theorem E69 : Try.prog.underlying 69 = some (.slice (Try.prog.elem 69)) := by kernel_rfl
theorem F69 : (Try.prog.info? (Try.prog.elem 69)).map (·.size) = some 1 := by kernel_rfl
theorem U72 : Try.prog.underlying 72 = some (.slice 109) := by kernel_rfl
theorem E72 : Try.prog.underlying 72 = some (.slice (Try.prog.elem 72)) := by kernel_rfl
theorem F72 : (Try.prog.info? (Try.prog.elem 72)).map (·.size) = some 16 := by kernel_rfl
theorem S72 : (Try.prog.info? 72).map (·.size) = some 1 := by kernel_rfl
theorem U73 : Try.prog.underlying 73 = some (.slice 147) := by kernel_rfl
theorem E73 : Try.prog.underlying 73 = some (.slice (Try.prog.elem 73)) := by kernel_rfl
theorem F73 : (Try.prog.info? (Try.prog.elem 73)).map (·.size) = some 3 := by kernel_rfl
theorem S73 : (Try.prog.info? 73).map (·.size) = some 1 := by kernel_rfl
theorem U109 : Try.prog.underlying 109 = some (.struct (Try.prog.fieldsOf 109)) := by kernel_rfl
theorem S109 : (Try.prog.info? 109).map (·.size) = some 16 := by kernel_rfl
theorem Z109 : (Try.prog.info? 109).bind (·.zero) = some (.agg dvZ.cells) := by kernel_rfl
theorem I109 : (Try.prog.info? 109).map (fun i => (i.zero, i.size, i.bytes)) = some (some (.agg dvZ.cells), 16, 184) := by kernel_rfl
theorem I147 : (Try.prog.info? 147).map (fun i => (i.zero, i.size, i.bytes)) = some (some (.agg lvZ.cells), 3, 40) := by kernel_rfl
theorem sl0_5 (w : World) : (Instr.buildSlice 25 0 #[]).run Try.prog w = .ok (.slice (some ⟨w.heap.size, 0, none⟩) 0 0) (w.alloc (.cells #[] 5)) := by kernel_rfl
theorem sl_v {s : Sl} {g o : Nat} (h : s.a = some ⟨g, o, none⟩) : s.v = .slice (some ⟨g, o, none⟩) s.l s.k := by unfold Sl.v; rw [h]
theorem own_at {t : TypeId} {c : Nat} {w : World} {base : Nat} {a : Option Addr} {cap n : Nat} {vs : List Value} (h : Own t c w base a cap n vs) (h0 : 0 < n) : ∃ g, a = some ⟨g, 0, none⟩ := by
  rcases h.cases h.1 with ⟨_, _, e⟩ | ⟨g, e, _⟩
  · omega
  · exact ⟨g, e⟩
theorem own_cell {α : Type} {T : TypeId} {c : Nat} {W : World} {base n k g : Nat} {a : Option Addr} {f : α → List Value} {xs : List α} (h : Own T c W base a k n (xs.map f).flatten) (ha : a = some ⟨g, 0, none⟩) (hc : ∀ x ∈ xs.map f, x.length = c) (h0 : 0 < c) {i : Nat} {e : α} (hi : xs[i]? = some e) : ∀ (j : Nat) v, (f e)[j]? = some v → W.cell? ⟨g, 0 + i * c + j, none⟩ = some v := by
  obtain ⟨b, off, e1, e2⟩ := Own.rows h hc h0 i (f e) (by rw [List.getElem?_map, hi]; rfl)
  rw [ha] at e1
  cases e1
  exact e2
theorem load_part {w : World} {b o n T : Nat} {cs sub : List Value} {d : TypeDesc} (hc : ∀ (j : Nat) v, cs[j]? = some v → w.cell? ⟨b, o + j, none⟩ = some v) (hp : Part cs n sub) (hu : Try.prog.underlying T = some d) (hd : (match d with | .struct _ | .array _ _ => true | _ => false) = true) (hs : (Try.prog.info? T).map (·.size) = some sub.length) : (loadVar T ⟨b, o + n, none⟩).run Try.prog w = .ok (.agg sub.toArray) w := by
  have h := load_at (n := 0) (b := b) (off := o + n) (i := 0) (it := sub) (w := w) (fun j v hv => by rw [Nat.zero_mul, Nat.add_zero, Nat.add_assoc]; exact hc (n + j) v (hp j v hv)) hu hd hs
  rwa [Nat.zero_mul, Nat.add_zero] at h
section
variable {w W W2 : World} {n0 : Nat} {J0 J J2 S : Nat → Prop} {b : Nat} {v v2 : Wv} {x x2 : Wd} {mp mp2 : Nat → Option Nat} {I I2 : Nat → Nat → Prop} {H H2 : List Bl} {U U2 : List Mg} {D D2 : List Dv} {L L2 : List Lv} {l l2 : List (Nat × TypeId × Array Value)} {T T' : List Rowx} {Q Q' : List (Sl × List Int)} {cs : Array Value} {rs : List Rowx} {ms : Nat → Option RM}
theorem Wl.n0W (A : Wl W n0 J b cs rs I ms mp) : n0 ≤ W.heap.size := by have := A.jl b A.bj; omega
theorem Wl.push (A : Wl W n0 J b cs rs I ms mp) {j : Nat} {E : TypeId} {c : Nat} {s : Sl} {vs : List Value} (hx : rs[j]? = some (s, E, c, vs)) (TS by' : Nat) (z : Value) (ht : Try.prog.underlying TS = some (.slice E)) (hinf : (Try.prog.info? E).map (fun i => (i.zero, i.size, i.bytes)) = some (some z, c, by')) (hzc : z.cells.size = c) (hc0 : 0 < c) (news : List Value) (hl : news.length = c) (ad : Addr) (cc : Nat) (hnews : ∀ j u, news[j]? = some u → W.cell? (ad.add j) = some u) (h1 : ∀ u ∈ news, u.oneCell' = true) (hbd : (s.l + 1) * by' ≤ 140737488355328) (hb63 : s.l ≤ 1000000000000) :
    ∃ a1 k1 W2, (Builtin.append_ #[TS, TS] TS #[s.v, .slice (some ad) 1 cc]).run Try.prog W = .ok (.slice a1 (s.l + 1) k1) W2 ∧ Own E c W2 n0 a1 k1 (s.l + 1) (vs ++ news) ∧ Kept (At s.a) W W2 ∧ (∀ k, At a1 k → At s.a k ∨ W.heap.size ≤ k) := by
  obtain ⟨a1, k1, W2, h, ho, hk, hn⟩ := run_appN (w := W) TS TS E c by' z ht hinf hzc hc0 n0 s.l s.k s.a vs (A.ow j _ hx) (some ad) 1 cc news (by omega) (fun e => by cases e) (fun j u hj => ⟨ad, rfl, hnews j u hj⟩) h1 hbd (by omega) A.n0W
  exact ⟨a1, k1, W2, h, ho, hk, fun k e => (hn k e).imp id (fun f => by omega)⟩
theorem Wg.boxJ (G : Wg w W n0 J0 J b v x mp I H U D L l T Q) (hk : Kept J W W2) (i : Nat) {g : Nat} {t : TypeId} {cs : Array Value} (hi : l[i]? = some (g, t, cs)) : Box W2 g t cs := (G.box i g t cs hi).kept hk (G.li i g t cs hi).1
theorem Wg.tlJ (G : Wg w W n0 J0 J b v x mp I H U D L l T Q) (hk : Kept J W W2) (i : Nat) {y : Rowx} (hi : T[i]? = some y) : Own y.2.1 y.2.2.1 W2 0 y.1.a y.1.k y.1.l y.2.2.2 := Own.kept (G.tl i y hi) hk (fun k e => G.tj i y k hi e)
theorem lvL_snoc (L : List Lv) (y : Lv) : lvL (L ++ [y]) = lvL L ++ y.cs := by simp [lvL]
theorem dvL_snoc (L : List Dv) (y : Dv) : dvL (L ++ [y]) = dvL L ++ y.cs := by simp [dvL]
theorem mgL_snoc (L : List Mg) (y : Mg) : mgL (L ++ [y]) = mgL L ++ y.cs := by simp [mgL]
theorem Wl.by' (A : Wl W n0 J b cs rs I ms mp) {j : Nat} {y : Rowx} (hx : rs[j]? = some y) (hk : Kept (At y.1.a) W W2) {s : Sl} {z : List Int} (h : By W n0 s z) : By W2 n0 s z :=
  h.kept hk (fun k e => ⟨(A.jl k (A.rj j y k hx e)).1, (A.r5 hx e).2⟩)
theorem Wg.pushL (G : Wg w W n0 J0 J b v x mp I H U D L l T Q) (hl : v.ls.l ≤ 1000000000) {e : Sp × List Int} {y : Lv} (hd : LdM W n0 e y) {g cc : Nat} (hnews : ∀ (j : Nat) u, y.cs[j]? = some u → W.cell? ((⟨g, 0, none⟩ : Addr).add j) = some u) :
    ∃ a1 k1 W2, (Builtin.append_ #[73, 73] 73 #[v.ls.v, .slice (some ⟨g, 0, none⟩) 1 cc]).run Try.prog W = .ok (.slice a1 (v.ls.l + 1) k1) W2 ∧ Kept J W W2 ∧ Box W2 b 75 v.cells ∧ ∃ J2, Wg w (W2.setRow b (Wv.cells ⟨v.gp, v.hd, v.mm, v.aa, v.rr, v.gn, v.un, v.ds, ⟨a1, v.ls.l + 1, k1⟩, v.now, v.br⟩)) n0 J0 J2 b ⟨v.gp, v.hd, v.mm, v.aa, v.rr, v.gn, v.un, v.ds, ⟨a1, v.ls.l + 1, k1⟩, v.now, v.br⟩ { x with ls := x.ls ++ [e] } mp I H U D (L ++ [y]) l T Q := by
  have A := G.wa.wl
  obtain ⟨a1, k1, W2, h, ho, hk, hn⟩ := A.push (j := 8) (s := v.ls) rfl 73 40 _ U73 I147 rfl (by decide) y.cs rfl ⟨g, 0, none⟩ cc hnews y.oneL (by omega) (by omega)
  have bb : ∀ {s : Sl} {z : List Int}, By W n0 s z → By W2 n0 s z := fun hb => A.by' (j := 8) (y := (v.ls, 147, 3, lvL L)) rfl hk hb
  obtain ⟨J2, h1, h2, h3⟩ := G.wa.setL (s := ⟨a1, v.ls.l + 1, k1⟩) (L2 := L ++ [y]) (ls2 := x.ls ++ [e]) hk (by rw [lvL_snoc]; exact ho) hn ((G.wa.pt.ls.mono (fun a c r => ⟨r.s, bb r.b⟩)).snoc ⟨hd.s, bb hd.b⟩)
  exact ⟨a1, k1, W2, h, hk.mono (fun k _ e => A.rj 8 _ k rfl e), h3, J2, G.upd h1 h2⟩
theorem Wg.pushU (G : Wg w W n0 J0 J b v x mp I H U D L l T Q) (hl : v.un.l ≤ 1000000000) {e : Pm} {y : Mg} (hd : UnM W n0 e y) {g cc : Nat} (hnews : ∀ (j : Nat) u, y.cs[j]? = some u → W.cell? ((⟨g, 0, none⟩ : Addr).add j) = some u) :
    ∃ a1 k1 W2, (Builtin.append_ #[71, 71] 71 #[v.un.v, .slice (some ⟨g, 0, none⟩) 1 cc]).run Try.prog W = .ok (.slice a1 (v.un.l + 1) k1) W2 ∧ Kept J W W2 ∧ Box W2 b 75 v.cells ∧ ∃ J2, Wg w (W2.setRow b (Wv.cells ⟨v.gp, v.hd, v.mm, v.aa, v.rr, v.gn, ⟨a1, v.un.l + 1, k1⟩, v.ds, v.ls, v.now, v.br⟩)) n0 J0 J2 b ⟨v.gp, v.hd, v.mm, v.aa, v.rr, v.gn, ⟨a1, v.un.l + 1, k1⟩, v.ds, v.ls, v.now, v.br⟩ { x with un := x.un ++ [e] } mp I H (U ++ [y]) D L l T Q := by
  have A := G.wa.wl
  obtain ⟨a1, k1, W2, h, ho, hk, hn⟩ := A.push (j := 6) (s := v.un) rfl 71 312 _ U71 I52 rfl (by decide) y.cs rfl ⟨g, 0, none⟩ cc hnews y.oneL (by omega) (by omega)
  have bb : ∀ {s : Sl} {z : List Int}, By W n0 s z → By W2 n0 s z := fun hb => A.by' (j := 6) (y := (v.un, 52, 30, mgL U)) rfl hk hb
  obtain ⟨J2, h1, h2, h3⟩ := G.wa.setU (s := ⟨a1, v.un.l + 1, k1⟩) (U2 := U ++ [y]) (un2 := x.un ++ [e]) hk (by rw [mgL_snoc]; exact ho) hn ((G.wa.pt.un.mono (fun a c r => ⟨r.e, bb r.b⟩)).snoc ⟨hd.e, bb hd.b⟩)
  exact ⟨a1, k1, W2, h, hk.mono (fun k _ e => A.rj 6 _ k rfl e), h3, J2, G.upd h1 h2⟩
theorem Wg.pushD (G : Wg w W n0 J0 J b v x mp I H U D L l T Q) (hl : v.ds.l ≤ 1000000000) {e : Dd} {y : Dv} (hd : DdM W n0 e y) {g cc : Nat} (hnews : ∀ (j : Nat) u, y.cs[j]? = some u → W.cell? ((⟨g, 0, none⟩ : Addr).add j) = some u) :
    ∃ a1 k1 W2, (Builtin.append_ #[72, 72] 72 #[v.ds.v, .slice (some ⟨g, 0, none⟩) 1 cc]).run Try.prog W = .ok (.slice a1 (v.ds.l + 1) k1) W2 ∧ Kept J W W2 ∧ Box W2 b 75 v.cells ∧ ∃ J2, Wg w (W2.setRow b (Wv.cells ⟨v.gp, v.hd, v.mm, v.aa, v.rr, v.gn, v.un, ⟨a1, v.ds.l + 1, k1⟩, v.ls, v.now, v.br⟩)) n0 J0 J2 b ⟨v.gp, v.hd, v.mm, v.aa, v.rr, v.gn, v.un, ⟨a1, v.ds.l + 1, k1⟩, v.ls, v.now, v.br⟩ { x with ds := x.ds ++ [e] } mp I H U (D ++ [y]) L l T Q := by
  have A := G.wa.wl
  obtain ⟨a1, k1, W2, h, ho, hk, hn⟩ := A.push (j := 7) (s := v.ds) rfl 72 184 _ U72 I109 rfl (by decide) y.cs rfl ⟨g, 0, none⟩ cc hnews y.oneL (by omega) (by omega)
  have bb : ∀ {s : Sl} {z : List Int}, By W n0 s z → By W2 n0 s z := fun hb => A.by' (j := 7) (y := (v.ds, 109, 16, dvL D)) rfl hk hb
  obtain ⟨J2, h1, h2, h3⟩ := G.wa.setD (s := ⟨a1, v.ds.l + 1, k1⟩) (D2 := D ++ [y]) (ds2 := x.ds ++ [e]) hk (by rw [dvL_snoc]; exact ho) hn ((G.wa.pt.ds.mono (fun a c r => ⟨r.e, bb r.b, bb r.c⟩)).snoc ⟨hd.e, bb hd.b, bb hd.c⟩)
  exact ⟨a1, k1, W2, h, hk.mono (fun k _ e => A.rj 7 _ k rfl e), h3, J2, G.upd h1 h2⟩
theorem Wg.flag (G : Wg w W n0 J0 J b v x mp I H U D L l T Q) (n : Int) (br : Bool) : Wg w (W.setRow b (Wv.cells ⟨v.gp, v.hd, v.mm, v.aa, v.rr, v.gn, v.un, v.ds, v.ls, n, br⟩)) n0 J0 J b ⟨v.gp, v.hd, v.mm, v.aa, v.rr, v.gn, v.un, v.ds, v.ls, n, br⟩ { x with now := n, br := br } mp I H U D L l T Q := by
  obtain ⟨h1, h2⟩ := G.wa.flag n br
  exact G.upd h1 h2
end
end Go.Proofs.Ytgiokkcdgoloaaa.Md
