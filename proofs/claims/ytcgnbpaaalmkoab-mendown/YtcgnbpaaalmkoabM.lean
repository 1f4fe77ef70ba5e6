import Derived.Test.YtcgnbpaaalmkoabL
namespace Go.Proofs.Ytcgnbpaaalmkoab
open Go.RowKit
set_option linter.unusedVariables false
set_option linter.unusedSimpArgs false

theorem Box.no {w w' : World} {g : Nat} {t : TypeId} {cs : Array Value} (h : Box w g t cs) (hk : Kept No w w') : Box w' g t cs := h.kept hk (fun e => e)
/-- A block of the frame that a call has written over. -/
theorem Fr.put {S : Nat → Prop} {w0 w w' : World} {l : List (Nat × TypeId × Array Value)} (h : Fr S w0 w l) (i : Nat) {g : Nat} {T : TypeId} {cs cs' : Array Value} (hi : l[i]? = some (g, T, cs)) (hk : Kept (Only g) w w') (hb : Box w' g T cs') : Fr S w0 w' (l.set i (g, T, cs')) := by
  have hlt := (List.getElem?_eq_some_iff.1 hi).1
  have key : ∀ (j : Nat) g1 T1 cs1, (l.set i (g, T, cs'))[j]? = some (g1, T1, cs1) → (j = i ∧ g1 = g ∧ T1 = T ∧ cs1 = cs') ∨ (j ≠ i ∧ l[j]? = some (g1, T1, cs1)) := by
    intro j g1 T1 cs1 hj
    rw [List.getElem?_set] at hj
    by_cases e : i = j
    · subst e
      simp [hlt] at hj
      exact .inl ⟨rfl, hj.1.symm, hj.2.1.symm, hj.2.2.symm⟩
    · simp [e] at hj
      exact .inr ⟨fun h => e h.symm, hj⟩
  refine ⟨h.kept.trans hk (fun _ e => e) (fun k hk' e => by have h1 := h.low i g T cs hi; have e : k = g := e; omega), ?_, ?_, ?_⟩
  · intro j g1 T1 cs1 hj
    rcases key j g1 T1 cs1 hj with ⟨rfl, rfl, rfl, rfl⟩ | ⟨hne, hj2⟩
    · exact hb
    · refine (h.box j g1 T1 cs1 hj2).kept hk (fun e => hne ?_)
      have e : g1 = g := e
      subst e
      exact h.inj j i _ _ _ _ _ hj2 hi
  · intro j g1 T1 cs1 hj
    rcases key j g1 T1 cs1 hj with ⟨rfl, rfl, rfl, rfl⟩ | ⟨hne, hj⟩
    · exact h.low _ _ _ _ hi
    · exact h.low j g1 T1 cs1 hj
  · intro j k g1 T1 cs1 T2 cs2 hj hk
    rcases key j g1 T1 cs1 hj with ⟨rfl, rfl, rfl, rfl⟩ | ⟨hne, hj2⟩ <;> rcases key k g1 T2 cs2 hk with ⟨rfl, h1, h2, h3⟩ | ⟨hne', hk2⟩
    · rfl
    · exact h.inj _ _ _ _ _ _ _ hi hk2
    · subst h1; exact h.inj _ _ _ _ _ _ _ hj2 hi
    · exact h.inj _ _ _ _ _ _ _ hj2 hk2
/-- Bytes that can be read, bytes of one's own. -/
structure RdB (w : World) (s : Sl) (bs : List Int) : Prop where
  row : Nums .u8 w s.a bs
  len : bs.length = s.l
  cap : s.a = none → s.k = 0
theorem RdB.kept {S : Nat → Prop} {w w' : World} {s : Sl} {bs : List Int} (h : RdB w s bs) (hk : Kept S w w') (hS : ∀ k, At s.a k → ¬ S k) : RdB w' s bs := ⟨h.row.kept hk (fun b off e => hS b ⟨_, e, rfl⟩), h.len, h.cap⟩
theorem RdB.no {w w' : World} {s : Sl} {bs : List Int} (h : RdB w s bs) (hk : Kept No w w') : RdB w' s bs := h.kept hk (fun _ _ e => e)
def u8L (bs : List Int) : List Value := bs.map (Value.int .u8)
structure OwB (w : World) (base : Nat) (s : Sl) (bs : List Int) : Prop where
  own : Own 5 1 w base s.a s.k s.l (u8L bs)
  len : bs.length = s.l
theorem OwB.kept {S : Nat → Prop} {w w' : World} {base : Nat} {s : Sl} {bs : List Int} (h : OwB w base s bs) (hk : Kept S w w') (hS : ∀ k, At s.a k → ¬ S k) : OwB w' base s bs := ⟨h.own.kept hk hS, h.len⟩
theorem OwB.no {w w' : World} {base : Nat} {s : Sl} {bs : List Int} (h : OwB w base s bs) (hk : Kept No w w') : OwB w' base s bs := h.kept hk (fun _ _ e => e)
theorem OwB.nil (w : World) (base : Nat) : OwB w base slZ [] := ⟨Own.nil _ _ _ _, rfl⟩
theorem OwB.rd {w : World} {base : Nat} {s : Sl} {bs : List Int} (h : OwB w base s bs) : RdB w s bs := ⟨Own.nums h.own h.len, h.len, h.own.cap0⟩
theorem RdB.src {w : World} {s : Sl} {bs : List Int} (h : RdB w s bs) : ∀ (j : Nat) u, (u8L bs)[j]? = some u → ∃ ad, s.a = some ad ∧ w.cell? (ad.add j) = some u := by
  intro j u hj
  have hlt := (List.getElem?_eq_some_iff.1 hj).1
  obtain ⟨ad, e, hc⟩ := h.row.src (by simp [u8L] at hlt ⊢; omega)
  exact ⟨ad, e, hc j u hj⟩
def askM (a b : Ad) (k : Ky) (n : Int) : Mg := ⟨21, a, b, 0, 0, k, ⟨n, 0⟩, spZ, slZ, cZ, bvZ, slZ, false⟩
def askB (n : Int) : Bool := decide (1 ≤ n) && decide (n ≤ 1048577)
def moreB (m : Mg) : Bool := !(m.bk.up == 0 && ((m.cm.l : Nat) : Int) == 0) && m.mo
def lessB (a b : Sp) : Bool := if a.n == b.n then decide (a.c < b.c) else decide (a.n < b.n)
set_option maxRecDepth 100000 in
set_option maxHeartbeats 4000000 in
theorem asking_any (a b : Ad) (k : Ky) (n : Int) (w : World) : Calls Try.prog 35 #[.agg (Ad.cells a), .agg (Ad.cells b), .agg (Ky.cells k), .int .i64 n] w (fun e w' => e = .returned (.agg (Mg.cells (askM a b k n))) ∧ Kept No w w') := by
  obtain ⟨C, hC⟩ : ∃ C : Ending → World → Prop, C = (fun e w' => e = .returned (.agg (Mg.cells (askM a b k n))) ∧ Kept No w w') := ⟨_, rfl⟩
  have HC : Hid (C = (fun e w' => e = .returned (.agg (Mg.cells (askM a b k n))) ∧ Kept No w w')) := hC
  rw [← hC]
  clear hC
  have HF : Hid (Fr No w w []) := Fr.start _ _
  go_enter Try.func35, Try.ntmps35
  go_upto_region 0 with fail
  refine WL.start ?_
  refine wp_runW (.pointer (some ⟨w.heap.size, 0, none⟩)) (w.alloc (.cells (Ad.cells a) 37)) (exec_box 37 _ rfl (Ad.cells a) (by kernel_rfl)) (by kernel_rfl) ?_
  try simp only [pS]
  have HF : Hid (Fr No w _ [(w.heap.size, 37, Ad.cells a)]) := HF.out.alloc _ _
  generalize w.alloc (.cells (Ad.cells a) 37) = wk2 at HF ⊢
  generalize w.heap.size = gk1 at HF ⊢
  refine wp_runW (.pointer (some ⟨wk2.heap.size, 0, none⟩)) (wk2.alloc (.cells (Ad.cells b) 37)) (exec_box 37 _ rfl (Ad.cells b) (by kernel_rfl)) (by kernel_rfl) ?_
  try simp only [pS]
  have HF : Hid (Fr No w _ [(gk1, 37, Ad.cells a), (wk2.heap.size, 37, Ad.cells b)]) := HF.out.alloc _ _
  generalize wk2.alloc (.cells (Ad.cells b) 37) = wk4 at HF ⊢
  generalize wk2.heap.size = gk3 at HF ⊢
  refine wp_runW (.pointer (some ⟨wk4.heap.size, 0, none⟩)) (wk4.alloc (.cells (Ky.cells k) 39)) (exec_box 39 _ rfl (Ky.cells k) (by kernel_rfl)) (by kernel_rfl) ?_
  try simp only [pS]
  have HF : Hid (Fr No w _ [(gk1, 37, Ad.cells a), (gk3, 37, Ad.cells b), (wk4.heap.size, 39, Ky.cells k)]) := HF.out.alloc _ _
  generalize wk4.alloc (.cells (Ky.cells k) 39) = wk6 at HF ⊢
  generalize wk4.heap.size = gk5 at HF ⊢
  refine wp_runW (.pointer (some ⟨wk6.heap.size, 0, none⟩)) (wk6.alloc (.cells (Mg.cells mgZ) 46)) (exec_alloc 46 rfl (Mg.cells mgZ) zero50) (by kernel_rfl) ?_
  try simp only [pS]
  have HF : Hid (Fr No w _ [(gk1, 37, Ad.cells a), (gk3, 37, Ad.cells b), (gk5, 39, Ky.cells k), (wk6.heap.size, 46, Mg.cells mgZ)]) := HF.out.alloc _ _
  generalize wk6.alloc (.cells (Mg.cells mgZ) 46) = wk8 at HF ⊢
  generalize wk6.heap.size = gk7 at HF ⊢
  refine WL.nil ?_
  try simp only [pS]
  go_upto_region 1 with fail
  refine WL.start ?_
  refine tW (.agg (Ad.cells a)) (eL 37 _ rfl ⟨gk1, 0, none⟩ (run_load_part (cs := Ad.cs a) (sub := Ad.cs a) (HF.out.box 0 _ _ _ rfl) (Part.all _) Try.und43 rfl Try.size43)) ?_
  refine tW (.agg (Ad.cells b)) (eL 37 _ rfl ⟨gk3, 0, none⟩ (run_load_part (cs := Ad.cs b) (sub := Ad.cs b) (HF.out.box 1 _ _ _ rfl) (Part.all _) Try.und43 rfl Try.size43)) ?_
  refine tW (.agg (Ky.cells k)) (eL 39 _ rfl ⟨gk5, 0, none⟩ (run_load_part (cs := Ky.cs k) (sub := Ky.cs k) (HF.out.box 2 _ _ _ rfl) (Part.all _) Try.und23 rfl Try.size23)) ?_
  refine tK (.int .i64 n) ?_
  refine tW (.agg (Sp.cells ⟨n, 0⟩)) (exec_build 23 _ rfl (Sp.cells ⟨n, 0⟩) (by kernel_rfl)) ?_
  refine tW (.agg (Mg.cells ⟨21, a, b, 0, 0, k, ⟨n, 0⟩, spZ, slZ, cZ, bvZ, slZ, false⟩)) (exec_build 46 _ rfl (Mg.cells ⟨21, a, b, 0, 0, k, ⟨n, 0⟩, spZ, slZ, cZ, bvZ, slZ, false⟩) (by kernel_rfl)) ?_
  try simp only [pS]
  refine wp_storeW 46 _ _ rfl ⟨gk7, 0, none⟩ (.agg (Mg.cells ⟨21, a, b, 0, 0, k, ⟨n, 0⟩, spZ, slZ, cZ, bvZ, slZ, false⟩)) (by kernel_rfl) (by kernel_rfl) (wk8.setRow gk7 (Mg.cells ⟨21, a, b, 0, 0, k, ⟨n, 0⟩, spZ, slZ, cZ, bvZ, slZ, false⟩)) (run_store_to (cur := Mg.cs mgZ) (vs := Mg.cs ⟨21, a, b, 0, 0, k, ⟨n, 0⟩, spZ, slZ, cZ, bvZ, slZ, false⟩) (new := Mg.cs ⟨21, a, b, 0, 0, k, ⟨n, 0⟩, spZ, slZ, cZ, bvZ, slZ, false⟩) (HF.out.box 3 _ _ _ rfl) (by kernel_rfl) Try.size50 (Nat.le_of_ble_eq_true (by kernel_rfl)) (Mg.oneL _) (by kernel_rfl)) (by kernel_rfl) ?_
  try simp only [pS]
  have HF : Hid (Fr No w _ [(gk1, 37, Ad.cells a), (gk3, 37, Ad.cells b), (gk5, 39, Ky.cells k), (gk7, 46, Mg.cells ⟨21, a, b, 0, 0, k, ⟨n, 0⟩, spZ, slZ, cZ, bvZ, slZ, false⟩)]) := HF.out.set 3 rfl _
  generalize wk8.setRow gk7 (Mg.cells ⟨21, a, b, 0, 0, k, ⟨n, 0⟩, spZ, slZ, cZ, bvZ, slZ, false⟩) = wk9 at HF ⊢
  refine WL.nil ?_
  try simp only [pS]
  go_wp2
  rw [HC.out]
  refine bodyPost_ret (results_row1 (by rfl) _ _ gk7 (Mg.cells ⟨21, a, b, 0, 0, k, ⟨n, 0⟩, spZ, slZ, cZ, bvZ, slZ, false⟩) (by rfl) (run_load_part (cs := Mg.cs ⟨21, a, b, 0, 0, k, ⟨n, 0⟩, spZ, slZ, cZ, bvZ, slZ, false⟩) (sub := Mg.cs ⟨21, a, b, 0, 0, k, ⟨n, 0⟩, spZ, slZ, cZ, bvZ, slZ, false⟩) (HF.out.box 3 _ _ _ rfl) (Part.all _) Try.und50 rfl Try.size50)) rfl ?_
  exact ⟨rfl, HF.out.kept⟩
set_option maxRecDepth 100000 in
set_option maxHeartbeats 4000000 in
theorem askable_any (n : Int) (w : World) : Calls Try.prog 21 #[.int .i64 n] w (fun e w' => e = .returned (.bool (askB n)) ∧ w' = w) := by
  obtain ⟨C, hC⟩ : ∃ C : Ending → World → Prop, C = (fun e w' => e = .returned (.bool (askB n)) ∧ w' = w) := ⟨_, rfl⟩
  have HC : Hid (C = (fun e w' => e = .returned (.bool (askB n)) ∧ w' = w)) := hC
  rw [← hC]
  clear hC
  go_enter Try.func21, Try.ntmps21
  go_upto_region 0 with fail
  refine WL.start ?_
  refine tK (.bool false) ?_
  try simp only [pS]
  refine WL.nil ?_
  try simp only [pS]
  go_upto_region 1 with fail
  refine WL.start ?_
  refine tK (.int .i64 n) ?_
  try simp only [pS]
  cases q1 : (decide (1 ≤ n))
  ·skip
   refine tW (.bool false) (eB .geq 3 _ _ _ rfl (.int .i64 n) (.int .i64 1) _ (by rw [b_geq, q1]; try rfl)) ?_
   refine tK (.bool false) ?_
   refine sK ?_
   refine sK ?_
   refine tK (.bool false) ?_
   refine tK (.bool false) ?_
   try simp only [pS]
   refine WL.nil ?_
   try simp only [pS]
   go_wp2
   rw [HC.out]
   exact ⟨by simp [askB, q1], rfl⟩
  ·skip
   refine tW (.bool true) (eB .geq 3 _ _ _ rfl (.int .i64 n) (.int .i64 1) _ (by rw [b_geq, q1]; try rfl)) ?_
   refine tK (.bool true) ?_
   refine tK (.int .i64 n) ?_
   try simp only [pS]
   cases q2 : (decide (n ≤ 1048577))
   ·skip
    refine tW (.bool false) (eB .leq 3 _ _ _ rfl (.int .i64 n) (.int .i64 1048577) _ (by rw [b_leq, q2]; try rfl)) ?_
    refine tK (.bool false) ?_
    refine tK (.bool false) ?_
    try simp only [pS]
    refine WL.nil ?_
    try simp only [pS]
    go_wp2
    rw [HC.out]
    exact ⟨by simp [askB, q1, q2], rfl⟩
   ·skip
    refine tW (.bool true) (eB .leq 3 _ _ _ rfl (.int .i64 n) (.int .i64 1048577) _ (by rw [b_leq, q2]; try rfl)) ?_
    refine tK (.bool true) ?_
    refine tK (.bool true) ?_
    try simp only [pS]
    refine WL.nil ?_
    try simp only [pS]
    go_wp2
    rw [HC.out]
    exact ⟨by simp [askB, q1, q2], rfl⟩
set_option maxRecDepth 100000 in
set_option maxHeartbeats 4000000 in
theorem askOn_any (m : Mg) (n : Int) (w : World) : Calls Try.prog 30 #[.agg (Mg.cells m), .int .i64 n] w (fun e w' => e = .returned (.tuple #[.agg (Mg.cells (if moreB m then askM m.to m.fr m.ky n else mgZ)), .bool (moreB m)]) ∧ Kept No w w') := by
  obtain ⟨C, hC⟩ : ∃ C : Ending → World → Prop, C = (fun e w' => e = .returned (.tuple #[.agg (Mg.cells (if moreB m then askM m.to m.fr m.ky n else mgZ)), .bool (moreB m)]) ∧ Kept No w w') := ⟨_, rfl⟩
  have HC : Hid (C = (fun e w' => e = .returned (.tuple #[.agg (Mg.cells (if moreB m then askM m.to m.fr m.ky n else mgZ)), .bool (moreB m)]) ∧ Kept No w w')) := hC
  rw [← hC]
  clear hC
  have HF : Hid (Fr No w w []) := Fr.start _ _
  go_enter Try.func30, Try.ntmps30
  go_upto_region 0 with fail
  refine WL.start ?_
  refine wp_runW (.pointer (some ⟨w.heap.size, 0, none⟩)) (w.alloc (.cells (Mg.cells m) 46)) (exec_box 46 _ rfl (Mg.cells m) (by kernel_rfl)) (by kernel_rfl) ?_
  try simp only [pS]
  have HF : Hid (Fr No w _ [(w.heap.size, 46, Mg.cells m)]) := HF.out.alloc _ _
  generalize w.alloc (.cells (Mg.cells m) 46) = wk2 at HF ⊢
  generalize w.heap.size = gk1 at HF ⊢
  refine wp_runW (.pointer (some ⟨wk2.heap.size, 0, none⟩)) (wk2.alloc (.cells (Mg.cells mgZ) 46)) (exec_alloc 46 rfl (Mg.cells mgZ) zero50) (by kernel_rfl) ?_
  try simp only [pS]
  have HF : Hid (Fr No w _ [(gk1, 46, Mg.cells m), (wk2.heap.size, 46, Mg.cells mgZ)]) := HF.out.alloc _ _
  generalize wk2.alloc (.cells (Mg.cells mgZ) 46) = wk4 at HF ⊢
  generalize wk2.heap.size = gk3 at HF ⊢
  refine tK (.bool false) ?_
  try simp only [pS]
  refine WL.nil ?_
  try simp only [pS]
  go_upto_region 1 with fail
  refine WL.start ?_
  refine tK (.pointer (some ⟨gk1, 25, none⟩)) ?_
  refine tK (.pointer (some ⟨gk1, 25, none⟩)) ?_
  refine tW (.int .i64 m.bk.up) (eL 3 _ rfl ⟨gk1, 25, none⟩ (load_one ((HF.out.box 0 _ _ _ rfl).cell 25 |>.trans (by kernel_rfl)) Try.und3 rfl)) ?_
  try simp only [pS]
  cases q1 : (m.bk.up == 0)
  ·skip
   refine tW (.bool false) (eB .eql 3 _ _ _ rfl (.int .i64 m.bk.up) (.int .i64 0) _ (by rw [b_eql, q1]; try rfl)) ?_
   refine tK (.bool false) ?_
   refine sK ?_
   refine sK ?_
   refine sK ?_
   refine sK ?_
   refine tK (.bool false) ?_
   refine tK (.bool false) ?_
   try simp only [pS]
   refine WL.nil ?_
   try simp only [pS]
   go_upto_region 2 with fail
   refine WL.start ?_
   refine tK (.bool false) ?_
   refine tK (.bool false) ?_
   refine tK (.pointer (some ⟨gk1, 29, none⟩)) ?_
   refine tW (.bool m.mo) (eL 4 _ rfl ⟨gk1, 29, none⟩ (load_one ((HF.out.box 0 _ _ _ rfl).cell 29 |>.trans (by kernel_rfl)) Try.und4 rfl)) ?_
   try simp only [pS]
   cases q2 : (m.mo)
   ·skip
    try simp only [q2]
    refine tK (.bool true) ?_
    refine tK (.bool true) ?_
    try simp only [pS]
    refine WL.nil ?_
    try simp only [pS]
    go_upto_region 3 with fail
    refine WL.start ?_
    refine tW (.agg (Mg.cells mgZ)) (exec_build 46 _ rfl (Mg.cells mgZ) (by kernel_rfl)) ?_
    try simp only [pS]
    refine wp_storeW 46 _ _ rfl ⟨gk3, 0, none⟩ (.agg (Mg.cells mgZ)) (by kernel_rfl) (by kernel_rfl) (wk4.setRow gk3 (Mg.cells mgZ)) (run_store_to (cur := Mg.cs mgZ) (vs := Mg.cs mgZ) (new := Mg.cs mgZ) (HF.out.box 1 _ _ _ rfl) (by kernel_rfl) Try.size50 (Nat.le_of_ble_eq_true (by kernel_rfl)) (Mg.oneL _) (by kernel_rfl)) (by kernel_rfl) ?_
    try simp only [pS]
    have HF : Hid (Fr No w _ [(gk1, 46, Mg.cells m), (gk3, 46, Mg.cells mgZ)]) := HF.out.set 1 rfl _
    generalize wk4.setRow gk3 (Mg.cells mgZ) = wk5 at HF ⊢
    refine tK (.bool false) ?_
    try simp only [pS]
    refine WL.nil ?_
    try simp only [pS]
    go_wp2
    rw [HC.out]
    have hm : moreB m = false := by simp [moreB, q1, q2]
    rw [hm]
    refine bodyPost_ret (results_row_tmp (by rfl) _ _ gk3 (Mg.cells mgZ) (by rfl) (run_load_part (cs := Mg.cs mgZ) (sub := Mg.cs mgZ) (HF.out.box 1 _ _ _ rfl) (Part.all _) Try.und50 rfl Try.size50)) rfl ?_
    exact ⟨rfl, HF.out.kept⟩
   ·skip
    try simp only [q2]
    refine tK (.bool false) ?_
    refine tK (.bool false) ?_
    try simp only [pS]
    refine WL.nil ?_
    try simp only [pS]
    go_upto_region 4 with fail
    refine WL.start ?_
    refine tK (.pointer (some ⟨gk1, 3, none⟩)) ?_
    refine tW (.agg (Ad.cells m.to)) (eL 37 _ rfl ⟨gk1, 3, none⟩ (run_load_part (cs := Mg.cs m) (sub := Ad.cs m.to) (HF.out.box 0 _ _ _ rfl) (part_of (by kernel_rfl)) Try.und43 rfl Try.size43)) ?_
    refine tK (.pointer (some ⟨gk1, 1, none⟩)) ?_
    refine tW (.agg (Ad.cells m.fr)) (eL 37 _ rfl ⟨gk1, 1, none⟩ (run_load_part (cs := Mg.cs m) (sub := Ad.cs m.fr) (HF.out.box 0 _ _ _ rfl) (part_of (by kernel_rfl)) Try.und43 rfl Try.size43)) ?_
    refine tK (.pointer (some ⟨gk1, 7, none⟩)) ?_
    refine tW (.agg (Ky.cells m.ky)) (eL 39 _ rfl ⟨gk1, 7, none⟩ (run_load_part (cs := Mg.cs m) (sub := Ky.cs m.ky) (HF.out.box 0 _ _ _ rfl) (part_of (by kernel_rfl)) Try.und23 rfl Try.size23)) ?_
    refine tK (.int .i64 n) ?_
    try simp only [pS]
    refine wp_callW 35 #[.agg (Ad.cells m.to), .agg (Ad.cells m.fr), .agg (Ky.cells m.ky), .int .i64 n] (by kernel_rfl) _ (asking_any m.to m.fr m.ky n _) (by kernel_rfl) ?_
    rintro e wk6 ⟨rfl, hk⟩
    have HF : Hid (Fr No w (wk6) [(gk1, 46, Mg.cells m), (gk3, 46, Mg.cells mgZ)]) := HF.out.no hk
    clear hk
    refine ⟨.agg (Mg.cells ⟨21, m.to, m.fr, 0, 0, m.ky, ⟨n, 0⟩, spZ, slZ, cZ, bvZ, slZ, false⟩), rfl, ?_⟩
    try simp only [pS]
    refine wp_storeW 46 _ _ rfl ⟨gk3, 0, none⟩ (.agg (Mg.cells ⟨21, m.to, m.fr, 0, 0, m.ky, ⟨n, 0⟩, spZ, slZ, cZ, bvZ, slZ, false⟩)) (by kernel_rfl) (by kernel_rfl) (wk6.setRow gk3 (Mg.cells ⟨21, m.to, m.fr, 0, 0, m.ky, ⟨n, 0⟩, spZ, slZ, cZ, bvZ, slZ, false⟩)) (run_store_to (cur := Mg.cs mgZ) (vs := Mg.cs ⟨21, m.to, m.fr, 0, 0, m.ky, ⟨n, 0⟩, spZ, slZ, cZ, bvZ, slZ, false⟩) (new := Mg.cs ⟨21, m.to, m.fr, 0, 0, m.ky, ⟨n, 0⟩, spZ, slZ, cZ, bvZ, slZ, false⟩) (HF.out.box 1 _ _ _ rfl) (by kernel_rfl) Try.size50 (Nat.le_of_ble_eq_true (by kernel_rfl)) (Mg.oneL _) (by kernel_rfl)) (by kernel_rfl) ?_
    try simp only [pS]
    have HF : Hid (Fr No w _ [(gk1, 46, Mg.cells m), (gk3, 46, Mg.cells ⟨21, m.to, m.fr, 0, 0, m.ky, ⟨n, 0⟩, spZ, slZ, cZ, bvZ, slZ, false⟩)]) := HF.out.set 1 rfl _
    generalize wk6.setRow gk3 (Mg.cells ⟨21, m.to, m.fr, 0, 0, m.ky, ⟨n, 0⟩, spZ, slZ, cZ, bvZ, slZ, false⟩) = wk7 at HF ⊢
    refine tK (.bool true) ?_
    try simp only [pS]
    refine WL.nil ?_
    try simp only [pS]
    go_wp2
    rw [HC.out]
    have hm : moreB m = true := by simp [moreB, q1, q2]
    rw [hm]
    refine bodyPost_ret (results_row_tmp (by rfl) _ _ gk3 (Mg.cells ⟨21, m.to, m.fr, 0, 0, m.ky, ⟨n, 0⟩, spZ, slZ, cZ, bvZ, slZ, false⟩) (by rfl) (run_load_part (cs := Mg.cs ⟨21, m.to, m.fr, 0, 0, m.ky, ⟨n, 0⟩, spZ, slZ, cZ, bvZ, slZ, false⟩) (sub := Mg.cs ⟨21, m.to, m.fr, 0, 0, m.ky, ⟨n, 0⟩, spZ, slZ, cZ, bvZ, slZ, false⟩) (HF.out.box 1 _ _ _ rfl) (Part.all _) Try.und50 rfl Try.size50)) rfl ?_
    exact ⟨rfl, HF.out.kept⟩
  ·skip
   refine tW (.bool true) (eB .eql 3 _ _ _ rfl (.int .i64 m.bk.up) (.int .i64 0) _ (by rw [b_eql, q1]; try rfl)) ?_
   refine tK (.bool true) ?_
   refine tK (.pointer (some ⟨gk1, 28, none⟩)) ?_
   refine tW (m.cm.v) (eL 44 _ rfl ⟨gk1, 28, none⟩ (load_one ((HF.out.box 0 _ _ _ rfl).cell 28 |>.trans (by kernel_rfl)) Try.und48 rfl)) ?_
   refine tK (.int .i64 ((m.cm.l : Nat) : Int)) ?_
   try simp only [pS]
   cases q3 : (((m.cm.l : Nat) : Int) == 0)
   ·skip
    refine tW (.bool false) (eB .eql 3 _ _ _ rfl (.int .i64 ((m.cm.l : Nat) : Int)) (.int .i64 0) _ (by rw [b_eql, q3]; try rfl)) ?_
    refine tK (.bool false) ?_
    refine tK (.bool false) ?_
    try simp only [pS]
    refine WL.nil ?_
    try simp only [pS]
    go_upto_region 2 with fail
    refine WL.start ?_
    refine tK (.bool false) ?_
    refine tK (.bool false) ?_
    refine tK (.pointer (some ⟨gk1, 29, none⟩)) ?_
    refine tW (.bool m.mo) (eL 4 _ rfl ⟨gk1, 29, none⟩ (load_one ((HF.out.box 0 _ _ _ rfl).cell 29 |>.trans (by kernel_rfl)) Try.und4 rfl)) ?_
    try simp only [pS]
    cases q4 : (m.mo)
    ·skip
     try simp only [q4]
     refine tK (.bool true) ?_
     refine tK (.bool true) ?_
     try simp only [pS]
     refine WL.nil ?_
     try simp only [pS]
     go_upto_region 3 with fail
     refine WL.start ?_
     refine tW (.agg (Mg.cells mgZ)) (exec_build 46 _ rfl (Mg.cells mgZ) (by kernel_rfl)) ?_
     try simp only [pS]
     refine wp_storeW 46 _ _ rfl ⟨gk3, 0, none⟩ (.agg (Mg.cells mgZ)) (by kernel_rfl) (by kernel_rfl) (wk4.setRow gk3 (Mg.cells mgZ)) (run_store_to (cur := Mg.cs mgZ) (vs := Mg.cs mgZ) (new := Mg.cs mgZ) (HF.out.box 1 _ _ _ rfl) (by kernel_rfl) Try.size50 (Nat.le_of_ble_eq_true (by kernel_rfl)) (Mg.oneL _) (by kernel_rfl)) (by kernel_rfl) ?_
     try simp only [pS]
     have HF : Hid (Fr No w _ [(gk1, 46, Mg.cells m), (gk3, 46, Mg.cells mgZ)]) := HF.out.set 1 rfl _
     generalize wk4.setRow gk3 (Mg.cells mgZ) = wk8 at HF ⊢
     refine tK (.bool false) ?_
     try simp only [pS]
     refine WL.nil ?_
     try simp only [pS]
     go_wp2
     rw [HC.out]
     have hm : moreB m = false := by simp [moreB, q1, q3, q4]
     rw [hm]
     refine bodyPost_ret (results_row_tmp (by rfl) _ _ gk3 (Mg.cells mgZ) (by rfl) (run_load_part (cs := Mg.cs mgZ) (sub := Mg.cs mgZ) (HF.out.box 1 _ _ _ rfl) (Part.all _) Try.und50 rfl Try.size50)) rfl ?_
     exact ⟨rfl, HF.out.kept⟩
    ·skip
     try simp only [q4]
     refine tK (.bool false) ?_
     refine tK (.bool false) ?_
     try simp only [pS]
     refine WL.nil ?_
     try simp only [pS]
     go_upto_region 4 with fail
     refine WL.start ?_
     refine tK (.pointer (some ⟨gk1, 3, none⟩)) ?_
     refine tW (.agg (Ad.cells m.to)) (eL 37 _ rfl ⟨gk1, 3, none⟩ (run_load_part (cs := Mg.cs m) (sub := Ad.cs m.to) (HF.out.box 0 _ _ _ rfl) (part_of (by kernel_rfl)) Try.und43 rfl Try.size43)) ?_
     refine tK (.pointer (some ⟨gk1, 1, none⟩)) ?_
     refine tW (.agg (Ad.cells m.fr)) (eL 37 _ rfl ⟨gk1, 1, none⟩ (run_load_part (cs := Mg.cs m) (sub := Ad.cs m.fr) (HF.out.box 0 _ _ _ rfl) (part_of (by kernel_rfl)) Try.und43 rfl Try.size43)) ?_
     refine tK (.pointer (some ⟨gk1, 7, none⟩)) ?_
     refine tW (.agg (Ky.cells m.ky)) (eL 39 _ rfl ⟨gk1, 7, none⟩ (run_load_part (cs := Mg.cs m) (sub := Ky.cs m.ky) (HF.out.box 0 _ _ _ rfl) (part_of (by kernel_rfl)) Try.und23 rfl Try.size23)) ?_
     refine tK (.int .i64 n) ?_
     try simp only [pS]
     refine wp_callW 35 #[.agg (Ad.cells m.to), .agg (Ad.cells m.fr), .agg (Ky.cells m.ky), .int .i64 n] (by kernel_rfl) _ (asking_any m.to m.fr m.ky n _) (by kernel_rfl) ?_
     rintro e wk9 ⟨rfl, hk⟩
     have HF : Hid (Fr No w (wk9) [(gk1, 46, Mg.cells m), (gk3, 46, Mg.cells mgZ)]) := HF.out.no hk
     clear hk
     refine ⟨.agg (Mg.cells ⟨21, m.to, m.fr, 0, 0, m.ky, ⟨n, 0⟩, spZ, slZ, cZ, bvZ, slZ, false⟩), rfl, ?_⟩
     try simp only [pS]
     refine wp_storeW 46 _ _ rfl ⟨gk3, 0, none⟩ (.agg (Mg.cells ⟨21, m.to, m.fr, 0, 0, m.ky, ⟨n, 0⟩, spZ, slZ, cZ, bvZ, slZ, false⟩)) (by kernel_rfl) (by kernel_rfl) (wk9.setRow gk3 (Mg.cells ⟨21, m.to, m.fr, 0, 0, m.ky, ⟨n, 0⟩, spZ, slZ, cZ, bvZ, slZ, false⟩)) (run_store_to (cur := Mg.cs mgZ) (vs := Mg.cs ⟨21, m.to, m.fr, 0, 0, m.ky, ⟨n, 0⟩, spZ, slZ, cZ, bvZ, slZ, false⟩) (new := Mg.cs ⟨21, m.to, m.fr, 0, 0, m.ky, ⟨n, 0⟩, spZ, slZ, cZ, bvZ, slZ, false⟩) (HF.out.box 1 _ _ _ rfl) (by kernel_rfl) Try.size50 (Nat.le_of_ble_eq_true (by kernel_rfl)) (Mg.oneL _) (by kernel_rfl)) (by kernel_rfl) ?_
     try simp only [pS]
     have HF : Hid (Fr No w _ [(gk1, 46, Mg.cells m), (gk3, 46, Mg.cells ⟨21, m.to, m.fr, 0, 0, m.ky, ⟨n, 0⟩, spZ, slZ, cZ, bvZ, slZ, false⟩)]) := HF.out.set 1 rfl _
     generalize wk9.setRow gk3 (Mg.cells ⟨21, m.to, m.fr, 0, 0, m.ky, ⟨n, 0⟩, spZ, slZ, cZ, bvZ, slZ, false⟩) = wk10 at HF ⊢
     refine tK (.bool true) ?_
     try simp only [pS]
     refine WL.nil ?_
     try simp only [pS]
     go_wp2
     rw [HC.out]
     have hm : moreB m = true := by simp [moreB, q1, q3, q4]
     rw [hm]
     refine bodyPost_ret (results_row_tmp (by rfl) _ _ gk3 (Mg.cells ⟨21, m.to, m.fr, 0, 0, m.ky, ⟨n, 0⟩, spZ, slZ, cZ, bvZ, slZ, false⟩) (by rfl) (run_load_part (cs := Mg.cs ⟨21, m.to, m.fr, 0, 0, m.ky, ⟨n, 0⟩, spZ, slZ, cZ, bvZ, slZ, false⟩) (sub := Mg.cs ⟨21, m.to, m.fr, 0, 0, m.ky, ⟨n, 0⟩, spZ, slZ, cZ, bvZ, slZ, false⟩) (HF.out.box 1 _ _ _ rfl) (Part.all _) Try.und50 rfl Try.size50)) rfl ?_
     exact ⟨rfl, HF.out.kept⟩
   ·skip
    refine tW (.bool true) (eB .eql 3 _ _ _ rfl (.int .i64 ((m.cm.l : Nat) : Int)) (.int .i64 0) _ (by rw [b_eql, q3]; try rfl)) ?_
    refine tK (.bool true) ?_
    refine tK (.bool true) ?_
    try simp only [pS]
    refine WL.nil ?_
    try simp only [pS]
    go_upto_region 2 with fail
    refine WL.start ?_
    refine tK (.bool true) ?_
    refine tK (.bool true) ?_
    refine sK ?_
    refine sK ?_
    refine sK ?_
    refine tK (.bool true) ?_
    try simp only [pS]
    refine WL.nil ?_
    try simp only [pS]
    go_upto_region 3 with fail
    refine WL.start ?_
    refine tW (.agg (Mg.cells mgZ)) (exec_build 46 _ rfl (Mg.cells mgZ) (by kernel_rfl)) ?_
    try simp only [pS]
    refine wp_storeW 46 _ _ rfl ⟨gk3, 0, none⟩ (.agg (Mg.cells mgZ)) (by kernel_rfl) (by kernel_rfl) (wk4.setRow gk3 (Mg.cells mgZ)) (run_store_to (cur := Mg.cs mgZ) (vs := Mg.cs mgZ) (new := Mg.cs mgZ) (HF.out.box 1 _ _ _ rfl) (by kernel_rfl) Try.size50 (Nat.le_of_ble_eq_true (by kernel_rfl)) (Mg.oneL _) (by kernel_rfl)) (by kernel_rfl) ?_
    try simp only [pS]
    have HF : Hid (Fr No w _ [(gk1, 46, Mg.cells m), (gk3, 46, Mg.cells mgZ)]) := HF.out.set 1 rfl _
    generalize wk4.setRow gk3 (Mg.cells mgZ) = wk11 at HF ⊢
    refine tK (.bool false) ?_
    try simp only [pS]
    refine WL.nil ?_
    try simp only [pS]
    go_wp2
    rw [HC.out]
    have hm : moreB m = false := by simp [moreB, q1, q3]
    rw [hm]
    refine bodyPost_ret (results_row_tmp (by rfl) _ _ gk3 (Mg.cells mgZ) (by rfl) (run_load_part (cs := Mg.cs mgZ) (sub := Mg.cs mgZ) (HF.out.box 1 _ _ _ rfl) (Part.all _) Try.und50 rfl Try.size50)) rfl ?_
    exact ⟨rfl, HF.out.kept⟩
set_option maxRecDepth 100000 in
set_option maxHeartbeats 4000000 in
theorem less_any (a b : Sp) (w : World) : Calls Try.prog 41 #[.agg (Sp.cells a), .agg (Sp.cells b)] w (fun e w' => e = .returned (.bool (lessB a b)) ∧ Kept No w w') := by
  obtain ⟨C, hC⟩ : ∃ C : Ending → World → Prop, C = (fun e w' => e = .returned (.bool (lessB a b)) ∧ Kept No w w') := ⟨_, rfl⟩
  have HC : Hid (C = (fun e w' => e = .returned (.bool (lessB a b)) ∧ Kept No w w')) := hC
  rw [← hC]
  clear hC
  have HF : Hid (Fr No w w []) := Fr.start _ _
  go_enter Try.func41, Try.ntmps41
  go_upto_region 0 with fail
  refine WL.start ?_
  refine wp_runW (.pointer (some ⟨w.heap.size, 0, none⟩)) (w.alloc (.cells (Sp.cells a) 23)) (exec_box 23 _ rfl (Sp.cells a) (by kernel_rfl)) (by kernel_rfl) ?_
  try simp only [pS]
  have HF : Hid (Fr No w _ [(w.heap.size, 23, Sp.cells a)]) := HF.out.alloc _ _
  generalize w.alloc (.cells (Sp.cells a) 23) = wk2 at HF ⊢
  generalize w.heap.size = gk1 at HF ⊢
  refine wp_runW (.pointer (some ⟨wk2.heap.size, 0, none⟩)) (wk2.alloc (.cells (Sp.cells b) 23)) (exec_box 23 _ rfl (Sp.cells b) (by kernel_rfl)) (by kernel_rfl) ?_
  try simp only [pS]
  have HF : Hid (Fr No w _ [(gk1, 23, Sp.cells a), (wk2.heap.size, 23, Sp.cells b)]) := HF.out.alloc _ _
  generalize wk2.alloc (.cells (Sp.cells b) 23) = wk4 at HF ⊢
  generalize wk2.heap.size = gk3 at HF ⊢
  refine tK (.bool false) ?_
  try simp only [pS]
  refine WL.nil ?_
  try simp only [pS]
  go_upto_region 1 with fail
  refine WL.start ?_
  refine tK (.pointer (some ⟨gk1, 0, none⟩)) ?_
  refine tW (.int .i64 a.n) (eL 3 _ rfl ⟨gk1, 0, none⟩ (load_one ((HF.out.box 0 _ _ _ rfl).cell 0 |>.trans (by kernel_rfl)) Try.und3 rfl)) ?_
  refine tK (.pointer (some ⟨gk3, 0, none⟩)) ?_
  refine tW (.int .i64 b.n) (eL 3 _ rfl ⟨gk3, 0, none⟩ (load_one ((HF.out.box 1 _ _ _ rfl).cell 0 |>.trans (by kernel_rfl)) Try.und3 rfl)) ?_
  try simp only [pS]
  cases q1 : (a.n == b.n)
  ·skip
   refine tW (.bool true) (eB .neq 3 _ _ _ rfl (.int .i64 a.n) (.int .i64 b.n) _ (by rw [b_neq, q1]; try rfl)) ?_
   try simp only [pS]
   refine WL.nil ?_
   try simp only [pS]
   go_upto_region 2 with fail
   refine WL.start ?_
   refine tK (.pointer (some ⟨gk1, 0, none⟩)) ?_
   refine tW (.int .i64 a.n) (eL 3 _ rfl ⟨gk1, 0, none⟩ (load_one ((HF.out.box 0 _ _ _ rfl).cell 0 |>.trans (by kernel_rfl)) Try.und3 rfl)) ?_
   refine tK (.pointer (some ⟨gk3, 0, none⟩)) ?_
   refine tW (.int .i64 b.n) (eL 3 _ rfl ⟨gk3, 0, none⟩ (load_one ((HF.out.box 1 _ _ _ rfl).cell 0 |>.trans (by kernel_rfl)) Try.und3 rfl)) ?_
   try simp only [pS]
   cases q2 : (decide (a.n < b.n))
   ·skip
    refine tW (.bool false) (eB .lss 3 _ _ _ rfl (.int .i64 a.n) (.int .i64 b.n) _ (by rw [b_lss, q2]; try rfl)) ?_
    refine tK (.bool false) ?_
    try simp only [pS]
    refine WL.nil ?_
    try simp only [pS]
    go_wp2
    rw [HC.out]
    exact ⟨by simp [lessB, q1, q2], HF.out.kept⟩
   ·skip
    refine tW (.bool true) (eB .lss 3 _ _ _ rfl (.int .i64 a.n) (.int .i64 b.n) _ (by rw [b_lss, q2]; try rfl)) ?_
    refine tK (.bool true) ?_
    try simp only [pS]
    refine WL.nil ?_
    try simp only [pS]
    go_wp2
    rw [HC.out]
    exact ⟨by simp [lessB, q1, q2], HF.out.kept⟩
  ·skip
   refine tW (.bool false) (eB .neq 3 _ _ _ rfl (.int .i64 a.n) (.int .i64 b.n) _ (by rw [b_neq, q1]; try rfl)) ?_
   try simp only [pS]
   refine WL.nil ?_
   try simp only [pS]
   go_upto_region 3 with fail
   refine WL.start ?_
   refine tK (.pointer (some ⟨gk1, 1, none⟩)) ?_
   refine tW (.int .i64 a.c) (eL 3 _ rfl ⟨gk1, 1, none⟩ (load_one ((HF.out.box 0 _ _ _ rfl).cell 1 |>.trans (by kernel_rfl)) Try.und3 rfl)) ?_
   refine tK (.pointer (some ⟨gk3, 1, none⟩)) ?_
   refine tW (.int .i64 b.c) (eL 3 _ rfl ⟨gk3, 1, none⟩ (load_one ((HF.out.box 1 _ _ _ rfl).cell 1 |>.trans (by kernel_rfl)) Try.und3 rfl)) ?_
   try simp only [pS]
   cases q3 : (decide (a.c < b.c))
   ·skip
    refine tW (.bool false) (eB .lss 3 _ _ _ rfl (.int .i64 a.c) (.int .i64 b.c) _ (by rw [b_lss, q3]; try rfl)) ?_
    refine tK (.bool false) ?_
    try simp only [pS]
    refine WL.nil ?_
    try simp only [pS]
    go_wp2
    rw [HC.out]
    exact ⟨by simp [lessB, q1, q3], HF.out.kept⟩
   ·skip
    refine tW (.bool true) (eB .lss 3 _ _ _ rfl (.int .i64 a.c) (.int .i64 b.c) _ (by rw [b_lss, q3]; try rfl)) ?_
    refine tK (.bool true) ?_
    try simp only [pS]
    refine WL.nil ?_
    try simp only [pS]
    go_wp2
    rw [HC.out]
    exact ⟨by simp [lessB, q1, q3], HF.out.kept⟩

end Go.Proofs.Ytcgnbpaaalmkoab
