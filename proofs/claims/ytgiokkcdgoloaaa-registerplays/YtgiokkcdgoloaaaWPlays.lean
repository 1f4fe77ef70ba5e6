import Derived.Test.YtgiokkcdgoloaaaUe
namespace Go.Proofs.Ytgiokkcdgoloaaa.Md
open Go.RowKit
set_option linter.unusedVariables false
set_option linter.unusedSimpArgs false

theorem made_any (wr : Bool) (cl op : Int) (ky : Ky) (sa : Option Addr) (n sk : Nat) (rd sz : Int) (da : Option Addr) (dl dk : Nat) (gs zs : List Int) (w : World) (hg : RdI w ⟨sa, n, sk⟩ gs) (hg0 : sa = none → sk = 0) (hn : n ≤ 100) (hb : RdB w ⟨da, dl, dk⟩ zs) (hl : dl ≤ 140737488351232) (hoff : zs ≠ [] → ∀ k, At da k → k < w.heap.size) :
    Calls Try.prog 10 #[.agg (Aq.cells ⟨wr, cl, op, ky, ⟨sa, n, sk⟩, rd, sz, ⟨da, dl, dk⟩⟩)] w (MadO w (newS wr cl op ky gs rd sz zs) (newR wr cl op ky gs rd sz ⟨da, dl, dk⟩)) := by
  cases wr with
  | true => exact made_t cl op ky sa n sk rd sz da dl dk gs zs w hg hg0 hn hb hl hoff
  | false => exact made_f cl op ky sa n sk rd sz da dl dk gs zs w hg hg0 hn hb hl hoff
theorem At.eq {b off k : Nat} (h : At (some ⟨b, off, none⟩) k) : k = b := by
  obtain ⟨ad, e, rfl⟩ := h
  cases e
  rfl
theorem rdB_lt {w : World} {l : Sl} {z : List Int} (h : RdB w l z) : z ≠ [] → ∀ k, At l.a k → k < w.heap.size := fun hne k e => by
  obtain ⟨b, off, ha, hc⟩ := h.row 0 (List.length_pos_iff.2 hne)
  rw [ha] at e
  rw [At.eq e]
  exact World.block_lt_of_cell? _ _ hc
theorem rows_lt {n : Nat} {w : World} {a : Option Addr} {xs : List (List Value)} (h : RowsAt n w a xs) (h1 : ∀ x ∈ xs, x ≠ []) : xs ≠ [] → ∀ k, At a k → k < w.heap.size := fun hne k e => by
  cases xs with
  | nil => exact absurd rfl hne
  | cons it r =>
    obtain ⟨b, off, ha, hc⟩ := h 0 it rfl
    rw [ha] at e
    rw [At.eq e]
    cases it with
    | nil => exact absurd rfl (h1 [] (by simp))
    | cons v _ => exact World.block_lt_of_cell? _ _ (hc 0 v rfl)
theorem MgIn.ok {w w1 : World} {d : Mg} {zs : List Int} {es : List En} {ls : List La} {cs : List Cm} (h : MgIn w d zs es ls cs) (hk : Kept No w w1) (h63 : -9223372036854775808 ≤ d.st.n) : MgOk w1 w1 d zs es ls cs := by
  have hs := hk.size
  refine ⟨h.no hk, fun hne k e => ?_, fun hne k e => ?_, fun hne k e => ?_, fun hne k e => ?_, h63⟩
  · have := rdB_lt h.b hne k e; omega
  · have := rows_lt h.e.row (by intro x hx; obtain ⟨y, _, rfl⟩ := List.mem_map.1 hx; exact List.cons_ne_nil _ _) (by simpa using hne) k e; omega
  · have := rows_lt h.l.row (by intro x hx; obtain ⟨y, _, rfl⟩ := List.mem_map.1 hx; exact List.cons_ne_nil _ _) (by simpa using hne) k e; omega
  · have := rows_lt h.c.row (by intro x hx; obtain ⟨y, _, rfl⟩ := List.mem_map.1 hx; exact List.cons_ne_nil _ _) (by simpa using hne) k e; omega
/-- Steps that came in. -/
structure RdS (w : World) (t : Sl) (xs : List Stp) : Prop where
  row : RowsAt 31 w t.a (xs.map Stp.cs)
  len : xs.length = t.l
  each : ∀ x ∈ xs, ∃ (bs : List Int) (es : List En) (ls : List La) (cs : List Cm), MgIn w x.m bs es ls cs ∧ -9223372036854775808 ≤ x.m.st.n
theorem RdS.at {w : World} {t : Sl} {xs : List Stp} (h : RdS w t xs) {i : Nat} (hi : i < t.l) : ∃ tb tq a bs es ls cs, t.a = some ⟨tb, tq, none⟩ ∧ (∀ (j : Nat) v, (Stp.cs a)[j]? = some v → w.cell? ⟨tb, tq + i * 31 + j, none⟩ = some v) ∧ MgIn w a.m bs es ls cs ∧ -9223372036854775808 ≤ a.m.st.n := by
  have hx : xs[i]? = some (xs[i]'(by rw [h.len]; exact hi)) := List.getElem?_eq_getElem _
  obtain ⟨b, off, e, hc⟩ := h.row i _ (by rw [List.getElem?_map, hx]; rfl)
  obtain ⟨bs, es, ls, cs, h1, h2⟩ := h.each _ (List.mem_of_getElem? hx)
  exact ⟨b, off, _, bs, es, ls, cs, e, hc, h1, h2⟩
theorem E28 : Try.prog.underlying 28 = some (.slice (Try.prog.elem 28)) := by kernel_rfl
theorem F28 : (Try.prog.info? (Try.prog.elem 28)).map (·.size) = some 31 := by kernel_rfl
set_option maxRecDepth 100000 in
set_option maxHeartbeats 4000000 in
theorem playsWalk (wr : Bool) (cl op : Int) (ky : Ky) (sa : Option Addr) (n sk : Nat) (rd sz : Int) (da : Option Addr) (dl dk : Nat) (gs zs : List Int) (t : Sl) (xs : List Stp) (w : World) (hg : RdI w ⟨sa, n, sk⟩ gs) (hg0 : sa = none → sk = 0) (hb : RdB w ⟨da, dl, dk⟩ zs) (hl : dl ≤ 140737488351232) (hT : RdS w t xs) (htn : t.l ≤ 140737488351232) : Calls Try.prog 3 #[.agg (Aq.cells ⟨wr, cl, op, ky, ⟨sa, n, sk⟩, rd, sz, ⟨da, dl, dk⟩⟩), t.v] w (fun e w' => e = .returned (.bool true) ∧ Kept No w w') := by
  obtain ⟨C, hC⟩ : ∃ C : Ending → World → Prop, C = (fun e w' => e = .returned (.bool true) ∧ Kept No w w') := ⟨_, rfl⟩
  have HC : Hid (C = (fun e w' => e = .returned (.bool true) ∧ Kept No w w')) := hC
  rw [← hC]
  clear hC
  have HG : Hid (RdI w ⟨sa, n, sk⟩ gs) := hg
  have HD : Hid (RdB w ⟨da, dl, dk⟩ zs) := hb
  have HT : Hid (RdS w t xs) := hT
  have hoff := rdB_lt hb
  clear hg hb hT
  have HF : Hid (Fq No w w []) := Fq.start _ _
  go_enter Try.func3, Try.ntmps3
  go_upto_region 0 with fail
  refine WL.start ?_
  refine uR (.pointer (some ⟨w.heap.size, 0, none⟩)) (w.alloc (.cells (Aq.cells ⟨wr, cl, op, ky, ⟨sa, n, sk⟩, rd, sz, ⟨da, dl, dk⟩⟩) 27)) (exec_box 27 _ rfl (Aq.cells ⟨wr, cl, op, ky, ⟨sa, n, sk⟩, rd, sz, ⟨da, dl, dk⟩⟩) (by kernel_rfl)) ?_
  try simp only [pS]
  have HF : Hid (Fq No w (w.alloc (.cells (Aq.cells ⟨wr, cl, op, ky, ⟨sa, n, sk⟩, rd, sz, ⟨da, dl, dk⟩⟩) 27)) [(w.heap.size, 27, Aq.cells ⟨wr, cl, op, ky, ⟨sa, n, sk⟩, rd, sz, ⟨da, dl, dk⟩⟩)]) := HF.out.alloc _ _
  generalize w.alloc (.cells (Aq.cells ⟨wr, cl, op, ky, ⟨sa, n, sk⟩, rd, sz, ⟨da, dl, dk⟩⟩) 27) = wk2 at HF ⊢
  generalize hzgk1 : w.heap.size = gk1 at HF ⊢
  refine uK (.bool false) <| WL.nil <| ?_
  try simp only [pS]
  go_upto_region 1 with fail
  refine WL.start <| uK (.pointer (some ⟨gk1, 7, none⟩)) <| uL 24 ⟨gk1, 7, none⟩ (.slice sa n sk) (load_one ((HF.out.box 0 _ _ _ rfl).cell 7 |>.trans (by kernel_rfl)) U24 rfl) <| uK (.int .i64 ((n : Nat) : Int)) <| ?_
  try simp only [pS]
  cases q1 : (decide (100 < ((n : Nat) : Int)))
  ·skip
   refine uB .gtr 3 (.int .i64 ((n : Nat) : Int)) (.int .i64 100) (.bool false) (by rw [b_gtr, q1]; try rfl) <| WL.nil <| ?_
   try simp only [pS]
   go_upto_region 3 with fail
   refine WL.start <| uL 27 ⟨gk1, 0, none⟩ (.agg (Aq.cells ⟨wr, cl, op, ky, ⟨sa, n, sk⟩, rd, sz, ⟨da, dl, dk⟩⟩)) (run_load_part (cs := Aq.cs ⟨wr, cl, op, ky, ⟨sa, n, sk⟩, rd, sz, ⟨da, dl, dk⟩⟩) (sub := Aq.cs ⟨wr, cl, op, ky, ⟨sa, n, sk⟩, rd, sz, ⟨da, dl, dk⟩⟩) (HF.out.box 0 _ _ _ rfl) (Part.all _) U27 rfl S27) <| ?_
   try simp only [pS]
   refine uC 10 #[.agg (Aq.cells ⟨wr, cl, op, ky, ⟨sa, n, sk⟩, rd, sz, ⟨da, dl, dk⟩⟩)] (made_any wr cl op ky sa n sk rd sz da dl dk gs zs wk2 ⟨Nums.kept HG.out.row HF.out.kept (fun _ _ _ e => e), HG.out.len⟩ hg0 (by have := of_decide_eq_false q1; omega) (HD.out.no HF.out.kept) hl (fun hne k e => by have := hoff hne k e; have := HF.out.kept.size; omega)) ?_
   rintro e wk3 ⟨m, r, g, I, rfl, hW, hR⟩
   have HK1 : Hid (Kept No w wk2) := HF.out.kept
   have hg1 : gk1 < wk2.heap.size := (HF.out.box 0 _ _ _ rfl).lt
   have hk : Kept No wk2 wk3 := hW.kp.mono (fun k l e => by have : wk2.heap.size ≤ k := e; omega)
   have HF : Hid (Fq No w (wk3) [(gk1, 27, Aq.cells ⟨wr, cl, op, ky, ⟨sa, n, sk⟩, rd, sz, ⟨da, dl, dk⟩⟩)]) := HF.out.no hk
   have hlt : ∀ k, I k ∨ Jx r g none k → k < wk3.heap.size := fun k e => e.elim (fun e => (hW.ia k e).2.1) (fun e => hW.ref.lt e)
   have HW0 : Hid (Wq wk2 wk3 I m r g none (newS wr cl op ky gs rd sz zs) (newR wr cl op ky gs rd sz ⟨da, dl, dk⟩)) := hW
   have HR0 : Hid (RelW wk3 I (Jx r g none) (newS wr cl op ky gs rd sz zs) (newR wr cl op ky gs rd sz ⟨da, dl, dk⟩)) := hR
   have HKl : Hid (Kept No wk3 wk3) := Kept.refl No _
   clear hk hW hR
   refine ⟨.tuple #[.agg #[.iface 115 (.pointer (some ⟨m, 0, none⟩)), .pointer (some ⟨r, 0, none⟩)], .bool true], rfl, ?_⟩
   try simp only [pS]
   refine uK (.tuple #[.agg #[.iface 115 (.pointer (some ⟨m, 0, none⟩)), .pointer (some ⟨r, 0, none⟩)], .bool true]) <| uK (.agg #[.iface 115 (.pointer (some ⟨m, 0, none⟩)), .pointer (some ⟨r, 0, none⟩)]) <| uK (.bool true) <| ?_
   try simp only [pS]
   refine uR (.pointer (some ⟨wk3.heap.size, 0, none⟩)) (wk3.alloc (.cells (#[.nilIface, .pointer none]) 34)) (exec_alloc 34 rfl (#[.nilIface, .pointer none]) Z34) ?_
   try simp only [pS]
   have HKl : Hid (Kept No wk3 (wk3.alloc (.cells (#[.nilIface, .pointer none]) 34))) := HKl.out.alloc _
   have HF : Hid (Fq No w (wk3.alloc (.cells (#[.nilIface, .pointer none]) 34)) [(gk1, 27, Aq.cells ⟨wr, cl, op, ky, ⟨sa, n, sk⟩, rd, sz, ⟨da, dl, dk⟩⟩), (wk3.heap.size, 34, #[.nilIface, .pointer none])]) := HF.out.alloc _ _
   generalize wk3.alloc (.cells (#[.nilIface, .pointer none]) 34) = wk5 at HF HKl ⊢
   generalize hzgk4 : wk3.heap.size = gk4 at HF ⊢
   refine uT 34 ⟨gk4, 0, none⟩ (.agg #[.iface 115 (.pointer (some ⟨m, 0, none⟩)), .pointer (some ⟨r, 0, none⟩)]) (wk5.setRow gk4 (#[.iface 115 (.pointer (some ⟨m, 0, none⟩)), .pointer (some ⟨r, 0, none⟩)])) (rs ([.nilIface, .pointer none]) ([.iface 115 (.pointer (some ⟨m, 0, none⟩)), .pointer (some ⟨r, 0, none⟩)]) ([.iface 115 (.pointer (some ⟨m, 0, none⟩)), .pointer (some ⟨r, 0, none⟩)]) (HF.out.box 1 _ _ _ rfl) S34 (by simp [Value.oneCell'])) ?_
   try simp only [pS]
   have HKl : Hid (Kept No wk3 (wk5.setRow gk4 (#[.iface 115 (.pointer (some ⟨m, 0, none⟩)), .pointer (some ⟨r, 0, none⟩)]))) := kept_row HKl.out (.inl (Nat.le_of_eq hzgk4)) _
   have HF : Hid (Fq No w (wk5.setRow gk4 (#[.iface 115 (.pointer (some ⟨m, 0, none⟩)), .pointer (some ⟨r, 0, none⟩)])) [(gk1, 27, Aq.cells ⟨wr, cl, op, ky, ⟨sa, n, sk⟩, rd, sz, ⟨da, dl, dk⟩⟩), (gk4, 34, #[.iface 115 (.pointer (some ⟨m, 0, none⟩)), .pointer (some ⟨r, 0, none⟩)])]) := HF.out.set 1 rfl _
   generalize wk5.setRow gk4 (#[.iface 115 (.pointer (some ⟨m, 0, none⟩)), .pointer (some ⟨r, 0, none⟩)]) = wk6 at HF HKl ⊢
   refine uK (.bool true) <| WL.nil <| ?_
   try simp only [pS]
   go_upto_region 4 with fail
   refine WL.start <| uK (.bool true) <| uK (.bool false) <| uK (.bool false) <| uL 34 ⟨gk4, 0, none⟩ (.agg #[.iface 115 (.pointer (some ⟨m, 0, none⟩)), .pointer (some ⟨r, 0, none⟩)]) (run_load_part (cs := [.iface 115 (.pointer (some ⟨m, 0, none⟩)), .pointer (some ⟨r, 0, none⟩)]) (sub := [.iface 115 (.pointer (some ⟨m, 0, none⟩)), .pointer (some ⟨r, 0, none⟩)]) (HF.out.box 1 _ _ _ rfl) (Part.all _) U34 rfl S34) <| ?_
   try simp only [pS]
   refine uC 11 #[.agg #[.iface 115 (.pointer (some ⟨m, 0, none⟩)), .pointer (some ⟨r, 0, none⟩)]] (look_any wk2 I m r g none _ _ wk6 (HW0.out.no HKl.out) (HR0.out.no HKl.out)) ?_
   rintro e wk7 ⟨rfl, hk⟩
   have HKl : Hid (Kept No wk3 (wk7)) := HKl.out.then hk
   have HF : Hid (Fq No w (wk7) [(gk1, 27, Aq.cells ⟨wr, cl, op, ky, ⟨sa, n, sk⟩, rd, sz, ⟨da, dl, dk⟩⟩), (gk4, 34, #[.iface 115 (.pointer (some ⟨m, 0, none⟩)), .pointer (some ⟨r, 0, none⟩)])]) := HF.out.no hk
   clear hk
   refine ⟨.bool true, rfl, ?_⟩
   try simp only [pS]
   refine uK (.bool false) <| uK (.bool false) <| WL.nil <| ?_
   try simp only [pS]
   go_upto_region 6 with fail
   refine WL.start <| uK (.int .i64 0) <| WL.nil <| ?_
   try simp only [pS]
   have HW : Hid (Wq wk2 wk7 I m r g none (newS wr cl op ky gs rd sz zs) (newR wr cl op ky gs rd sz ⟨da, dl, dk⟩)) := HW0.out.no HKl.out
   have HR : Hid (RelW wk7 I (Jx r g none) (newS wr cl op ky gs rd sz zs) (newR wr cl op ky gs rd sz ⟨da, dl, dk⟩)) := HR0.out.no HKl.out
   have HKs : Hid (w.heap.size ≤ wk2.heap.size) := HK1.out.size
   have HN : Hid (¬ (I gk4 ∨ Jx r g none gk4)) := fun e => by have := hlt _ e; omega
   clear HW0 HR0 HKl
   go_wp2
   go_loopw [7] (fun v7 wr' => ∃ (i : Nat) (I : Nat → Prop) (LV : Option (Nat × Nat)) (s : RM) (x : Rx), v7 = .int .i64 ((i : Nat) : Int) ∧ i ≤ t.l ∧ Hid (Wq wk2 wr' I m r g LV s x) ∧ Hid (RelW wr' I (Jx r g LV) s x) ∧ Hid (¬ (I gk4 ∨ Jx r g LV gk4)) ∧ Hid (Fq No w wr' [(gk1, 27, Aq.cells ⟨wr, cl, op, ky, ⟨sa, n, sk⟩, rd, sz, ⟨da, dl, dk⟩⟩), (gk4, 34, #[.iface 115 (.pointer (some ⟨m, 0, none⟩)), .pointer (some ⟨r, 0, none⟩)])])) (fun i _ => t.l - (intOf i).toNat)
   case atStart => exact ⟨0, I, none, _, _, by go_num, by omega, HW, HR, HN, HF⟩
   case round =>
     rename World => wo
     clear HF HW HR HN hlt
     obtain ⟨i, I, LV, s, x, rfl, hi, HW, HR, HN, HF⟩ := hrel
     by_cases hlt : i < t.l
     · by_cases h200 : i < 200
       · obtain ⟨tb, tq, a, bs, es, ls, cs, hta, hA, hM, h63⟩ := HT.out.at hlt
         have htl : t.v = .slice (some ⟨tb, tq, none⟩) t.l t.k := by unfold Sl.v; rw [hta]
         have HA : Hid (∀ (j : Nat) v, (Stp.cs a)[j]? = some v → w.cell? ⟨tb, tq + i * 31 + j, none⟩ = some v) := show ∀ (j : Nat) v, (Stp.cs a)[j]? = some v → w.cell? ⟨tb, tq + i * 31 + j, none⟩ = some v from hA
         have HMo : Hid (MgOk wk2 wk2 a.m bs es ls cs) := hM.ok HK1.out h63
         clear hta hA hM h63
         go_upto_region 7 with fail
         refine WL.start <| uK (.int .i64 ((i : Nat) : Int)) <| uK (t.v) <| uK (.int .i64 ((t.l : Nat) : Int)) <| uB .lss 3 (.int .i64 ((i : Nat) : Int)) (.int .i64 ((t.l : Nat) : Int)) (.bool true) (by rw [b_lss, decide_eq_true (by omega)]) <| uK (.bool true) <| uK (.int .i64 ((i : Nat) : Int)) <| uB .lss 3 (.int .i64 ((i : Nat) : Int)) (.int .i64 200) (.bool true) (by rw [b_lss, decide_eq_true (by omega)]) <| ?_
         try simp only [pS]
         refine uK (.bool true) <| WL.nil <| ?_
         try simp only [pS]
         go_upto_region 9 with fail
         refine wp_region_held_drew (S := fun w' => Fq No w w' [(gk1, 27, Aq.cells ⟨wr, cl, op, ky, ⟨sa, n, sk⟩, rd, sz, ⟨da, dl, dk⟩⟩), (gk4, 34, #[.iface 115 (.pointer (some ⟨m, 0, none⟩)), .pointer (some ⟨r, 0, none⟩)])]) rfl (HF.out.drew) (fun hH => ?_)
         have HW : Hid (Wq wk2 (wo.drew) I m r g LV s x) := HW.out.no (Kept.refl No _).drew
         have HR : Hid (RelW (wo.drew) I (Jx r g LV) s x) := HR.out.no (Kept.refl No _).drew
         have HF : Hid (Fq No w (wo.drew) [(gk1, 27, Aq.cells ⟨wr, cl, op, ky, ⟨sa, n, sk⟩, rd, sz, ⟨da, dl, dk⟩⟩), (gk4, 34, #[.iface 115 (.pointer (some ⟨m, 0, none⟩)), .pointer (some ⟨r, 0, none⟩)])]) := HF.out.drew
         generalize wo.drew = wk8 at HF HW HR hH ⊢
         refine xL 0 35 34 ⟨gk4, 0, none⟩ (.agg #[.iface 115 (.pointer (some ⟨m, 0, none⟩)), .pointer (some ⟨r, 0, none⟩)]) (fun _ hw => run_load_part (cs := [.iface 115 (.pointer (some ⟨m, 0, none⟩)), .pointer (some ⟨r, 0, none⟩)]) (sub := [.iface 115 (.pointer (some ⟨m, 0, none⟩)), .pointer (some ⟨r, 0, none⟩)]) (hw.box 1 _ _ _ rfl) (Part.all _) U34 rfl S34) hH <| xV 1 36 t.v hH <| xV 2 37 (.int .i64 ((i : Nat) : Int)) hH <| xU 3 38 (.pointer (some ⟨tb, tq + i * 31, none⟩)) (fun w' hw => exec_ixA 28 31 E28 F28 _ _ rfl tb tq t.l t.k i (Eq.trans (b := t.v) (by kernel_rfl) htl) (by kernel_rfl) (by omega)) hH <| xL 4 39 54 ⟨tb, tq + i * 31, none⟩ (.agg (Stp.cells a)) (fun _ hw => load_at (fun j v hv => hw.kept.cell (HA.out j v hv) (fun e => e)) U54 rfl S54) hH <| ?_
         try simp only [pS]
         refine xC 5 40 12 #[.agg #[.iface 115 (.pointer (some ⟨m, 0, none⟩)), .pointer (some ⟨r, 0, none⟩)], .agg (Stp.cells a)] (step_any wk2 I m r g LV s x a.k a.m bs es ls cs wk8 HW.out HR.out (HMo.out.kept HW.out.kp (fun k e f => by have : wk2.heap.size ≤ k := f; omega))) ?_
         rintro e wk9 ⟨I', LV', s', x', rfl, hW2, hR2, hk, hI2⟩
         have hH2 : Fq No w wk9 [(gk1, 27, Aq.cells ⟨wr, cl, op, ky, ⟨sa, n, sk⟩, rd, sz, ⟨da, dl, dk⟩⟩), (gk4, 34, #[.iface 115 (.pointer (some ⟨m, 0, none⟩)), .pointer (some ⟨r, 0, none⟩)])] := Fq.new hH hk (fun k e => by have := HKs.out; rcases e with e | e; have := (HW.out.ia k e).1; omega; have := HW.out.jb k e; omega) (by
           intro y hy e
           simp only [List.mem_cons, List.not_mem_nil, or_false] at hy
           rcases hy with rfl | rfl
           · rcases e with e | e
             · have := (HW.out.ia _ e).1; dsimp only at this; omega
             · have := HW.out.jb _ e; dsimp only at this; omega
           · exact HN.out e)
         have HN2 : Hid (¬ (I' gk4 ∨ Jx r g LV' gk4)) := fun e => (hI2 _ e).elim HN.out (fun f => by have := (HF.out.box 1 _ _ _ rfl).lt; omega)
         have HF : Hid (Fq No w (wk9) [(gk1, 27, Aq.cells ⟨wr, cl, op, ky, ⟨sa, n, sk⟩, rd, sz, ⟨da, dl, dk⟩⟩), (gk4, 34, #[.iface 115 (.pointer (some ⟨m, 0, none⟩)), .pointer (some ⟨r, 0, none⟩)])]) := hH2
         have HW2 : Hid (Wq wk2 wk9 I' m r g LV' s' x') := hW2
         have HR2 : Hid (RelW wk9 I' (Jx r g LV') s' x') := hR2
         clear hW2 hR2 hk hI2
         refine ⟨.bool true, rfl, hH2, fun hH => ?_⟩
         clear hH2
         try simp only [pS]
         refine xV 6 41 (.bool false) hH ?_
         try simp only [pS]
         refine wpAnyH_done (by kernel_rfl) ?_ _
         try simp only [pS]
         clear hH
         go_upto_region 8 with fail
         refine WL.start <| uK (.int .i64 ((i : Nat) : Int)) <| uB .add 3 (.int .i64 ((i : Nat) : Int)) (.int .i64 1) (.int .i64 (((i + 1) : Nat) : Int)) (b_addw _ _ _ (by rw [IntKind.wrap_i64]; omega) _) <| uK (.int .i64 (((i + 1) : Nat) : Int)) <| WL.nil <| ?_
         try simp only [pS]
         go_wp2
         go_roundw
         case rel => exact ⟨i + 1, I', LV', s', x', by go_num, by omega, HW2, HR2, HN2, HF⟩
         case measure => simp [intOf]; omega
       · skip
         go_upto_region 7 with fail
         refine WL.start <| uK (.int .i64 ((i : Nat) : Int)) <| uK (t.v) <| uK (.int .i64 ((t.l : Nat) : Int)) <| uB .lss 3 (.int .i64 ((i : Nat) : Int)) (.int .i64 ((t.l : Nat) : Int)) (.bool true) (by rw [b_lss, decide_eq_true (by omega)]) <| uK (.bool true) <| uK (.int .i64 ((i : Nat) : Int)) <| uB .lss 3 (.int .i64 ((i : Nat) : Int)) (.int .i64 200) (.bool false) (by rw [b_lss, decide_eq_false (by omega)]) <| ?_
         try simp only [pS]
         refine uK (.bool false) <| WL.nil <| ?_
         try simp only [pS]
         go_upto_region 11 with fail
         refine WL.start ?_
         refine uC 9 #[] (head_any _) ?_
         rintro e wk10 ⟨rfl, hk⟩
         have HW : Hid (Wq wk2 (wk10) I m r g LV s x) := HW.out.no hk
         have HR : Hid (RelW (wk10) I (Jx r g LV) s x) := HR.out.no hk
         have HF : Hid (Fq No w (wk10) [(gk1, 27, Aq.cells ⟨wr, cl, op, ky, ⟨sa, n, sk⟩, rd, sz, ⟨da, dl, dk⟩⟩), (gk4, 34, #[.iface 115 (.pointer (some ⟨m, 0, none⟩)), .pointer (some ⟨r, 0, none⟩)])]) := HF.out.no hk
         clear hk
         refine ⟨.bool true, rfl, ?_⟩
         try simp only [pS]
         refine uK (.bool true) <| WL.nil <| ?_
         try simp only [pS]
         go_wp2
         rw [HC.out]
         exact ⟨rfl, HF.out.kept⟩
     · skip
       go_upto_region 7 with fail
       refine WL.start <| uK (.int .i64 ((i : Nat) : Int)) <| uK (t.v) <| uK (.int .i64 ((t.l : Nat) : Int)) <| uB .lss 3 (.int .i64 ((i : Nat) : Int)) (.int .i64 ((t.l : Nat) : Int)) (.bool false) (by rw [b_lss, decide_eq_false (by omega)]) <| uK (.bool false) <| uZ <| uZ <| ?_
       try simp only [pS]
       refine uK (.bool false) <| WL.nil <| ?_
       try simp only [pS]
       go_upto_region 11 with fail
       refine WL.start ?_
       refine uC 9 #[] (head_any _) ?_
       rintro e wk11 ⟨rfl, hk⟩
       have HW : Hid (Wq wk2 (wk11) I m r g LV s x) := HW.out.no hk
       have HR : Hid (RelW (wk11) I (Jx r g LV) s x) := HR.out.no hk
       have HF : Hid (Fq No w (wk11) [(gk1, 27, Aq.cells ⟨wr, cl, op, ky, ⟨sa, n, sk⟩, rd, sz, ⟨da, dl, dk⟩⟩), (gk4, 34, #[.iface 115 (.pointer (some ⟨m, 0, none⟩)), .pointer (some ⟨r, 0, none⟩)])]) := HF.out.no hk
       clear hk
       refine ⟨.bool true, rfl, ?_⟩
       try simp only [pS]
       refine uK (.bool true) <| WL.nil <| ?_
       try simp only [pS]
       go_wp2
       rw [HC.out]
       exact ⟨rfl, HF.out.kept⟩
  ·skip
   refine uB .gtr 3 (.int .i64 ((n : Nat) : Int)) (.int .i64 100) (.bool true) (by rw [b_gtr, q1]; try rfl) <| WL.nil <| ?_
   try simp only [pS]
   go_upto_region 2 with fail
   refine WL.start ?_
   refine uC 9 #[] (head_any _) ?_
   rintro e wk12 ⟨rfl, hk⟩
   have HF : Hid (Fq No w (wk12) [(gk1, 27, Aq.cells ⟨wr, cl, op, ky, ⟨sa, n, sk⟩, rd, sz, ⟨da, dl, dk⟩⟩)]) := HF.out.no hk
   clear hk
   refine ⟨.bool true, rfl, ?_⟩
   try simp only [pS]
   refine uK (.bool true) <| WL.nil <| ?_
   try simp only [pS]
   go_wp2
   rw [HC.out]
   exact ⟨rfl, HF.out.kept⟩

end Go.Proofs.Ytgiokkcdgoloaaa.Md
