import Derived.Test.YtpabpeppgpeaoaaW
namespace Go.Proofs.Ytpabpeppgpeaoaa
open Go.RowKit Gt
set_option linter.unusedVariables false
set_option linter.unusedSimpArgs false

theorem miss_new (l : List Int) (n : Int) : missL (tNew Unit l n) = uq l := by unfold missL tNew; simp
theorem load_Ky {w : World} {g : Nat} {y : Ky} (h : Box w g 23 y.cells) : (loadVar 23 ⟨g, 0, none⟩).run Try.prog w = .ok (.agg y.cells) w := run_load_part h (Part.all _) Try.und23 rfl Try.size23
/-- A proposer that has not begun. -/
def newP (cl op : Int) (y : Ky) (g : Sl) (c : Cm) (n r : Int) : Pv := ⟨cl, op, y, g, c, n, n, r, .nilIface⟩
def NewPOut (w : World) (zs : List Int) (cl op : Int) (y : Ky) (c : Cm) (n r : Int) (e : Ending) (w' : World) : Prop :=
  ∃ (p : Nat) (ga : Option Addr) (gc : Nat), e = .returned (.pointer (some ⟨p, 0, none⟩)) ∧ Box w' p 94 (newP cl op y ⟨ga, (uq zs).length, gc⟩ c n r).cells ∧ Own 3 1 w' w.heap.size ga gc (uq zs).length ((uq zs).map (Value.int .i64)) ∧ w.heap.size ≤ p ∧ Kept No w w'
set_option maxRecDepth 100000 in
set_option maxHeartbeats 4000000 in
theorem newP_any (cl op : Int) (y : Ky) (a0 : Option Addr) (n0 cap0 : Nat) (zs : List Int) (c : Cm) (n r : Int) (ww : World) (hz : zs.length = n0) (hn : n0 ≤ 17592186043904) (hg : Nums .i64 ww a0 zs) :
    Calls Try.prog 9 #[.int .i64 cl, .int .i64 op, .agg y.cells, .slice a0 n0 cap0, .agg c.cells, .int .i64 n, .int .i64 r] ww (NewPOut ww zs cl op y c n r) := by
  refine hideC fun C HC => ?_
  have HZ : Hid (zs.length = n0) := hz
  have HG : Hid (Nums .i64 ww a0 zs) := hg
  clear hz hg
  go_enter Try.func9, Try.ntmps9
  go_upto_region 0 with fail
  refine WL.start ?_
  refine uR (pV ww.heap.size 0) (ww.alloc (.cells y.cells 23)) (exec_box 23 _ rfl y.cells (by kernel_rfl)) ?_
  try simp only [pS]
  obtain ⟨wx, hwx⟩ : ∃ wx, wx = ww.alloc (.cells y.cells 23) := ⟨_, rfl⟩
  rw [← hwx]
  have HYx : Hid (Box wx ww.heap.size 23 y.cells) := by rw [hwx]; exact Box.new _ _ _
  have HKx : Hid (Kept No ww wx) := by rw [hwx]; exact (Kept.refl No ww).alloc _
  clear hwx
  refine uR (pV wx.heap.size 0) (wx.alloc (.cells c.cells 28)) (exec_box 28 _ rfl c.cells (by kernel_rfl)) ?_
  try simp only [pS]
  refine uK (.pointer none) <| WL.nil <| ?_
  try simp only [pS]
  obtain ⟨w, hw⟩ : ∃ w, w = wx.alloc (.cells c.cells 28) := ⟨_, rfl⟩
  rw [← hw]
  have H9 : Hid (Box w (ww.heap.size) 23 (y.cells)) := by rw [hw]; exact HYx.out.alloc _
  have H11 : Hid (Box w (wx.heap.size) 28 (c.cells)) := by rw [hw]; exact Box.new _ _ _
  have HK0 : Hid (Kept No ww w) := by rw [hw]; exact HKx.out.alloc _
  obtain ⟨B9, hB9⟩ : ∃ B9, B9 = ww.heap.size := ⟨_, rfl⟩
  rw [← hB9] at H9 ⊢
  clear hB9
  generalize wx.heap.size = B11 at H11 ⊢
  clear hw HYx HKx
  go_upto_region 1 with fail
  refine wp_region_held_drew (S := fun w' => Box w' (B9) 23 (y.cells) ∧ Box w' (B11) 28 (c.cells)) rfl ⟨H9.out, H11.out⟩ (fun hH => ?_)
  refine xV 0 15 (.int .i64 cl) hH <| xU 1 16 (.agg (#[.bool true, .int .i64 cl])) (fun w' hw => exec_build 37 _ rfl (#[.bool true, .int .i64 cl]) (by kernel_rfl)) hH <| xV 2 17 (.int .i64 op) hH <| xL 3 18 23 ⟨B9, 0, none⟩ (.agg y.cells) (fun _ hw => load_Ky hw.1) hH <| xL 4 19 28 ⟨B11, 0, none⟩ (.agg c.cells) (fun _ hw => load_C hw.2) hH <| xV 5 20 (.slice a0 n0 cap0) hH <| ?_
  try simp only [pS]
  refine xV 8 23 (.int .i64 n) hH <| xV 9 24 (.int .i64 cl) hH <| xU 10 25 (.agg (#[.int .i64 n, .int .i64 cl])) (fun w' hw => exec_build 39 _ rfl (#[.int .i64 n, .int .i64 cl]) (by kernel_rfl)) hH <| xV 11 26 (.int .i64 n) hH <| xV 12 27 (.int .i64 r) hH <| ?_
  try simp only [pS]
  refine xC 6 21 33 #[.slice a0 n0 cap0, .int .i64 0] (U.new_any a0 n0 cap0 zs 0 w.drew HZ.out hn (HG.out.no (HK0.out.drew))) ?_
  rintro e w2 ⟨ta, tc, rfl, hT, hF, hk⟩
  have HT : Hid (Tal 132 U.ans w2 (w.drew.heap.size + 1) w.drew.heap.size ta tc (tNew Unit zs 0)) := hT
  have HK2 : Hid (Kept No ww w2) := HK0.out.drew.then hk
  refine ⟨.pointer (some ⟨w.drew.heap.size + 1, 0, none⟩), rfl, ⟨H9.out.kept (w := w.drew) hk (fun e => e), H11.out.kept (w := w.drew) hk (fun e => e)⟩, fun hH => ?_⟩
  try simp only [pS]
  generalize w.drew.heap.size = Bt at HT ⊢
  clear hT hF hk
  have HM : Hid (Calls Try.prog 34 #[.pointer (some ⟨Bt + 1, 0, none⟩)] w2 (MissOut w2 (missL (tNew Unit zs 0)))) := U.missing_any _ _ _ _ _ _ HT.out
  rw [miss_new] at HM
  refine xC 7 22 34 #[pV (Bt + 1) 0] HM.out ?_
  rintro e w3 ⟨ga, gc, rfl, hO, hk⟩
  have HO : Hid (Own 3 1 w3 w2.heap.size ga gc (uq zs).length ((uq zs).map (Value.int .i64))) := hO
  have HK3 : Hid (Kept No ww w3) := HK2.out.then hk
  have HS3 : Hid (ww.heap.size ≤ w2.heap.size) := HK2.out.size
  refine ⟨.slice ga (uq zs).length gc, rfl, ⟨hH.1.kept hk (fun e => e), hH.2.kept hk (fun e => e)⟩, fun hH => ?_⟩
  clear hO hk HM
  try simp only [pS]
  refine xU 13 28 (.agg ((newP cl op y ⟨ga, (uq zs).length, gc⟩ c n r).cells)) (fun w' hw => exec_build 94 _ rfl ((newP cl op y ⟨ga, (uq zs).length, gc⟩ c n r).cells) (by kernel_rfl)) hH ?_
  try simp only [pS]
  refine xP 14 29 (pV w3.heap.size 0) (w' := w3.alloc (.cells (newP cl op y ⟨ga, (uq zs).length, gc⟩ c n r).cells 94)) (exec_box 94 _ rfl _ (by kernel_rfl)) ⟨hH.1.alloc _, hH.2.alloc _⟩ (fun hH => ?_)
  try simp only [pS]
  refine xV 15 14 (pV w3.heap.size 0) hH ?_
  try simp only [pS]
  refine wpAnyH_done (by kernel_rfl) ?_ _
  try simp only [pS]
  clear hH
  go_wp2
  rw [HC.out]
  exact ⟨w3.heap.size, ga, gc, rfl, Box.new _ _ _, Own.lower (HO.out.no ((Kept.refl No w3).alloc _)) HS3.out, HK3.out.size, HK3.out.alloc _⟩

end Go.Proofs.Ytpabpeppgpeaoaa
namespace Go.Proofs.Ytpabpeppgpeaoaa
open Go.RowKit Gt
set_option linter.unusedVariables false
set_option linter.unusedSimpArgs false

theorem Ms.partS (m : Ms) : Part m.cs 11 [.int .i64 m.st.n, .int .i64 m.st.c] := fun j x h => by
  match j, h with
  | 0, h => exact h
  | 1, h => exact h
theorem load_mS {w : World} {g : Nat} {m : Ms} (h : Box w g 47 m.cells) : (loadVar 39 ⟨g, 11, none⟩).run Try.prog w = .ok (.agg #[.int .i64 m.st.n, .int .i64 m.st.c]) w := run_load_part h m.partS Try.und39 rfl Try.size39
set_option maxRecDepth 100000 in
set_option maxHeartbeats 2000000 in
/-- Of another ballot: passed over. -/
theorem agreed_other (p : Nat) (v : Pv) (m : Ms) (ww : World) (h : Box ww p 94 v.cells) (hs : eqS m.st ⟨v.n, v.cl⟩ = false) : Calls Try.prog 58 #[.pointer (some ⟨p, 0, none⟩), .agg m.cells] ww (fun e w' => e = .returned (.slice none 0 0) ∧ Kept No ww w') := by
  refine hideC fun C HC => ?_
  have HPW : Hid (Box ww p 94 v.cells) := h
  have HS : Hid (eqS m.st ⟨v.n, v.cl⟩ = false) := hs
  clear h hs
  go_enter Try.func58, Try.ntmps58
  go_upto_region 0 with fail
  refine WL.start ?_
  refine uR (pV ww.heap.size 0) (ww.alloc (.cells m.cells 47)) (exec_box 47 _ rfl m.cells (by kernel_rfl)) ?_
  try simp only [pS]
  refine uK (.slice none 0 0) <| WL.nil <| ?_
  try simp only [pS]
  obtain ⟨w, hw⟩ : ∃ w, w = ww.alloc (.cells m.cells 47) := ⟨_, rfl⟩
  rw [← hw]
  have HK : Hid (Kept No ww w) := by rw [hw]; exact (Kept.refl No ww).alloc _
  have HP : Hid (Box w (p) 94 (v.cells)) := by rw [hw]; exact HPW.out.alloc _
  have H3 : Hid (Box w (ww.heap.size) 47 (m.cells)) := by rw [hw]; exact Box.new _ _ _
  obtain ⟨B3, hB3⟩ : ∃ B3, B3 = ww.heap.size := ⟨_, rfl⟩
  rw [← hB3] at H3 ⊢
  clear hw hB3 HPW
  go_upto_region 1 with fail
  refine wp_region_held_drew (S := fun w' => Box w' (p) 94 (v.cells) ∧ Box w' (B3) 47 (m.cells)) rfl ⟨HP.out, H3.out⟩ (fun hH => ?_)
  refine xV 0 8 (pV B3 11) hH <| xL 1 9 39 ⟨B3, 11, none⟩ (.agg #[.int .i64 m.st.n, .int .i64 m.st.c]) (fun _ hw => load_mS hw.2) hH <| xV 2 10 (pV p 0) hH <| xV 3 11 (pV p 0) hH <| xV 4 12 (pV p 17) hH <| xL 5 13 39 ⟨p, 17, none⟩ (.agg #[.int .i64 v.n, .int .i64 v.cl]) (fun _ hw => load_pB hw.1) hH <| ?_
  try simp only [pS]
  refine xB 6 14 .neq 39 (.agg #[.int .i64 m.st.n, .int .i64 m.st.c]) (.agg #[.int .i64 v.n, .int .i64 v.cl]) (.bool true) (fun _ _ => by rw [neqS m.st ⟨v.n, v.cl⟩, HS.out]; rfl) hH (hg := fun _ => guard_S _ (.inr rfl) _ _ _ _ _) ?_
  try simp only [pS]
  refine wpAnyH_done (by kernel_rfl) ?_ _
  try simp only [pS]
  clear hH
  go_wp2
  rw [HC.out]
  exact ⟨rfl, HK.out.drew⟩

end Go.Proofs.Ytpabpeppgpeaoaa
namespace Go.Proofs.Ytpabpeppgpeaoaa
open Go.RowKit Gt
set_option linter.unusedVariables false
set_option linter.unusedSimpArgs false

theorem tal_apart {α β : Type} {f : Option α → Value} {f' : Option β → Value} {T T' : TypeId} {W : World} {t b cap t' b' cap' : Nat} {a a' : Option Addr} {x : TS α} {y : TS β} (h : Tal T f W t b a cap x) (h' : Tal T' f' W t' b' a' cap' y) (ht : t ≠ t') (hb : b ≠ b') {k : Nat} (hk : TB t' b' a' k) : ¬ Tb2 t b k := by
  have mapbox : ∀ {g : Nat} {ty : TypeId} {cs : Array Value} {mm : Int → Option Value}, Box W g ty cs → MapIs W g mm → False := by
    intro g ty cs mm hB hM
    obtain ⟨es, c, hm, _⟩ := hM
    unfold Box at hB
    rw [hm] at hB
    cases hB
  rcases hk with rfl | rfl | hk
  · rintro (e | e)
    · exact ht e.symm
    · subst e; exact mapbox h'.box h.map
  · rintro (e | e)
    · subst e; exact mapbox h.box h'.map
    · exact hb e.symm
  · rintro (e | e)
    · exact box_row h.box h.ty h'.row hk e
    · obtain ⟨es, c, hm, _⟩ := h.map
      rcases h'.row.cases (by simp) with ⟨rfl, _⟩ | ⟨g, rfl, _, _, sp, hgb, _⟩
      · exact absurd hk At.none
      · obtain ⟨ad, e2, rfl⟩ := hk
        cases e2
        have e : g = b := e
        rw [e, hm] at hgb
        cases hgb
theorem tal_far2 {α : Type} {f : Option α → Value} {T : TypeId} {W : World} {t b cap g ty : Nat} {a : Option Addr} {x : TS α} {cs : Array Value} (h : Tal T f W t b a cap x) (hb : Box W g ty cs) (hT : T ≠ ty) (h3 : ty ≠ 3) : ¬ Tb2 t b g := fun e =>
  tal_ne h hb hT h3 (k := g) (by rcases e with e | e; exact .inl e; exact .inr (.inl e)) rfl
theorem zero162 : (Try.prog.info? 162).bind (·.zero) = some (.agg #[.pointer none, .pointer none]) := by kernel_rfl
theorem Try.size162 : (Try.prog.info? 162).map (·.size) = some 2 := by kernel_rfl
theorem store_162 {w : World} {g q t : Nat} (h : Box w g 162 #[.pointer none, .pointer none]) : (storeVar 162 ⟨g, 0, none⟩ (.agg #[.pointer (some ⟨q, 0, none⟩), .pointer (some ⟨t, 0, none⟩)])).run Try.prog w = .ok () (w.setRow g #[.pointer (some ⟨q, 0, none⟩), .pointer (some ⟨t, 0, none⟩)]) :=
  run_storeVar_row w g 162 162 _ _ h Try.size162 rfl (by simp [Value.oneCell'])
theorem Try.und108 : Try.prog.underlying 108 = some (.pointer 111) := by kernel_rfl
theorem load_108 {w : World} {ad : Addr} {v : Value} (hc : w.cell? ad = some v) : (loadVar 108 ad).run Try.prog w = .ok v w := load_one hc Try.und108 rfl
set_option maxRecDepth 100000 in
set_option maxHeartbeats 4000000 in
theorem agreedA_kind (p q t : Nat) (v : Pv) (m : Ms) (ww : World) (h : Box ww p 94 v.cells) (hs : eqS m.st ⟨v.n, v.cl⟩ = true) (hph : v.ph = phAcc q t) (hk : (m.k == 15) = false) : Calls Try.prog 58 #[.pointer (some ⟨p, 0, none⟩), .agg m.cells] ww (fun e w' => e = .returned (.slice none 0 0) ∧ Kept No ww w') := by
  refine hideC fun C HC => ?_
  have HPW : Hid (Box ww p 94 v.cells) := h
  have HS : Hid (eqS m.st ⟨v.n, v.cl⟩ = true) := hs
  have HPh : Hid (v.ph = phAcc q t) := hph
  have HKd : Hid ((m.k == 15) = false) := hk
  clear h hs hph
  go_enter Try.func58, Try.ntmps58
  go_upto_region 0 with fail
  refine WL.start ?_
  refine uR (pV ww.heap.size 0) (ww.alloc (.cells m.cells 47)) (exec_box 47 _ rfl m.cells (by kernel_rfl)) ?_
  try simp only [pS]
  refine uK (.slice none 0 0) <| WL.nil <| ?_
  try simp only [pS]
  obtain ⟨w, hw⟩ : ∃ w, w = ww.alloc (.cells m.cells 47) := ⟨_, rfl⟩
  rw [← hw]
  have HK : Hid (Kept No ww w) := by rw [hw]; exact (Kept.refl No ww).alloc _
  have HP : Hid (Box w (p) 94 (v.cells)) := by rw [hw]; exact HPW.out.alloc _
  have H3 : Hid (Box w (ww.heap.size) 47 (m.cells)) := by rw [hw]; exact Box.new _ _ _
  obtain ⟨B3, hB3⟩ : ∃ B3, B3 = ww.heap.size := ⟨_, rfl⟩
  rw [← hB3] at H3 ⊢
  clear hw hB3 HPW
  go_upto_region 1 with fail
  refine wp_region_held_drew (S := fun w' => Box w' (p) 94 (v.cells) ∧ Box w' (B3) 47 (m.cells)) rfl ⟨HP.out, H3.out⟩ (fun hH => ?_)
  refine xV 0 8 (pV B3 11) hH <| xL 1 9 39 ⟨B3, 11, none⟩ (.agg #[.int .i64 m.st.n, .int .i64 m.st.c]) (fun _ hw => load_mS hw.2) hH <| xV 2 10 (pV p 0) hH <| xV 3 11 (pV p 0) hH <| xV 4 12 (pV p 17) hH <| xL 5 13 39 ⟨p, 17, none⟩ (.agg #[.int .i64 v.n, .int .i64 v.cl]) (fun _ hw => load_pB hw.1) hH <| ?_
  try simp only [pS]
  refine xB 6 14 .neq 39 (.agg #[.int .i64 m.st.n, .int .i64 m.st.c]) (.agg #[.int .i64 v.n, .int .i64 v.cl]) (.bool false) (fun _ _ => by rw [neqS m.st ⟨v.n, v.cl⟩, HS.out]; rfl) hH (hg := fun _ => guard_S _ (.inr rfl) _ _ _ _ _) ?_
  try simp only [pS]
  refine wpAnyH_done (by kernel_rfl) ?_ _
  try simp only [pS]
  clear hH
  obtain ⟨w1, hw1⟩ : ∃ w1, w1 = w.drew := ⟨_, rfl⟩
  have HP1 : Hid (Box w1 (p) 94 (v.cells)) := by rw [hw1]; exact HP.out
  have H31 : Hid (Box w1 (B3) 47 (m.cells)) := by rw [hw1]; exact H3.out
  have HK1 : Hid (Kept No ww w1) := by rw [hw1]; exact HK.out.drew
  rw [← hw1]
  clear hw1 HP H3 HK
  go_upto_region 3 with fail
  refine WL.start <| uK (pV B3 1) <| uK (pV B3 2) <| uL 3 ⟨B3, 2, none⟩ (.int .i64 m.fi) (load_N (H31.out.cell 2)) <| uK (.int .i64 m.fi) <| WL.nil <| ?_
  try simp only [pS]
  go_upto_region 4 with fail
  refine WL.start <| uK (pV p 0) <| uK (pV p 0) <| uK (pV p 21) <| uL 92 ⟨p, 21, none⟩ (phAcc q t) (by rw [← HPh.out]; exact load_92 HP1.out) <| WL.nil <| ?_
  try simp only [pS]
  go_upto_region 5 with fail
  refine WL.start <| uK (.tuple #[.agg #[.pointer none, .pointer none], .bool false]) <| uK (.bool false) <| uK (.agg #[.pointer none, .pointer none]) <| WL.nil <| ?_
  try simp only [pS]
  go_upto_region 9 with fail
  refine WL.start <| uK (.tuple #[.agg #[pV q 0, pV t 0], .bool true]) <| uK (.bool true) <| uK (.agg #[pV q 0, pV t 0]) <| WL.nil <| ?_
  try simp only [pS]
  go_upto_region 10 with fail
  refine WL.start ?_
  refine wp_allocW 162 rfl #[.pointer none, .pointer none] zero162 w1.heap.size rfl (by kernel_rfl) ?_
  try simp only [pS]
  obtain ⟨w2, hw2⟩ : ∃ w2, w2 = w1.alloc (.cells #[.pointer none, .pointer none] 162) := ⟨_, rfl⟩
  rw [← hw2]
  have H72 : Hid (Box w2 w1.heap.size 162 #[.pointer none, .pointer none]) := by rw [hw2]; exact Box.new _ _ _
  have HK12 : Hid (Kept No w1 w2) := by rw [hw2]; exact (Kept.refl No w1).alloc _
  obtain ⟨B7, hB7⟩ : ∃ B7, B7 = w1.heap.size := ⟨_, rfl⟩
  rw [← hB7] at H72 ⊢
  have HB7 : Hid (w1.heap.size ≤ B7) := by show _ ≤ _; omega
  clear hw2 hB7
  refine uT 162 ⟨B7, 0, none⟩ (.agg #[pV q 0, pV t 0]) _ (store_162 H72.out) ?_
  try simp only [pS]
  refine WL.nil ?_
  try simp only [pS]
  obtain ⟨w3, hw3⟩ : ∃ w3, w3 = w2.setRow B7 #[.pointer (some ⟨q, 0, none⟩), .pointer (some ⟨t, 0, none⟩)] := ⟨_, rfl⟩
  rw [← hw3]
  have H73 : Hid (Box w3 B7 162 #[.pointer (some ⟨q, 0, none⟩), .pointer (some ⟨t, 0, none⟩)]) := by rw [hw3]; exact H72.out.setRow _
  have HK13 : Hid (Kept No w1 w3) := by rw [hw3]; exact HK12.out.newRow HB7.out _
  have HK3 : Hid (Kept No ww w3) := HK1.out.then HK13.out
  have H33 : Hid (Box w3 (B3) 47 (m.cells)) := H31.out.kept HK13.out (fun e => e)
  clear hw3 H72 HK12 HK13 H31
  go_upto_region 11 with fail
  refine WL.start <| uK (pV B3 0) <| uL 3 ⟨B3, 0, none⟩ (.int .i64 m.k) (load_N (H33.out.cell 0)) <| uB .eql 3 (.int .i64 m.k) (.int .i64 15) (.bool false) (by rw [eqlN, HKd.out]) <| uK (.bool false) <| uZ <| uZ <| uZ <| ?_
  try simp only [pS]
  refine uZ <| uK (.bool false) <| uK (.bool false) <| uZ <| uZ <| uZ <| uZ <| uZ <| ?_
  try simp only [pS]
  refine uK (.bool false) <| WL.nil <| ?_
  try simp only [pS]
  go_wp2
  rw [HC.out]
  exact ⟨rfl, HK3.out⟩
set_option maxRecDepth 100000 in
set_option maxHeartbeats 4000000 in
theorem agreedA_heard (p q t : Nat) (v : Pv) (m : Ms) (h b cap tb tc : Nat) (a ta : Option Addr) (M : Ms) (rf : Bool) (x y : TS Unit) (ww : World) (hbp : Box ww p 94 v.cells) (hs : eqS m.st ⟨v.n, v.cl⟩ = true) (hph : v.ph = phAcc q t) (hk : (m.k == 15) = true) (hq : Box ww q 111 (qcs M h rf).toArray) (hx : Tal 132 U.ans ww h b a cap x) (hy : Tal 132 U.ans ww t tb ta tc y) (hne : h ≠ t ∧ b ≠ tb) (hhr : decide (m.fi ∈ missL x) = false) : Calls Try.prog 58 #[.pointer (some ⟨p, 0, none⟩), .agg m.cells] ww (fun e w' => e = .returned (.slice none 0 0) ∧ Tal 132 U.ans w' h b a cap x ∧ Kept (Tb2 h b) ww w') := by
  refine hideC fun C HC => ?_
  have HPW : Hid (Box ww p 94 v.cells) := hbp
  have HS : Hid (eqS m.st ⟨v.n, v.cl⟩ = true) := hs
  have HPh : Hid (v.ph = phAcc q t) := hph
  have HKd : Hid ((m.k == 15) = true) := hk
  have HQ : Hid (Box ww q 111 (qcs M h rf).toArray) := hq
  have HTx : Hid (Tal 132 U.ans ww h b a cap x) := hx
  have HTy : Hid (Tal 132 U.ans ww t tb ta tc y) := hy
  have HNe : Hid (h ≠ t ∧ b ≠ tb) := hne
  have HPW2 : Hid (Box ww p 94 v.cells) := hbp
  have HHr : Hid (decide (m.fi ∈ missL x) = false) := hhr
  clear hk hq hx hy hne hhr
  clear hbp hs hph
  go_enter Try.func58, Try.ntmps58
  go_upto_region 0 with fail
  refine WL.start ?_
  refine uR (pV ww.heap.size 0) (ww.alloc (.cells m.cells 47)) (exec_box 47 _ rfl m.cells (by kernel_rfl)) ?_
  try simp only [pS]
  refine uK (.slice none 0 0) <| WL.nil <| ?_
  try simp only [pS]
  obtain ⟨w, hw⟩ : ∃ w, w = ww.alloc (.cells m.cells 47) := ⟨_, rfl⟩
  rw [← hw]
  have HK : Hid (Kept No ww w) := by rw [hw]; exact (Kept.refl No ww).alloc _
  have HP : Hid (Box w (p) 94 (v.cells)) := by rw [hw]; exact HPW.out.alloc _
  have H3 : Hid (Box w (ww.heap.size) 47 (m.cells)) := by rw [hw]; exact Box.new _ _ _
  obtain ⟨B3, hB3⟩ : ∃ B3, B3 = ww.heap.size := ⟨_, rfl⟩
  rw [← hB3] at H3 ⊢
  clear hw hB3 HPW
  go_upto_region 1 with fail
  refine wp_region_held_drew (S := fun w' => Box w' (p) 94 (v.cells) ∧ Box w' (B3) 47 (m.cells)) rfl ⟨HP.out, H3.out⟩ (fun hH => ?_)
  refine xV 0 8 (pV B3 11) hH <| xL 1 9 39 ⟨B3, 11, none⟩ (.agg #[.int .i64 m.st.n, .int .i64 m.st.c]) (fun _ hw => load_mS hw.2) hH <| xV 2 10 (pV p 0) hH <| xV 3 11 (pV p 0) hH <| xV 4 12 (pV p 17) hH <| xL 5 13 39 ⟨p, 17, none⟩ (.agg #[.int .i64 v.n, .int .i64 v.cl]) (fun _ hw => load_pB hw.1) hH <| ?_
  try simp only [pS]
  refine xB 6 14 .neq 39 (.agg #[.int .i64 m.st.n, .int .i64 m.st.c]) (.agg #[.int .i64 v.n, .int .i64 v.cl]) (.bool false) (fun _ _ => by rw [neqS m.st ⟨v.n, v.cl⟩, HS.out]; rfl) hH (hg := fun _ => guard_S _ (.inr rfl) _ _ _ _ _) ?_
  try simp only [pS]
  refine wpAnyH_done (by kernel_rfl) ?_ _
  try simp only [pS]
  clear hH
  obtain ⟨w1, hw1⟩ : ∃ w1, w1 = w.drew := ⟨_, rfl⟩
  have HP1 : Hid (Box w1 (p) 94 (v.cells)) := by rw [hw1]; exact HP.out
  have H31 : Hid (Box w1 (B3) 47 (m.cells)) := by rw [hw1]; exact H3.out
  have HK1 : Hid (Kept No ww w1) := by rw [hw1]; exact HK.out.drew
  rw [← hw1]
  clear hw1 HP H3 HK
  go_upto_region 3 with fail
  refine WL.start <| uK (pV B3 1) <| uK (pV B3 2) <| uL 3 ⟨B3, 2, none⟩ (.int .i64 m.fi) (load_N (H31.out.cell 2)) <| uK (.int .i64 m.fi) <| WL.nil <| ?_
  try simp only [pS]
  go_upto_region 4 with fail
  refine WL.start <| uK (pV p 0) <| uK (pV p 0) <| uK (pV p 21) <| uL 92 ⟨p, 21, none⟩ (phAcc q t) (by rw [← HPh.out]; exact load_92 HP1.out) <| WL.nil <| ?_
  try simp only [pS]
  go_upto_region 5 with fail
  refine WL.start <| uK (.tuple #[.agg #[.pointer none, .pointer none], .bool false]) <| uK (.bool false) <| uK (.agg #[.pointer none, .pointer none]) <| WL.nil <| ?_
  try simp only [pS]
  go_upto_region 9 with fail
  refine WL.start <| uK (.tuple #[.agg #[pV q 0, pV t 0], .bool true]) <| uK (.bool true) <| uK (.agg #[pV q 0, pV t 0]) <| WL.nil <| ?_
  try simp only [pS]
  go_upto_region 10 with fail
  refine WL.start ?_
  refine wp_allocW 162 rfl #[.pointer none, .pointer none] zero162 w1.heap.size rfl (by kernel_rfl) ?_
  try simp only [pS]
  obtain ⟨w2, hw2⟩ : ∃ w2, w2 = w1.alloc (.cells #[.pointer none, .pointer none] 162) := ⟨_, rfl⟩
  rw [← hw2]
  have H72 : Hid (Box w2 w1.heap.size 162 #[.pointer none, .pointer none]) := by rw [hw2]; exact Box.new _ _ _
  have HK12 : Hid (Kept No w1 w2) := by rw [hw2]; exact (Kept.refl No w1).alloc _
  obtain ⟨B7, hB7⟩ : ∃ B7, B7 = w1.heap.size := ⟨_, rfl⟩
  rw [← hB7] at H72 ⊢
  have HB7 : Hid (w1.heap.size ≤ B7) := by show _ ≤ _; omega
  clear hw2 hB7
  refine uT 162 ⟨B7, 0, none⟩ (.agg #[pV q 0, pV t 0]) _ (store_162 H72.out) ?_
  try simp only [pS]
  refine WL.nil ?_
  try simp only [pS]
  obtain ⟨w3, hw3⟩ : ∃ w3, w3 = w2.setRow B7 #[.pointer (some ⟨q, 0, none⟩), .pointer (some ⟨t, 0, none⟩)] := ⟨_, rfl⟩
  rw [← hw3]
  have H73 : Hid (Box w3 B7 162 #[.pointer (some ⟨q, 0, none⟩), .pointer (some ⟨t, 0, none⟩)]) := by rw [hw3]; exact H72.out.setRow _
  have HK13 : Hid (Kept No w1 w3) := by rw [hw3]; exact HK12.out.newRow HB7.out _
  have HK3 : Hid (Kept No ww w3) := HK1.out.then HK13.out
  have H33 : Hid (Box w3 (B3) 47 (m.cells)) := H31.out.kept HK13.out (fun e => e)
  clear hw3 H72 HK12 HK13 H31
  go_upto_region 11 with fail
  refine WL.start <| uK (pV B3 0) <| uL 3 ⟨B3, 0, none⟩ (.int .i64 m.k) (load_N (H33.out.cell 0)) <| uB .eql 3 (.int .i64 m.k) (.int .i64 15) (.bool true) (by rw [eqlN, HKd.out]) <| uK (.bool true) <| uK (pV B7 0) <| uL 108 ⟨B7, 0, none⟩ (pV q 0) (load_108 (H73.out.cell 0)) <| uK (.int .i64 m.fi) <| ?_
  try simp only [pS]
  have HT3 : Hid (Tal 132 U.ans w3 h b a cap x) := HTx.out.no HK3.out
  have HY3 : Hid (Tal 132 U.ans w3 t tb ta tc y) := HTy.out.no HK3.out
  have HQ3 : Hid (Box w3 q 111 (qcs M h rf).toArray) := HQ.out.kept HK3.out (fun e => e)
  have HP3 : Hid (Box w3 p 94 v.cells) := HPW2.out.kept HK3.out (fun e => e)
  refine uC 57 #[pV q 0, .int .i64 m.fi] (hear_any q h b cap a M rf x m.fi w3 HQ3.out HT3.out) ?_
  rintro e w4 ⟨rfl, hT4, hk4⟩
  have HT4 : Hid (Tal 132 U.ans w4 h b a cap (hearS x m.fi)) := hT4
  have H74 : Hid (Box w4 B7 162 #[.pointer (some ⟨q, 0, none⟩), .pointer (some ⟨t, 0, none⟩)]) := H73.out.kept hk4 (tal_far2 HT3.out H73.out (by decide) (by decide))
  have HQ4 : Hid (Box w4 q 111 (qcs M h rf).toArray) := HQ3.out.kept hk4 (tal_far2 HT3.out HQ3.out (by decide) (by decide))
  have HP4 : Hid (Box w4 p 94 v.cells) := HP3.out.kept hk4 (tal_far2 HT3.out HP3.out (by decide) (by decide))
  have HY4 : Hid (Tal 132 U.ans w4 t tb ta tc y) := HY3.out.kept hk4 (fun k e => tal_apart HT3.out HY3.out HNe.out.1 HNe.out.2 e)
  have HK4 : Hid (Kept (Tb2 h b) ww w4) := (HK3.out.of_no : Kept (Tb2 h b) ww w3).then hk4
  refine ⟨.bool false, by rw [HHr.out], ?_⟩
  clear hT4 hk4 HT3 HY3 HQ3 HP3 H73
  try simp only [pS]
  refine uK (.bool false) <| uK (.bool false) <| uZ <| uZ <| uZ <| uZ <| uZ <| uK (.bool false) <| WL.nil <| ?_
  try simp only [pS]
  go_wp2
  rw [HC.out]
  have ex : hearS x m.fi = x := by unfold hearS; rw [if_neg (of_decide_eq_false HHr.out)]
  have h4 := HT4.out
  rw [ex] at h4
  exact ⟨rfl, h4, HK4.out⟩
set_option maxRecDepth 100000 in
set_option maxHeartbeats 4000000 in
theorem agreedA_few (p q t : Nat) (v : Pv) (m : Ms) (h b cap tb tc : Nat) (a ta : Option Addr) (M : Ms) (rf : Bool) (x y : TS Unit) (ww : World) (hbp : Box ww p 94 v.cells) (hs : eqS m.st ⟨v.n, v.cl⟩ = true) (hph : v.ph = phAcc q t) (hk : (m.k == 15) = true) (hq : Box ww q 111 (qcs M h rf).toArray) (hx : Tal 132 U.ans ww h b a cap x) (hy : Tal 132 U.ans ww t tb ta tc y) (hne : h ≠ t ∧ b ≠ tb) (hhr : decide (m.fi ∈ missL x) = true) (htk : takeB y m.fi = false) : Calls Try.prog 58 #[.pointer (some ⟨p, 0, none⟩), .agg m.cells] ww (fun e w' => e = .returned (.slice none 0 0) ∧ Tal 132 U.ans w' h b a cap (hearS x m.fi) ∧ Tal 132 U.ans w' t tb ta tc (takeS y m.fi ()) ∧ Kept (fun k => Tb2 h b k ∨ Tb2 t tb k) ww w') := by
  refine hideC fun C HC => ?_
  have HPW : Hid (Box ww p 94 v.cells) := hbp
  have HS : Hid (eqS m.st ⟨v.n, v.cl⟩ = true) := hs
  have HPh : Hid (v.ph = phAcc q t) := hph
  have HKd : Hid ((m.k == 15) = true) := hk
  have HQ : Hid (Box ww q 111 (qcs M h rf).toArray) := hq
  have HTx : Hid (Tal 132 U.ans ww h b a cap x) := hx
  have HTy : Hid (Tal 132 U.ans ww t tb ta tc y) := hy
  have HNe : Hid (h ≠ t ∧ b ≠ tb) := hne
  have HPW2 : Hid (Box ww p 94 v.cells) := hbp
  have HHr : Hid (decide (m.fi ∈ missL x) = true) := hhr
  clear hk hq hx hy hne hhr
  have HTk : Hid (takeB y m.fi = false) := htk
  clear htk
  clear hbp hs hph
  go_enter Try.func58, Try.ntmps58
  go_upto_region 0 with fail
  refine WL.start ?_
  refine uR (pV ww.heap.size 0) (ww.alloc (.cells m.cells 47)) (exec_box 47 _ rfl m.cells (by kernel_rfl)) ?_
  try simp only [pS]
  refine uK (.slice none 0 0) <| WL.nil <| ?_
  try simp only [pS]
  obtain ⟨w, hw⟩ : ∃ w, w = ww.alloc (.cells m.cells 47) := ⟨_, rfl⟩
  rw [← hw]
  have HK : Hid (Kept No ww w) := by rw [hw]; exact (Kept.refl No ww).alloc _
  have HP : Hid (Box w (p) 94 (v.cells)) := by rw [hw]; exact HPW.out.alloc _
  have H3 : Hid (Box w (ww.heap.size) 47 (m.cells)) := by rw [hw]; exact Box.new _ _ _
  obtain ⟨B3, hB3⟩ : ∃ B3, B3 = ww.heap.size := ⟨_, rfl⟩
  rw [← hB3] at H3 ⊢
  clear hw hB3 HPW
  go_upto_region 1 with fail
  refine wp_region_held_drew (S := fun w' => Box w' (p) 94 (v.cells) ∧ Box w' (B3) 47 (m.cells)) rfl ⟨HP.out, H3.out⟩ (fun hH => ?_)
  refine xV 0 8 (pV B3 11) hH <| xL 1 9 39 ⟨B3, 11, none⟩ (.agg #[.int .i64 m.st.n, .int .i64 m.st.c]) (fun _ hw => load_mS hw.2) hH <| xV 2 10 (pV p 0) hH <| xV 3 11 (pV p 0) hH <| xV 4 12 (pV p 17) hH <| xL 5 13 39 ⟨p, 17, none⟩ (.agg #[.int .i64 v.n, .int .i64 v.cl]) (fun _ hw => load_pB hw.1) hH <| ?_
  try simp only [pS]
  refine xB 6 14 .neq 39 (.agg #[.int .i64 m.st.n, .int .i64 m.st.c]) (.agg #[.int .i64 v.n, .int .i64 v.cl]) (.bool false) (fun _ _ => by rw [neqS m.st ⟨v.n, v.cl⟩, HS.out]; rfl) hH (hg := fun _ => guard_S _ (.inr rfl) _ _ _ _ _) ?_
  try simp only [pS]
  refine wpAnyH_done (by kernel_rfl) ?_ _
  try simp only [pS]
  clear hH
  obtain ⟨w1, hw1⟩ : ∃ w1, w1 = w.drew := ⟨_, rfl⟩
  have HP1 : Hid (Box w1 (p) 94 (v.cells)) := by rw [hw1]; exact HP.out
  have H31 : Hid (Box w1 (B3) 47 (m.cells)) := by rw [hw1]; exact H3.out
  have HK1 : Hid (Kept No ww w1) := by rw [hw1]; exact HK.out.drew
  rw [← hw1]
  clear hw1 HP H3 HK
  go_upto_region 3 with fail
  refine WL.start <| uK (pV B3 1) <| uK (pV B3 2) <| uL 3 ⟨B3, 2, none⟩ (.int .i64 m.fi) (load_N (H31.out.cell 2)) <| uK (.int .i64 m.fi) <| WL.nil <| ?_
  try simp only [pS]
  go_upto_region 4 with fail
  refine WL.start <| uK (pV p 0) <| uK (pV p 0) <| uK (pV p 21) <| uL 92 ⟨p, 21, none⟩ (phAcc q t) (by rw [← HPh.out]; exact load_92 HP1.out) <| WL.nil <| ?_
  try simp only [pS]
  go_upto_region 5 with fail
  refine WL.start <| uK (.tuple #[.agg #[.pointer none, .pointer none], .bool false]) <| uK (.bool false) <| uK (.agg #[.pointer none, .pointer none]) <| WL.nil <| ?_
  try simp only [pS]
  go_upto_region 9 with fail
  refine WL.start <| uK (.tuple #[.agg #[pV q 0, pV t 0], .bool true]) <| uK (.bool true) <| uK (.agg #[pV q 0, pV t 0]) <| WL.nil <| ?_
  try simp only [pS]
  go_upto_region 10 with fail
  refine WL.start ?_
  refine wp_allocW 162 rfl #[.pointer none, .pointer none] zero162 w1.heap.size rfl (by kernel_rfl) ?_
  try simp only [pS]
  obtain ⟨w2, hw2⟩ : ∃ w2, w2 = w1.alloc (.cells #[.pointer none, .pointer none] 162) := ⟨_, rfl⟩
  rw [← hw2]
  have H72 : Hid (Box w2 w1.heap.size 162 #[.pointer none, .pointer none]) := by rw [hw2]; exact Box.new _ _ _
  have HK12 : Hid (Kept No w1 w2) := by rw [hw2]; exact (Kept.refl No w1).alloc _
  obtain ⟨B7, hB7⟩ : ∃ B7, B7 = w1.heap.size := ⟨_, rfl⟩
  rw [← hB7] at H72 ⊢
  have HB7 : Hid (w1.heap.size ≤ B7) := by show _ ≤ _; omega
  clear hw2 hB7
  refine uT 162 ⟨B7, 0, none⟩ (.agg #[pV q 0, pV t 0]) _ (store_162 H72.out) ?_
  try simp only [pS]
  refine WL.nil ?_
  try simp only [pS]
  obtain ⟨w3, hw3⟩ : ∃ w3, w3 = w2.setRow B7 #[.pointer (some ⟨q, 0, none⟩), .pointer (some ⟨t, 0, none⟩)] := ⟨_, rfl⟩
  rw [← hw3]
  have H73 : Hid (Box w3 B7 162 #[.pointer (some ⟨q, 0, none⟩), .pointer (some ⟨t, 0, none⟩)]) := by rw [hw3]; exact H72.out.setRow _
  have HK13 : Hid (Kept No w1 w3) := by rw [hw3]; exact HK12.out.newRow HB7.out _
  have HK3 : Hid (Kept No ww w3) := HK1.out.then HK13.out
  have H33 : Hid (Box w3 (B3) 47 (m.cells)) := H31.out.kept HK13.out (fun e => e)
  clear hw3 H72 HK12 HK13 H31
  go_upto_region 11 with fail
  refine WL.start <| uK (pV B3 0) <| uL 3 ⟨B3, 0, none⟩ (.int .i64 m.k) (load_N (H33.out.cell 0)) <| uB .eql 3 (.int .i64 m.k) (.int .i64 15) (.bool true) (by rw [eqlN, HKd.out]) <| uK (.bool true) <| uK (pV B7 0) <| uL 108 ⟨B7, 0, none⟩ (pV q 0) (load_108 (H73.out.cell 0)) <| uK (.int .i64 m.fi) <| ?_
  try simp only [pS]
  have HT3 : Hid (Tal 132 U.ans w3 h b a cap x) := HTx.out.no HK3.out
  have HY3 : Hid (Tal 132 U.ans w3 t tb ta tc y) := HTy.out.no HK3.out
  have HQ3 : Hid (Box w3 q 111 (qcs M h rf).toArray) := HQ.out.kept HK3.out (fun e => e)
  have HP3 : Hid (Box w3 p 94 v.cells) := HPW2.out.kept HK3.out (fun e => e)
  refine uC 57 #[pV q 0, .int .i64 m.fi] (hear_any q h b cap a M rf x m.fi w3 HQ3.out HT3.out) ?_
  rintro e w4 ⟨rfl, hT4, hk4⟩
  have HT4 : Hid (Tal 132 U.ans w4 h b a cap (hearS x m.fi)) := hT4
  have H74 : Hid (Box w4 B7 162 #[.pointer (some ⟨q, 0, none⟩), .pointer (some ⟨t, 0, none⟩)]) := H73.out.kept hk4 (tal_far2 HT3.out H73.out (by decide) (by decide))
  have HQ4 : Hid (Box w4 q 111 (qcs M h rf).toArray) := HQ3.out.kept hk4 (tal_far2 HT3.out HQ3.out (by decide) (by decide))
  have HP4 : Hid (Box w4 p 94 v.cells) := HP3.out.kept hk4 (tal_far2 HT3.out HP3.out (by decide) (by decide))
  have HY4 : Hid (Tal 132 U.ans w4 t tb ta tc y) := HY3.out.kept hk4 (fun k e => tal_apart HT3.out HY3.out HNe.out.1 HNe.out.2 e)
  have HK4 : Hid (Kept (Tb2 h b) ww w4) := (HK3.out.of_no : Kept (Tb2 h b) ww w3).then hk4
  refine ⟨.bool true, by rw [HHr.out], ?_⟩
  clear hT4 hk4 HT3 HY3 HQ3 HP3 H73
  try simp only [pS]
  refine uK (.bool true) <| uK (.bool true) <| uK (pV B7 1) <| uL 87 ⟨B7, 1, none⟩ (pV t 0) (load_87 (H74.out.cell 1)) <| uK (.int .i64 m.fi) <| uW (.agg #[]) (exec_build 89 _ rfl (#[]) (by kernel_rfl)) <| ?_
  try simp only [pS]
  refine uC 79 #[pV t 0, .int .i64 m.fi, .agg #[]] (U.take_any t tb tc ta y m.fi () w4 HY4.out) ?_
  rintro e w5 ⟨rfl, hY5, hk5⟩
  have HY5 : Hid (Tal 132 U.ans w5 t tb ta tc (takeS y m.fi ())) := hY5
  have HT5 : Hid (Tal 132 U.ans w5 h b a cap (hearS x m.fi)) := HT4.out.kept hk5 (fun k e => tal_apart HY4.out HT4.out (Ne.symm HNe.out.1) (Ne.symm HNe.out.2) e)
  have H75 : Hid (Box w5 B7 162 #[.pointer (some ⟨q, 0, none⟩), .pointer (some ⟨t, 0, none⟩)]) := H74.out.kept hk5 (tal_far2 HY4.out H74.out (by decide) (by decide))
  have HQ5 : Hid (Box w5 q 111 (qcs M h rf).toArray) := HQ4.out.kept hk5 (tal_far2 HY4.out HQ4.out (by decide) (by decide))
  have HP5 : Hid (Box w5 p 94 v.cells) := HP4.out.kept hk5 (tal_far2 HY4.out HP4.out (by decide) (by decide))
  have HK5 : Hid (Kept (fun k => Tb2 h b k ∨ Tb2 t tb k) ww w5) := HK4.out.trans hk5 (fun _ e => .inl e) (fun _ _ e => .inr e)
  refine ⟨.bool false, by rw [HTk.out], ?_⟩
  clear hY5 hk5 HT4 HY4 HQ4 HP4 H74 HK4
  try simp only [pS]
  refine uK (.bool false) <| WL.nil <| ?_
  try simp only [pS]
  go_wp2
  rw [HC.out]
  exact ⟨rfl, HT5.out, HY5.out, HK5.out⟩

end Go.Proofs.Ytpabpeppgpeaoaa
