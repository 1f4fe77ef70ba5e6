import Derived.Test.YtpabpeppgpeaoaaW
namespace Go.Proofs.Ytpabpeppgpeaoaa
open Go.RowKit Gt
set_option linter.unusedVariables false
set_option linter.unusedSimpArgs false
theorem miss_new (l : List Int) (n : Int) : missL (tNew Unit l n) = uq l := by unfold missL tNew; simp
theorem load_Ky {w : World} {g : Nat} {y : Ky} (h : Box w g 23 y.cells) : (loadVar 23 ⟨g, 0, none⟩).run Try.prog w = .ok (.agg y.cells) w := run_load_part h (Part.all _) Try.und23 rfl Try.size23
/-- A proposer that has not begun. -/
def newP (cl op : Int) (y : Ky) (g : Sl) (c : Cm) (n r : Int) : Pv := ⟨cl, op, y, g, c, n, n, r, .nilIface⟩
def NewPOut (w : World) (zs : List Int) (cl op : Int) (y : Ky) (c : Cm) (n r : Int) (e : Ending) (w' : World) : Prop :=
  ∃ (p : Nat) (ga : Option Addr) (gc : Nat), e = .returned (.pointer (some ⟨p, 0, none⟩)) ∧ Box w' p 94 (newP cl op y ⟨ga, (uq zs).length, gc⟩ c n r).cells ∧ Own 3 1 w' w.heap.size ga gc (uq zs).length ((uq zs).map (Value.int .i64)) ∧ w.heap.size ≤ p ∧ Kept No w w'
set_option maxRecDepth 100000 in
set_option maxHeartbeats 4000000 in
theorem newP_any (cl op : Int) (y : Ky) (a0 : Option Addr) (n0 cap0 : Nat) (zs : List Int) (c : Cm) (n r : Int) (ww : World) (hz : zs.length = n0) (hn : n0 ≤ 17592186043904) (hg : Nums .i64 ww a0 zs) :
    Calls Try.prog 9 #[.int .i64 cl, .int .i64 op, .agg y.cells, .slice a0 n0 cap0, .agg c.cells, .int .i64 n, .int .i64 r] ww (NewPOut ww zs cl op y c n r) := by
  refine hideC fun C HC => ?_
  have HZ : Hid (zs.length = n0) := hz
  have HG : Hid (Nums .i64 ww a0 zs) := hg
  clear hz hg
  go_enter Try.func9, Try.ntmps9
  go_upto_region 0 with fail
  refine WL.start ?_
  refine uR (pV ww.heap.size 0) (ww.alloc (.cells y.cells 23)) (exec_box 23 _ rfl y.cells (by kernel_rfl)) ?_
  try simp only [pS]
  obtain ⟨wx, hwx⟩ : ∃ wx, wx = ww.alloc (.cells y.cells 23) := ⟨_, rfl⟩
  rw [← hwx]
  have HYx : Hid (Box wx ww.heap.size 23 y.cells) := by rw [hwx]; exact Box.new _ _ _
  have HKx : Hid (Kept No ww wx) := by rw [hwx]; exact (Kept.refl No ww).alloc _
  clear hwx
  refine uR (pV wx.heap.size 0) (wx.alloc (.cells c.cells 28)) (exec_box 28 _ rfl c.cells (by kernel_rfl)) ?_
  try simp only [pS]
  refine uK (.pointer none) <| WL.nil <| ?_
  try simp only [pS]
  obtain ⟨w, hw⟩ : ∃ w, w = wx.alloc (.cells c.cells 28) := ⟨_, rfl⟩
  rw [← hw]
  have H9 : Hid (Box w (ww.heap.size) 23 (y.cells)) := by rw [hw]; exact HYx.out.alloc _
  have H11 : Hid (Box w (wx.heap.size) 28 (c.cells)) := by rw [hw]; exact Box.new _ _ _
  have HK0 : Hid (Kept No ww w) := by rw [hw]; exact HKx.out.alloc _
  obtain ⟨B9, hB9⟩ : ∃ B9, B9 = ww.heap.size := ⟨_, rfl⟩
  rw [← hB9] at H9 ⊢
  clear hB9
  generalize wx.heap.size = B11 at H11 ⊢
  clear hw HYx HKx
  go_upto_region 1 with fail
  refine wp_region_held_drew (S := fun w' => Box w' (B9) 23 (y.cells) ∧ Box w' (B11) 28 (c.cells)) rfl ⟨H9.out, H11.out⟩ (fun hH => ?_)
  refine xV 0 15 (.int .i64 cl) hH <| xU 1 16 (.agg (#[.bool true, .int .i64 cl])) (fun w' hw => exec_build 37 _ rfl (#[.bool true, .int .i64 cl]) (by kernel_rfl)) hH <| xV 2 17 (.int .i64 op) hH <| xL 3 18 23 ⟨B9, 0, none⟩ (.agg y.cells) (fun _ hw => load_Ky hw.1) hH <| xL 4 19 28 ⟨B11, 0, none⟩ (.agg c.cells) (fun _ hw => load_C hw.2) hH <| xV 5 20 (.slice a0 n0 cap0) hH <| ?_
  try simp only [pS]
  refine xV 8 23 (.int .i64 n) hH <| xV 9 24 (.int .i64 cl) hH <| xU 10 25 (.agg (#[.int .i64 n, .int .i64 cl])) (fun w' hw => exec_build 39 _ rfl (#[.int .i64 n, .int .i64 cl]) (by kernel_rfl)) hH <| xV 11 26 (.int .i64 n) hH <| xV 12 27 (.int .i64 r) hH <| ?_
  try simp only [pS]
  refine xC 6 21 33 #[.slice a0 n0 cap0, .int .i64 0] (U.new_any a0 n0 cap0 zs 0 w.drew HZ.out hn (HG.out.no (HK0.out.drew))) ?_
  rintro e w2 ⟨ta, tc, rfl, hT, hF, hk⟩
  have HT : Hid (Tal 132 U.ans w2 (w.drew.heap.size + 1) w.drew.heap.size ta tc (tNew Unit zs 0)) := hT
  have HK2 : Hid (Kept No ww w2) := HK0.out.drew.then hk
  refine ⟨.pointer (some ⟨w.drew.heap.size + 1, 0, none⟩), rfl, ⟨H9.out.kept (w := w.drew) hk (fun e => e), H11.out.kept (w := w.drew) hk (fun e => e)⟩, fun hH => ?_⟩
  try simp only [pS]
  generalize w.drew.heap.size = Bt at HT ⊢
  clear hT hF hk
  have HM : Hid (Calls Try.prog 34 #[.pointer (some ⟨Bt + 1, 0, none⟩)] w2 (MissOut w2 (missL (tNew Unit zs 0)))) := U.missing_any _ _ _ _ _ _ HT.out
  rw [miss_new] at HM
  refine xC 7 22 34 #[pV (Bt + 1) 0] HM.out ?_
  rintro e w3 ⟨ga, gc, rfl, hO, hk⟩
  have HO : Hid (Own 3 1 w3 w2.heap.size ga gc (uq zs).length ((uq zs).map (Value.int .i64))) := hO
  have HK3 : Hid (Kept No ww w3) := HK2.out.then hk
  have HS3 : Hid (ww.heap.size ≤ w2.heap.size) := HK2.out.size
  refine ⟨.slice ga (uq zs).length gc, rfl, ⟨hH.1.kept hk (fun e => e), hH.2.kept hk (fun e => e)⟩, fun hH => ?_⟩
  clear hO hk HM
  try simp only [pS]
  refine xU 13 28 (.agg ((newP cl op y ⟨ga, (uq zs).length, gc⟩ c n r).cells)) (fun w' hw => exec_build 94 _ rfl ((newP cl op y ⟨ga, (uq zs).length, gc⟩ c n r).cells) (by kernel_rfl)) hH ?_
  try simp only [pS]
  refine xP 14 29 (pV w3.heap.size 0) (w' := w3.alloc (.cells (newP cl op y ⟨ga, (uq zs).length, gc⟩ c n r).cells 94)) (exec_box 94 _ rfl _ (by kernel_rfl)) ⟨hH.1.alloc _, hH.2.alloc _⟩ (fun hH => ?_)
  try simp only [pS]
  refine xV 15 14 (pV w3.heap.size 0) hH ?_
  try simp only [pS]
  refine wpAnyH_done (by kernel_rfl) ?_ _
  try simp only [pS]
  clear hH
  go_wp2
  rw [HC.out]
  exact ⟨w3.heap.size, ga, gc, rfl, Box.new _ _ _, Own.lower (HO.out.no ((Kept.refl No w3).alloc _)) HS3.out, HK3.out.size, HK3.out.alloc _⟩

theorem Ms.partS (m : Ms) : Part m.cs 11 [.int .i64 m.st.n, .int .i64 m.st.c] := fun j x h => by
  match j, h with
  | 0, h => exact h
  | 1, h => exact h
theorem load_mS {w : World} {g : Nat} {m : Ms} (h : Box w g 47 m.cells) : (loadVar 39 ⟨g, 11, none⟩).run Try.prog w = .ok (.agg #[.int .i64 m.st.n, .int .i64 m.st.c]) w := run_load_part h m.partS Try.und39 rfl Try.size39
set_option maxRecDepth 100000 in
set_option maxHeartbeats 2000000 in
/-- Of another ballot: passed over. -/
theorem agreed_other (p : Nat) (v : Pv) (m : Ms) (ww : World) (h : Box ww p 94 v.cells) (hs : eqS m.st ⟨v.n, v.cl⟩ = false) : Calls Try.prog 58 #[.pointer (some ⟨p, 0, none⟩), .agg m.cells] ww (fun e w' => e = .returned (.slice none 0 0) ∧ Kept No ww w') := by
  refine hideC fun C HC => ?_
  have HPW : Hid (Box ww p 94 v.cells) := h
  have HS : Hid (eqS m.st ⟨v.n, v.cl⟩ = false) := hs
  clear h hs
  go_enter Try.func58, Try.ntmps58
  go_upto_region 0 with fail
  refine WL.start ?_
  refine uR (pV ww.heap.size 0) (ww.alloc (.cells m.cells 47)) (exec_box 47 _ rfl m.cells (by kernel_rfl)) ?_
  try simp only [pS]
  refine uK (.slice none 0 0) <| WL.nil <| ?_
  try simp only [pS]
  obtain ⟨w, hw⟩ : ∃ w, w = ww.alloc (.cells m.cells 47) := ⟨_, rfl⟩
  rw [← hw]
  have HK : Hid (Kept No ww w) := by rw [hw]; exact (Kept.refl No ww).alloc _
  have HP : Hid (Box w (p) 94 (v.cells)) := by rw [hw]; exact HPW.out.alloc _
  have H3 : Hid (Box w (ww.heap.size) 47 (m.cells)) := by rw [hw]; exact Box.new _ _ _
  obtain ⟨B3, hB3⟩ : ∃ B3, B3 = ww.heap.size := ⟨_, rfl⟩
  rw [← hB3] at H3 ⊢
  clear hw hB3 HPW
  go_upto_region 1 with fail
  refine wp_region_held_drew (S := fun w' => Box w' (p) 94 (v.cells) ∧ Box w' (B3) 47 (m.cells)) rfl ⟨HP.out, H3.out⟩ (fun hH => ?_)
  refine xV 0 8 (pV B3 11) hH <| xL 1 9 39 ⟨B3, 11, none⟩ (.agg #[.int .i64 m.st.n, .int .i64 m.st.c]) (fun _ hw => load_mS hw.2) hH <| xV 2 10 (pV p 0) hH <| xV 3 11 (pV p 0) hH <| xV 4 12 (pV p 17) hH <| xL 5 13 39 ⟨p, 17, none⟩ (.agg #[.int .i64 v.n, .int .i64 v.cl]) (fun _ hw => load_pB hw.1) hH <| ?_
  try simp only [pS]
  refine xB 6 14 .neq 39 (.agg #[.int .i64 m.st.n, .int .i64 m.st.c]) (.agg #[.int .i64 v.n, .int .i64 v.cl]) (.bool true) (fun _ _ => by rw [neqS m.st ⟨v.n, v.cl⟩, HS.out]; rfl) hH (hg := fun _ => guard_S _ (.inr rfl) _ _ _ _ _) ?_
  try simp only [pS]
  refine wpAnyH_done (by kernel_rfl) ?_ _
  try simp only [pS]
  clear hH
  go_wp2
  rw [HC.out]
  exact ⟨rfl, HK.out.drew⟩

end Go.Proofs.Ytpabpeppgpeaoaa
