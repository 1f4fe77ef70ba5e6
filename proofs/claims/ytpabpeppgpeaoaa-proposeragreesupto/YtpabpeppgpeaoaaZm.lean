import Derived.Test.YtpabpeppgpeaoaaZg
import Derived.Laws.BytesString
namespace Go.Proofs.Ytpabpeppgpeaoaa
open Go.RowKit Gt
set_option linter.unusedVariables false
set_option linter.unusedSimpArgs false

theorem copied_of (b : Bv) (es : List En) (ls : List La) (w : World) (hbe : b.e.l * 40 ≤ 140737488355328) (hbl : b.l.l * 56 ≤ 140737488355328) (he : RdE w b.e es) (hl : RdL w b.l ls) : Calls Try.prog 56 #[.agg b.cells] w (CopOut w b.up es ls) := by
  obtain ⟨up, ⟨ae, ne, ce⟩, ⟨al, nl, cl⟩⟩ := b
  exact copied_any up ae ne ce al nl cl es ls w hbe hbl he hl
theorem Ms.partB (m : Ms) : Part m.cs 25 (Bv.cs ⟨m.up, m.en, m.la⟩) := fun j v h => by
  have hj := (List.getElem?_eq_some_iff.1 h).1
  have h3 : (Bv.cs ⟨m.up, m.en, m.la⟩).length = 3 := rfl
  rw [h3] at hj
  match j, hj with
  | 0, _ => exact h
  | 1, _ => exact h
  | 2, _ => exact h
theorem load_mb {w : World} {g : Nat} {m : Ms} (hb : Box w g 47 m.cells) : (loadVar 44 ⟨g, 25, none⟩).run Try.prog w = .ok (.agg (Bv.cells ⟨m.up, m.en, m.la⟩)) w := run_load_part hb m.partB Try.und44 rfl Try.size44
set_option maxRecDepth 100000 in
set_option maxHeartbeats 4000000 in
theorem take_bucket (p : Nat) (v : Pv) (m : Ms) (q : Nat) (zs : List Int) (es : List En) (ls : List La) (ww : World) (h : Box ww p 94 v.cells) (hask : ∀ W, Kept No ww W → Calls Try.prog 50 #[.pointer (some ⟨p, 0, none⟩)] W (fun e w' => e = .returned (.pointer (some ⟨q, 0, none⟩)) ∧ Kept No W w')) (hz : zs.length = v.ga.l) (hn : v.ga.l ≤ 2000000) (hg : Nums .i64 ww v.ga.a zs) (hab : ansB v zs m = true) (h16 : (m.k == 16) = false) (h17 : (m.k == 17) = true) (hbe : m.en.l * 40 ≤ 140737488355328) (hbl : m.la.l * 56 ≤ 140737488355328) (he : RdE ww m.en es) (hl : RdL ww m.la ls) : Calls Try.prog 28 #[.pointer (some ⟨p, 0, none⟩), .agg m.cells] ww (fun e w' => ∃ se sl : Sl, e = .returned (.slice none 0 0) ∧ Box w' p 94 ({ v with ph := phTri m.up se sl } : Pv).cells ∧ OwE w' ww.heap.size se es ∧ OwL w' ww.heap.size sl ls ∧ Kept (Only p) ww w') := by
  refine hideC fun C HC => ?_
  have HPW : Hid (Box ww p 94 v.cells) := h
  have HAsk : Hid (∀ W, Kept No ww W → Calls Try.prog 50 #[.pointer (some ⟨p, 0, none⟩)] W (fun e w' => e = .returned (.pointer (some ⟨q, 0, none⟩)) ∧ Kept No W w')) := hask
  have HZl : Hid (zs.length = v.ga.l) := hz
  have HZn : Hid (v.ga.l ≤ 2000000) := hn
  have HGr : Hid (Nums .i64 ww v.ga.a zs) := hg
  have HAb : Hid (ansB v zs m = true) := hab
  clear hz hn hg hab
  have HK_16 : Hid ((m.k == 16) = false) := h16
  clear h16
  have HK_17 : Hid ((m.k == 17) = true) := h17
  clear h17
  have HBe : Hid (m.en.l * 40 ≤ 140737488355328) := hbe
  have HBl : Hid (m.la.l * 56 ≤ 140737488355328) := hbl
  have HE : Hid (RdE ww m.en es) := he
  have HL : Hid (RdL ww m.la ls) := hl
  clear hbe hbl he hl
  clear h hask
  go_enter Try.func28, Try.ntmps28
  go_upto_region 0 with fail
  refine WL.start ?_
  refine uR (pV ww.heap.size 0) (ww.alloc (.cells m.cells 47)) (exec_box 47 _ rfl m.cells (by kernel_rfl)) ?_
  try simp only [pS]
  refine uK (.slice none 0 0) <| WL.nil <| ?_
  try simp only [pS]
  obtain ⟨w, hw⟩ : ∃ w, w = ww.alloc (.cells m.cells 47) := ⟨_, rfl⟩
  rw [← hw]
  have HK : Hid (Kept No ww w) := by rw [hw]; exact (Kept.refl No ww).alloc _
  have HP : Hid (Box w (p) 94 (v.cells)) := by rw [hw]; exact HPW.out.alloc _
  have H3 : Hid (Box w (ww.heap.size) 47 (m.cells)) := by rw [hw]; exact Box.new _ _ _
  obtain ⟨B3, hB3⟩ : ∃ B3, B3 = ww.heap.size := ⟨_, rfl⟩
  rw [← hB3] at H3 ⊢
  clear hw hB3 HPW
  go_upto_region 1 with fail
  refine WL.start <| uK (pV p 0) <| ?_
  try simp only [pS]
  refine uC 50 #[pV p 0] (HAsk.out w HK.out) ?_
  rintro e w1 ⟨rfl, hk1⟩
  have HK1 : Hid (Kept No ww w1) := HK.out.then hk1
  have HP1 : Hid (Box w1 (p) 94 (v.cells)) := HP.out.kept hk1 (fun e => e)
  have H31 : Hid (Box w1 (B3) 47 (m.cells)) := H3.out.kept hk1 (fun e => e)
  refine ⟨.pointer (some ⟨q, 0, none⟩), rfl, ?_⟩
  clear hk1 HK HP H3 HAsk
  try simp only [pS]
  refine uK (pV q 0) <| WL.nil <| ?_
  try simp only [pS]
  go_upto_region 2 with fail
  refine WL.start <| uK (pV q 0) <| uB .eql 108 (pV q 0) (.pointer none) (.bool false) (by kernel_rfl) <| uK (.bool false) <| uK (pV p 0) <| uL 47 ⟨B3, 0, none⟩ (.agg m.cells) (load_Ms H31.out) <| ?_
  try simp only [pS]
  refine uC 55 #[pV p 0, .agg m.cells] (answers_any p v m zs w1 HP1.out HZl.out HZn.out (HGr.out.no HK1.out)) ?_
  rintro e w2 ⟨rfl, hk2⟩
  have HK2 : Hid (Kept No ww w2) := HK1.out.then hk2
  have HP2 : Hid (Box w2 (p) 94 (v.cells)) := HP1.out.kept hk2 (fun e => e)
  have H32 : Hid (Box w2 (B3) 47 (m.cells)) := H31.out.kept hk2 (fun e => e)
  refine ⟨.bool true, by rw [HAb.out], ?_⟩
  clear hk2 HK1 HP1 H31
  try simp only [pS]
  refine uK (.bool false) <| uK (.bool false) <| WL.nil <| ?_
  try simp only [pS]
  go_upto_region 4 with fail
  refine WL.start <| uK (pV B3 0) <| uL 3 ⟨B3, 0, none⟩ (.int .i64 m.k) (load_N (H32.out.cell 0)) <| WL.nil <| ?_
  try simp only [pS]
  go_upto_region 5 with fail
  refine WL.start <| uB .eql 3 (.int .i64 m.k) (.int .i64 16) (.bool false) (by rw [eqlN, HK_16.out]) <| uK (.bool false) <| WL.nil <| ?_
  try simp only [pS]
  go_upto_region 7 with fail
  refine WL.start <| uB .eql 3 (.int .i64 m.k) (.int .i64 17) (.bool true) (by rw [eqlN, HK_17.out]) <| uK (.bool true) <| WL.nil <| ?_
  try simp only [pS]
  obtain ⟨b, hb⟩ : ∃ b : Bv, b = ⟨m.up, m.en, m.la⟩ := ⟨_, rfl⟩
  have hcc : b.up = m.up := by rw [hb]
  have HCc : Hid (b.up = m.up) := hcc
  clear hcc
  have HLo : Hid ((loadVar 44 ⟨B3, 25, none⟩).run Try.prog w2 = .ok (.agg b.cells) w2) := by rw [hb]; exact load_mb H32.out
  have HCo : Hid (Calls Try.prog 56 #[.agg b.cells] w2 (CopOut w2 b.up es ls)) := copied_of b es ls w2 (by rw [hb]; exact HBe.out) (by rw [hb]; exact HBl.out) (by rw [hb]; exact HE.out.no HK2.out) (by rw [hb]; exact HL.out.no HK2.out)
  clear hb H32 HE HL HBe HBl
  go_upto_region 8 with fail
  refine WL.start <| uK (pV p 0) <| uK (pV B3 25) <| uL 44 ⟨B3, 25, none⟩ (.agg b.cells) HLo.out <| ?_
  try simp only [pS]
  refine uC 56 #[.agg b.cells] HCo.out ?_
  rintro e w4 ⟨se, sl, rfl, hE4, hL4, hk4⟩
  have HP4 : Hid (Box w4 p 94 v.cells) := HP2.out.kept hk4 (fun e => e)
  have HE4 : Hid (OwE w4 ww.heap.size se es) := hE4.lower HK2.out.size
  have HL4 : Hid (OwL w4 ww.heap.size sl ls) := hL4.lower HK2.out.size
  have HK4 : Hid (Kept No ww w4) := HK2.out.then hk4
  obtain ⟨c, hc⟩ : ∃ c : Bv, c = ⟨b.up, se, sl⟩ := ⟨_, rfl⟩
  have htc : Value.iface 120 (.agg c.cells) = phTri m.up se sl := by rw [hc, HCc.out]; rfl
  have HTc : Hid (Value.iface 120 (.agg c.cells) = phTri m.up se sl) := htc
  clear htc
  refine ⟨.agg c.cells, by rw [hc], ?_⟩
  clear hE4 hL4 hk4 HP2 HK2 HLo HCo hc HCc
  try simp only [pS]
  refine uW (.agg (c.cells)) (exec_build 120 _ rfl (c.cells) (by kernel_rfl)) <| uK (.iface 120 (.agg c.cells)) <| uK (pV p 0) <| uK (pV p 21) <| ?_
  try simp only [pS]
  refine uT 92 ⟨p, 21, none⟩ (.iface 120 (.agg c.cells)) _ (store_ph HP4.out (.iface 120 (.agg c.cells)) rfl rfl) ?_
  try simp only [pS]
  refine WL.nil ?_
  try simp only [pS]
  rw [HTc.out]
  obtain ⟨w5, hw⟩ : ∃ w5, w5 = w4.setRow p ({ v with ph := phTri m.up se sl } : Pv).cells := ⟨_, rfl⟩
  have hks : Kept (Only p) w4 w5 := by rw [hw]; exact Kept.setRow _ _ _
  have HP5 : Hid (Box w5 (p) 94 (({ v with ph := phTri m.up se sl } : Pv).cells)) := by rw [hw]; exact HP4.out.setRow _
  have HE5 : Hid (OwE w5 ww.heap.size se es) := HE4.out.kept hks (fun k h e => (HE4.out.own.notBox HP4.out (by decide)) ((show k = p from e) ▸ h))
  have HL5 : Hid (OwL w5 ww.heap.size sl ls) := HL4.out.kept hks (fun k h e => (HL4.out.own.notBox HP4.out (by decide)) ((show k = p from e) ▸ h))
  have HK5 : Hid (Kept (Only p) ww w5) := (HK4.out.of_no : Kept (Only p) ww w4).then hks
  rw [← hw]
  clear hw hks HP4 HK4 HE4 HL4
  go_wp2
  rw [HC.out]
  exact ⟨se, sl, rfl, HP5.out, HE5.out, HL5.out, HK5.out⟩

end Go.Proofs.Ytpabpeppgpeaoaa
namespace Go.Proofs.Ytpabpeppgpeaoaa
open Go.RowKit Gt
set_option linter.unusedVariables false
set_option linter.unusedSimpArgs false

theorem Oc.partB (o : Oc) : Part o.cs 12 (Bv.cs ⟨o.u, o.e, o.l⟩) := fun j v h => by
  have hj := (List.getElem?_eq_some_iff.1 h).1
  have h3 : (Bv.cs ⟨o.u, o.e, o.l⟩).length = 3 := rfl
  rw [h3] at hj
  match j, hj with
  | 0, _ => exact h
  | 1, _ => exact h
  | 2, _ => exact h
end Go.Proofs.Ytpabpeppgpeaoaa
namespace Go.Proofs.Ytpabpeppgpeaoaa
open Go.RowKit Gt
set_option linter.unusedVariables false
set_option linter.unusedSimpArgs false

theorem Try.und40 : Try.prog.underlying 40 = some (.slice 5) := by kernel_rfl
theorem Try.und5 : Try.prog.underlying 5 = some (.int .u8) := by kernel_rfl
def str1 (x : Int) : ByteArray := ByteArray.empty.push (UInt8.ofNat x.toNat)
theorem conv1 (w : World) (x : Int) (g : Nat) (hg : g = w.heap.size) : (convert 40 9 (.slice (some ⟨g, 0, none⟩) 1 1)).run Try.prog (w.alloc (.cells #[.int .u8 x] 5)) = .ok (.string (str1 x)) (w.alloc (.cells #[.int .u8 x] 5)) := by
  subst hg
  rw [run_convert_bytes_string _ 40 9 5 _ 1 1 Try.und40 Try.und5 Try.und9]
  have hb := Box.new w 5 #[.int .u8 x]
  have hl := run_loadCells_list (P := Try.prog) (w.alloc (.cells #[.int .u8 x] 5)) ⟨w.heap.size, 0, none⟩ [.int .u8 x] (fun j v hv => by
    match j, hv with
    | 0, hv => cases hv; exact hb.cell 0)
  exact run_bytesToString _ _ 1 1 [x] hl
def cmdOf (c : Int) : Cm := ⟨3, c, 1, str1 (wrap64 (97 + c.tmod 26) % 256), 0, 0, 0, 0, 0⟩
set_option maxRecDepth 100000 in
set_option maxHeartbeats 1000000 in
theorem command_any (c : Int) (w : World) : Calls Try.prog 24 #[.int .i64 c] w (fun e w' => e = .returned (.agg (cmdOf c).cells) ∧ Kept No w w') := by
  go_enter Try.func24, Try.ntmps24
  go_wp2
  rw [conv1 _ _ _ (by simp)]
  go_wp2
  have hB : Box ((w.alloc (.cells (cmdOf c).cells 28)).alloc (.cells #[.int .u8 (wrap64 (97 + c.tmod 26) % 256)] 5)) w.heap.size 28 (cmdOf c).cells := (Box.new w 28 (cmdOf c).cells).alloc _
  refine bodyPost_ret (results_row1 (by rfl) _ _ w.heap.size (cmdOf c).cells (by rfl) (load_C hB)) rfl ?_
  exact ⟨rfl, ((Kept.refl No w).alloc _).alloc _⟩

end Go.Proofs.Ytpabpeppgpeaoaa
namespace Go.Proofs.Ytpabpeppgpeaoaa
open Go.RowKit Gt
set_option linter.unusedVariables false
set_option linter.unusedSimpArgs false

/-- Where a proposer stands; a proposer. -/
inductive Ph
  | fresh
  | pre (x : TS Unit) (y : TS Vt) (rf : Bool)
  | acc (c : Cm) (x y : TS Unit) (rf : Bool)
  | dec (c : Cm)
  | tri (u : Int) (es : List En) (ls : List La)
  | worn
structure PS where
  cl : Int
  op : Int
  ky : Ky
  zs : List Int
  mine : Cm
  n : Int
  top : Int
  rd : Int
  ph : Ph
def PS.pv (s : PS) (g : Sl) (x : Value) : Pv := ⟨s.cl, s.op, s.ky, g, s.mine, s.n, s.top, s.rd, x⟩
def PS.v0 (s : PS) : Pv := s.pv slZ .nilIface
def NotM (w : World) (k : Nat) : Prop := ∀ cs, ¬ Box w k 47 cs
theorem Box.notM {w : World} {g : Nat} {t : TypeId} {cs : Array Value} (h : Box w g t cs) (ht : t ≠ 47) : NotM w g := fun cs' h' => by
  unfold Box at h h'
  rw [h] at h'
  cases h'
  exact ht rfl
theorem MapIs.notM {w : World} {b : Nat} {g : Int → Option Value} (h : MapIs w b g) : NotM w b := fun cs' h' => by
  obtain ⟨es, clock, hh, _⟩ := h
  unfold Box at h'
  rw [hh] at h'
  cases h'
theorem Own.notM {t : TypeId} {c : Nat} {w : World} {base : Nat} {a : Option Addr} {cap n : Nat} {vs : List Value} (h : Own t c w base a cap n vs) (ht : t ≠ 47) {k : Nat} (hk : At a k) : NotM w k := fun cs hb => h.notBox hb ht hk
/-- A question and its two tallies in memory. -/
structure QAt {α : Type} (T : TypeId) (f : Option α → Value) (w : World) (I : Nat → Prop) (zs : List Int) (M : Ms) (q t : Nat) (rf : Bool) (x : TS Unit) (y : TS α) : Prop where
  ex : ∃ h b a cap tb ta tc, Box w q 111 (qcs M h rf).toArray ∧ Tal 132 U.ans w h b a cap x ∧ Tal T f w t tb ta tc y ∧ h ≠ t ∧ b ≠ tb ∧ I q ∧ (∀ k, TB h b a k → I k) ∧ ∀ k, TB t tb ta k → I k
  gx : x.g = uq zs
  gy : y.g = uq zs
  ty : T ≠ 47
def PhAt (w : World) (I : Nat → Prop) (s : PS) (v : Value) : Ph → Prop
  | .fresh => v = .nilIface
  | .pre x y rf => ∃ q t, v = phPre q t ∧ QAt 170 V.ans w I s.zs (prepM s.v0) q t rf x y
  | .acc c x y rf => ∃ q t, v = phAcc q t ∧ QAt 132 U.ans w I s.zs (accM s.v0 c) q t rf x y
  | .dec c => v = phDec c
  | .tri u es ls => ∃ se sl : Sl, v = phTri u se sl ∧ OwE w 0 se es ∧ OwL w 0 sl ls ∧ (∀ k, At se.a k → I k) ∧ (∀ k, At sl.a k → I k) ∧ se.l * 40 ≤ 140737488355328 ∧ sl.l * 56 ≤ 140737488355328
  | .worn => v = phWorn
structure Prp (w : World) (I : Nat → Prop) (p : Nat) (s : PS) : Prop where
  ex : ∃ (g : Sl) (v : Value), Box w p 94 (s.pv g v).cells ∧ s.zs.length = g.l ∧ Own 3 1 w 0 g.a g.k g.l (s.zs.map (Value.int .i64)) ∧ PhAt w I s v s.ph ∧ I p ∧ ∀ k, At g.a k → I k
  len : s.zs.length ≤ 2000000
theorem tal_notM {α : Type} {f : Option α → Value} {T : TypeId} {w : World} {t b cap : Nat} {a : Option Addr} {x : TS α} (h : Tal T f w t b a cap x) (hT : T ≠ 47) {k : Nat} (hk : TB t b a k) : NotM w k := by
  rcases hk with rfl | rfl | hk
  · exact h.box.notM hT
  · exact h.map.notM
  · exact h.row.notM (by decide) hk
theorem QAt.kept {α : Type} {T : TypeId} {f : Option α → Value} {S I I' : Nat → Prop} {w w' : World} {zs : List Int} {M : Ms} {q t : Nat} {rf : Bool} {x : TS Unit} {y : TS α} (h : QAt T f w I zs M q t rf x y) (hk : Kept S w w') (hS : ∀ k, I k → k < w.heap.size → NotM w k → ¬ S k ∧ I' k) : QAt T f w' I' zs M q t rf x y := by
  obtain ⟨⟨h0, b, a, cap, tb, ta, tc, hq, hx, hy, h1, h2, i1, i2, i3⟩, gx, gy, ty⟩ := h
  have q1 := hS q i1 hq.lt (hq.notM (by decide))
  have q2 : ∀ k, TB h0 b a k → ¬ S k ∧ I' k := fun k e => hS k (i2 k e) (hx.lt e) (tal_notM hx (by decide) e)
  have q3 : ∀ k, TB t tb ta k → ¬ S k ∧ I' k := fun k e => hS k (i3 k e) (hy.lt e) (tal_notM hy ty e)
  exact ⟨⟨h0, b, a, cap, tb, ta, tc, hq.kept hk q1.1, hx.kept hk (fun k e => (q2 k e).1), hy.kept hk (fun k e => (q3 k e).1), h1, h2, q1.2, fun k e => (q2 k e).2, fun k e => (q3 k e).2⟩, gx, gy, ty⟩
theorem OwE.lt {w : World} {b : Nat} {s : Sl} {es : List En} (h : OwE w b s es) {k : Nat} (hk : At s.a k) : k < w.heap.size := h.own.lt hk
theorem OwL.lt {w : World} {b : Nat} {s : Sl} {es : List La} (h : OwL w b s es) {k : Nat} (hk : At s.a k) : k < w.heap.size := h.own.lt hk
theorem PhAt.kept {S I I' : Nat → Prop} {w w' : World} {s : PS} {v : Value} {P : Ph} (h : PhAt w I s v P) (hk : Kept S w w') (hS : ∀ k, I k → k < w.heap.size → NotM w k → ¬ S k ∧ I' k) : PhAt w' I' s v P := by
  cases P with
  | fresh => exact h
  | pre x y rf => obtain ⟨q, t, e, h⟩ := h; exact ⟨q, t, e, h.kept hk hS⟩
  | acc c x y rf => obtain ⟨q, t, e, h⟩ := h; exact ⟨q, t, e, h.kept hk hS⟩
  | dec c => exact h
  | tri u es ls =>
    obtain ⟨se, sl, e, h1, h2, i1, i2, b1, b2⟩ := h
    have q1 : ∀ k, At se.a k → ¬ S k ∧ I' k := fun k e => hS k (i1 k e) (h1.lt e) (h1.own.notM (by decide) e)
    have q2 : ∀ k, At sl.a k → ¬ S k ∧ I' k := fun k e => hS k (i2 k e) (h2.lt e) (h2.own.notM (by decide) e)
    exact ⟨se, sl, e, h1.kept hk (fun k e => (q1 k e).1), h2.kept hk (fun k e => (q2 k e).1), fun k e => (q1 k e).2, fun k e => (q2 k e).2, b1, b2⟩
  | worn => exact h
theorem Prp.kept {S I I' : Nat → Prop} {w w' : World} {p : Nat} {s : PS} (h : Prp w I p s) (hk : Kept S w w') (hS : ∀ k, I k → k < w.heap.size → NotM w k → ¬ S k ∧ I' k) : Prp w' I' p s := by
  obtain ⟨⟨g, v, hb, hl, hg, hp, i1, i2⟩, len⟩ := h
  have q1 := hS p i1 hb.lt (hb.notM (by decide))
  have q2 : ∀ k, At g.a k → ¬ S k ∧ I' k := fun k e => hS k (i2 k e) (hg.lt e) (hg.notM (by decide) e)
  exact ⟨⟨g, v, hb.kept hk q1.1, hl, hg.kept hk (fun k e => (q2 k e).1), hp.kept hk hS, q1.2, fun k e => (q2 k e).2⟩, len⟩
theorem Prp.no {I : Nat → Prop} {w w' : World} {p : Nat} {s : PS} (h : Prp w I p s) (hk : Kept No w w') : Prp w' I p s := h.kept hk (fun k e _ _ => ⟨fun f => f, e⟩)
theorem Prp.cut {I : Nat → Prop} {w : World} {p : Nat} {s : PS} (h : Prp w I p s) : Prp w (fun k => I k ∧ k < w.heap.size ∧ NotM w k) p s := h.kept (Kept.refl No w) (fun k e l m => ⟨fun f => f, e, l, m⟩)
/-- What a call of a proposer tells and leaves. -/
def PrOut (w : World) (I : Nat → Prop) (p : Nat) (s : PS) (l : List Ms) (e : Ending) (w' : World) : Prop :=
  ∃ la lc I', e = .returned (.slice la l.length lc) ∧ Own 47 30 w' w.heap.size la lc l.length (msL l) ∧ Prp w' I' p s ∧ (∀ k, I' k → (I k ∨ w.heap.size ≤ k) ∧ k < w'.heap.size ∧ NotM w' k) ∧ Kept I w w'
theorem PrOut.mk {w w' : World} {I : Nat → Prop} {p : Nat} {s : PS} {l : List Ms} {e : Ending} {la : Option Addr} {lc : Nat} (he : e = .returned (.slice la l.length lc)) (ho : Own 47 30 w' w.heap.size la lc l.length (msL l)) (hp : Prp w' (fun k => I k ∨ w.heap.size ≤ k) p s) (hk : Kept I w w') : PrOut w I p s l e w' :=
  ⟨la, lc, _, he, ho, hp.cut, fun k e => e, hk⟩
theorem PrOut.nil {w w' : World} {I : Nat → Prop} {p : Nat} {s : PS} {e : Ending} (he : e = .returned (.slice none 0 0)) (hp : Prp w' (fun k => I k ∨ w.heap.size ≤ k) p s) (hk : Kept I w w') : PrOut w I p s [] e w' :=
  PrOut.mk (la := none) (lc := 0) he (Own.nil 47 30 _ _) hp hk
theorem Prp.wide {I I' : Nat → Prop} {w : World} {p : Nat} {s : PS} (h : Prp w I p s) (hS : ∀ k, I k → I' k) : Prp w I' p s := h.kept (Kept.refl No w) (fun k e _ _ => ⟨fun f => f, hS k e⟩)
theorem PrOut.same {w w' : World} {I : Nat → Prop} {p : Nat} {s : PS} {e : Ending} (he : e = .returned (.slice none 0 0)) (hp : Prp w I p s) (hk : Kept No w w') : PrOut w I p s [] e w' :=
  PrOut.nil he ((hp.no hk).wide (fun k e => .inl e)) hk.of_no

/-- What a proposer does. -/
def mov (s : PS) (n r : Int) : PS := { s with n := n, rd := r, top := max s.top n }
def prepS (s : PS) (n r : Int) : PS × List Ms :=
  if okN n && okN r then ({ mov s n r with ph := .pre (tNew Unit s.zs (s.zs.length : Int)) (tNew Vt s.zs (needN s.zs.length)) false }, s.zs.map (prepM (mov s n r).v0).to) else ({ s with ph := .worn }, [])
def begS (s : PS) : PS × List Ms := match s.ph with | .fresh => prepS s s.n s.rd | _ => (s, [])
def tickS (s : PS) : PS × List Ms := match s.ph with
  | .pre x _ rf => if rf then prepS s (wr1 s.top) (wr1 s.rd) else (s, (missL x).map (prepM s.v0).to)
  | .acc c x _ rf => if rf then prepS s (wr1 s.top) (wr1 s.rd) else (s, (missL x).map (accM s.v0 c).to)
  | _ => (s, [])
def choiceS (s : PS) (y : TS Vt) : Cm := vCmd (bestV (ownV s.v0 :: (gotL y).map Prod.snd))
def accS (s : PS) (c : Cm) : PS × List Ms :=
  if okN s.n && okN (wr1 s.rd) then ({ mov s s.n (wr1 s.rd) with ph := .acc c (tNew Unit s.zs (s.zs.length : Int)) (tNew Unit s.zs (needN s.zs.length)) false }, s.zs.map (accM (mov s s.n (wr1 s.rd)).v0 c).to) else ({ s with ph := .worn }, [])
def takP (s : PS) (x : TS Unit) (y : TS Vt) (rf : Bool) (m : Ms) : PS × List Ms :=
  if eqS m.st ⟨s.n, s.cl⟩ && (m.k == 13) && decide (m.fi ∈ missL x) then
    (if takeB y m.fi then accS s (choiceS s (takeS y m.fi (msV m))) else ({ s with ph := .pre (hearS x m.fi) (takeS y m.fi (msV m)) rf }, [])) else (s, [])
def takA (s : PS) (c : Cm) (x y : TS Unit) (rf : Bool) (m : Ms) : PS × List Ms :=
  if eqS m.st ⟨s.n, s.cl⟩ && (m.k == 15) && decide (m.fi ∈ missL x) then
    (if takeB y m.fi then ({ s with ph := .dec c }, s.zs.map (lrnM s.v0 c).to) else ({ s with ph := .acc c (hearS x m.fi) (takeS y m.fi ()) rf }, [])) else (s, [])
def othS (s : PS) (x : TS Unit) (nk : TS Unit → Ph) (m : Ms) (es : List En) (ls : List La) (t : PS × List Ms) : PS × List Ms :=
  if ansB s.v0 s.zs m then
    (if m.k == 16 then ({ s with ph := .dec m.c }, []) else if m.k == 17 then ({ s with ph := .tri m.up es ls }, []) else
      if m.k == 14 then (if m.fi ∈ missL x then { s with top := max s.top m.st.n, ph := nk (hearS x m.fi) } else s, []) else if m.k == 13 || m.k == 15 then t else (s, []))
  else (s, [])
def taksS (s : PS) (m : Ms) (es : List En) (ls : List La) : PS × List Ms := match s.ph with
  | .pre x y rf => othS s x (fun x' => .pre x' y true) m es ls (takP s x y rf m)
  | .acc c x y rf => othS s x (fun x' => .acc c x' y true) m es ls (takA s c x y rf m)
  | _ => (s, [])

theorem pv_mov (s : PS) (g : Sl) (v : Value) (n r : Int) (h : (okN n && okN r) = true) : movP (s.pv g v) n r = (mov s n r).pv g v := by rw [movP_yes h]; rfl
theorem Prp.mk' {w : World} {I : Nat → Prop} {p : Nat} {s : PS} {g : Sl} {v : Value} (hb : Box w p 94 (s.pv g v).cells) (hl : s.zs.length = g.l) (hg : Own 3 1 w 0 g.a g.k g.l (s.zs.map (Value.int .i64))) (hp : PhAt w I s v s.ph) (i1 : I p) (i2 : ∀ k, At g.a k → I k) (len : s.zs.length ≤ 2000000) : Prp w I p s := ⟨⟨g, v, hb, hl, hg, hp, i1, i2⟩, len⟩
/-- A first phase begins. -/
theorem prep_out {w w' : World} {I : Nat → Prop} {p : Nat} {s : PS} {g : Sl} {v : Value} {n r : Int} {e : Ending} (ho : (okN n && okN r) = true) (hb : Box w p 94 (s.pv g v).cells) (hl : s.zs.length = g.l) (hg : Own 3 1 w 0 g.a g.k g.l (s.zs.map (Value.int .i64))) (i1 : I p) (i2 : ∀ k, At g.a k → I k) (len : s.zs.length ≤ 2000000)
    (h : PrepOut w p (movP (s.pv g v) n r) s.zs e w') : PrOut w I p (prepS s n r).1 (prepS s n r).2 e w' := by
  rw [pv_mov s g v n r ho] at h
  obtain ⟨q, h0, b, a, cap, t, tb, ta, tc, la, lc, he, hO, hb', hq, hx, hy, hne, ⟨l1, l2, l3, l4, l5⟩, l6, l7, hk⟩ := h
  have eS : prepS s n r = ({ mov s n r with ph := .pre (tNew Unit s.zs (s.zs.length : Int)) (tNew Vt s.zs (needN s.zs.length)) false }, s.zs.map (prepM (mov s n r).v0).to) := by unfold prepS; rw [if_pos ho]
  rw [eS]
  have hoff : ∀ k, At g.a k → ¬ Only p k := fun k hk e => box_row hb (by decide) hg hk e
  refine PrOut.mk (la := la) (lc := lc) (by rw [he, List.length_map]) (by rw [List.length_map]; exact hO) ?_ (hk.mono (fun k _ e => (show k = p from e) ▸ i1))
  refine Prp.mk' (g := g) (v := phPre q t) hb' hl (hg.kept hk hoff) ⟨q, t, rfl, ⟨⟨h0, b, a, cap, tb, ta, tc, hq, hx, hy, ?_, hne, .inr l1, ?_, ?_⟩, rfl, rfl, by decide⟩⟩ (.inl i1) (fun k e => .inl (i2 k e)) len
  · exact box_ty hx.box hy.box (by decide)
  · rintro k (rfl | rfl | e)
    · exact .inr l2
    · exact .inr l3
    · exact .inr (l6 k e)
  · rintro k (rfl | rfl | e)
    · exact .inr l4
    · exact .inr l5
    · exact .inr (l7 k e)
theorem worn_out {w w' : World} {I : Nat → Prop} {p : Nat} {s : PS} {g : Sl} {v : Value} {e : Ending} (hb : Box w p 94 (s.pv g v).cells) (hl : s.zs.length = g.l) (hg : Own 3 1 w 0 g.a g.k g.l (s.zs.map (Value.int .i64))) (i1 : I p) (i2 : ∀ k, At g.a k → I k) (len : s.zs.length ≤ 2000000)
    (h : e = .returned (.slice none 0 0) ∧ Box w' p 94 ({ s.pv g v with ph := phWorn } : Pv).cells ∧ Kept (Only p) w w') : PrOut w I p { s with ph := .worn } [] e w' := by
  obtain ⟨he, hb', hk⟩ := h
  refine PrOut.nil he ?_ (hk.mono (fun k _ e => (show k = p from e) ▸ i1))
  exact Prp.mk' (s := { s with ph := .worn }) (g := g) (v := phWorn) hb' hl (hg.kept hk (fun k hk e => box_row hb (by decide) hg hk e)) rfl (.inl i1) (fun k e => .inl (i2 k e)) len
theorem begin_P {w : World} {I : Nat → Prop} {p : Nat} {s : PS} (h : Prp w I p s) : Calls Try.prog 18 #[.pointer (some ⟨p, 0, none⟩)] w (PrOut w I p (begS s).1 (begS s).2) := by
  have hP := h
  obtain ⟨⟨g, v, hb, hl, hg, hp, i1, i2⟩, len⟩ := h
  have again : ∀ T x, v = .iface T x → begS s = (s, []) → Calls Try.prog 18 #[.pointer (some ⟨p, 0, none⟩)] w (PrOut w I p (begS s).1 (begS s).2) := fun T x e eq => by
    rw [eq]
    exact Calls.mono (begin_again p T x _ w hb e) (fun e w' h => PrOut.same h.1 hP (by rw [h.2]; exact Kept.refl No w))
  unfold begS
  cases hs : s.ph with
  | fresh =>
    rw [hs] at hp
    by_cases ho : (okN s.n && okN s.rd) = true
    · exact Calls.mono (begin_yes p (s.pv g v) s.zs w hb hp ho hl (by show g.l ≤ _; omega) hg) (fun e w' h => prep_out ho hb hl hg i1 i2 len h)
    · have ho := Bool.eq_false_iff.2 ho
      have e2 : prepS s s.n s.rd = ({ s with ph := .worn }, []) := by unfold prepS; rw [ho]; rfl
      show Calls Try.prog 18 _ w (PrOut w I p (prepS s s.n s.rd).1 (prepS s s.n s.rd).2)
      rw [e2]
      exact Calls.mono (begin_no p (s.pv g v) w hb hp ho) (fun e w' h => worn_out hb hl hg i1 i2 len h)
  | pre x y rf => rw [hs] at hp; obtain ⟨q, t, e, _⟩ := hp; have := again _ _ e (by unfold begS; rw [hs]); unfold begS at this; rw [hs] at this; exact this
  | acc c x y rf => rw [hs] at hp; obtain ⟨q, t, e, _⟩ := hp; have := again _ _ e (by unfold begS; rw [hs]); unfold begS at this; rw [hs] at this; exact this
  | dec c => rw [hs] at hp; have := again _ _ hp (by unfold begS; rw [hs]); unfold begS at this; rw [hs] at this; exact this
  | tri u es ls => rw [hs] at hp; obtain ⟨q, t, e, _⟩ := hp; have := again _ _ e (by unfold begS; rw [hs]); unfold begS at this; rw [hs] at this; exact this
  | worn => rw [hs] at hp; have := again _ _ hp (by unfold begS; rw [hs]); unfold begS at this; rw [hs] at this; exact this
/-- What is asked. -/
theorem asked_P {w : World} {I : Nat → Prop} {p : Nat} {s : PS} (h : Prp w I p s) (hs : ∀ x y rf, s.ph ≠ .pre x y rf) (hs' : ∀ c x y rf, s.ph ≠ .acc c x y rf) (W : World) (hk : Kept No w W) : Calls Try.prog 50 #[.pointer (some ⟨p, 0, none⟩)] W (fun e w' => e = .returned (.pointer none) ∧ Kept No W w') := by
  obtain ⟨⟨g, v, hb, hl, hg, hp, i1, i2⟩, len⟩ := h
  have hB := hb.kept hk (fun e => e)
  cases e : s.ph with
  | fresh => rw [e] at hp; exact Calls.mono (asked0_any p _ W hB hp) (fun e w' h => ⟨h.1, by rw [h.2]; exact Kept.refl No W⟩)
  | pre x y rf => exact (hs _ _ _ e).elim
  | acc c x y rf => exact (hs' _ _ _ _ e).elim
  | dec c => rw [e] at hp; exact askedE_any p _ _ _ W hB hp (fun W => meth_dec c W)
  | tri u es ls => rw [e] at hp; obtain ⟨se, sl, e, _⟩ := hp; exact askedE_any p _ _ _ W hB e (fun W => meth_tri u se sl W)
  | worn => rw [e] at hp; exact askedE_any p _ _ _ W hB hp (fun W => meth_worn W)

end Go.Proofs.Ytpabpeppgpeaoaa
namespace Go.Proofs.Ytpabpeppgpeaoaa
open Go.RowKit Gt
set_option linter.unusedVariables false
set_option linter.unusedSimpArgs false

theorem tick_P {w : World} {I : Nat → Prop} {p : Nat} {s : PS} (h : Prp w I p s) : Calls Try.prog 25 #[.pointer (some ⟨p, 0, none⟩)] w (PrOut w I p (tickS s).1 (tickS s).2) := by
  have hP := h
  obtain ⟨⟨g, v, hb, hl, hg, hp, i1, i2⟩, len⟩ := h
  have hgl : g.l ≤ 2000000 := by omega
  have hno : (∀ x y rf, s.ph ≠ .pre x y rf) → (∀ c x y rf, s.ph ≠ .acc c x y rf) → Calls Try.prog 25 #[.pointer (some ⟨p, 0, none⟩)] w (PrOut w I p s []) := fun h1 h2 =>
    Calls.mono (tick_none p w (asked_P hP h1 h2 w (Kept.refl No w))) (fun e w' h => PrOut.same h.1 hP h.2)
  have hrf : ∀ {α : Type} (T : TypeId) (f : Option α → Value) (M : Ms) (q t : Nat) (x : TS Unit) (y : TS α), QAt T f w I s.zs M q t true x y → Calls Try.prog 50 #[.pointer (some ⟨p, 0, none⟩)] w (fun e w' => e = .returned (.pointer (some ⟨q, 0, none⟩)) ∧ w' = w) → Calls Try.prog 25 #[.pointer (some ⟨p, 0, none⟩)] w (PrOut w I p (prepS s (wr1 s.top) (wr1 s.rd)).1 (prepS s (wr1 s.top) (wr1 s.rd)).2) := fun T f M q t x y hQ hA => by
    obtain ⟨⟨h0, b, a, cap, tb, ta, tc, hq, hx, hy, h1, h2, j1, j2, j3⟩, gx, gy, ty⟩ := hQ
    by_cases ho : (okN (wr1 s.top) && okN (wr1 s.rd)) = true
    · exact Calls.mono (tick_yes p q h0 M (s.pv g v) s.zs w hb hA hq ho hl hgl hg) (fun e w' h => prep_out ho hb hl hg i1 i2 len h)
    · have ho := Bool.eq_false_iff.2 ho
      have e2 : prepS s (wr1 s.top) (wr1 s.rd) = ({ s with ph := .worn }, []) := by unfold prepS; rw [ho]; rfl
      rw [e2]
      exact Calls.mono (tick_no p q h0 M (s.pv g v) w hb hA hq ho) (fun e w' h => worn_out hb hl hg i1 i2 len h)
  have hmo : ∀ {α : Type} (T : TypeId) (f : Option α → Value) (M : Ms) (q t : Nat) (x : TS Unit) (y : TS α), QAt T f w I s.zs M q t false x y → Calls Try.prog 50 #[.pointer (some ⟨p, 0, none⟩)] w (fun e w' => e = .returned (.pointer (some ⟨q, 0, none⟩)) ∧ w' = w) → Calls Try.prog 25 #[.pointer (some ⟨p, 0, none⟩)] w (PrOut w I p s ((missL x).map M.to)) := fun T f M q t x y hQ hA => by
    obtain ⟨⟨h0, b, a, cap, tb, ta, tc, hq, hx, hy, h1, h2, j1, j2, j3⟩, gx, gy, ty⟩ := hQ
    have hlx : x.g.length ≤ 2000000 := by rw [gx]; exact Nat.le_trans (uq_len _) len
    refine Calls.mono (tick_more p q h0 b cap a M x w hA hq hx hlx) ?_
    rintro e w' ⟨la, lc, he, hO, hk⟩
    exact PrOut.mk he hO ((hP.no hk).wide (fun k e => .inl e)) hk.of_no
  unfold tickS
  cases hs : s.ph with
  | fresh => exact hno (by rw [hs]; intros; nofun) (by rw [hs]; intros; nofun)
  | dec c => exact hno (by rw [hs]; intros; nofun) (by rw [hs]; intros; nofun)
  | tri u es ls => exact hno (by rw [hs]; intros; nofun) (by rw [hs]; intros; nofun)
  | worn => exact hno (by rw [hs]; intros; nofun) (by rw [hs]; intros; nofun)
  | pre x y rf =>
    rw [hs] at hp
    obtain ⟨q, t, hv, hQ⟩ := hp
    have hA := askedP_any p q t (s.pv g v) w hb hv
    cases rf with
    | false => exact hmo _ _ _ q t x y hQ hA
    | true => exact hrf _ _ _ q t x y hQ hA
  | acc c x y rf =>
    rw [hs] at hp
    obtain ⟨q, t, hv, hQ⟩ := hp
    have hA := askedA_any p q t (s.pv g v) w hb hv
    cases rf with
    | false => exact hmo _ _ _ q t x y hQ hA
    | true => exact hrf _ _ _ q t x y hQ hA
theorem hear_g (x : TS Unit) (s : Int) : (hearS x s).g = x.g := by
  unfold hearS takeS putS
  split <;> (try split) <;> rfl
theorem take_g {α : Type} (x : TS α) (s : Int) (v : α) : (takeS x s v).g = x.g := by
  unfold takeS putS
  split <;> rfl
theorem hear_no {x : TS Unit} {s : Int} (h : ¬ s ∈ missL x) : hearS x s = x := if_neg h
theorem take_cnt {α : Type} {x : TS α} {s : Int} (v : α) (hn : x.g.Nodup) (h : takeB x s = true) : 1 ≤ cnt (takeS x s v) := by
  unfold takeB at h
  rw [Bool.and_eq_true] at h
  have hm := h.1
  have hm' := hm
  unfold mayB at hm
  simp only [Bool.and_eq_true, decide_eq_true_eq] at hm
  unfold takeS
  rw [if_pos hm', cnt_put hn hm.1.1 (Option.isNone_iff_eq_none.1 hm.1.2)]
  omega
end Go.Proofs.Ytpabpeppgpeaoaa
