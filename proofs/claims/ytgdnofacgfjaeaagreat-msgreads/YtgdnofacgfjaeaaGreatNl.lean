import Derived.Test.YtgdnofacgfjaeaaGreatLa
import Derived.Test.YtgdnofacgfjaeaaGreatNi
namespace Go.Proofs.YtgdnofacgfjaeaaGreat.Wi
open Go.RowKit
set_option linter.unusedVariables false
def BytesOut (w0 W : World) (r g lb : Nat) (odd : Bool) (st : RS) (e : Ending) (w' : World) : Prop :=
  ∃ a' n' c', e = .returned (.slice a' n' c') ∧ n' = (bytesS st).2.length ∧ OwnS w' W.heap.size a' c' (bytesS st).2 ∧ RdM w0 w' r g lb odd (bytesS st).1 ∧ w'.cell? ⟨r, 0, none⟩ = some (.pointer (some ⟨g, 0, none⟩))
theorem RdM.bytes {w0 W : World} {r g lb : Nat} {odd : Bool} {st : RS} (h : RdM w0 W r g lb odd st) :
    Calls Tryz.prog 188 #[.pointer (some ⟨g, 0, none⟩)] W (BytesOut w0 W r g lb odd st) := by
  refine (Bytes_all g lb st W h.rs).mono ?_
  rintro e w' ⟨a', n', c', rfl, hn, hO, h1, h2⟩
  have H : RdM w0 w' r g lb odd (bytesS st).1 := ⟨h.box.kept h2 (fun e => h.rg e), h1, h.rg, h.rl, Nat.lt_of_lt_of_le h.ltl h2.size, h.kept.then (h2.mono (fun i _ e => .inr e))⟩
  exact ⟨a', n', c', rfl, hn, hO, H, H.c0⟩
def BlockOut (w0 W : World) (r g lb : Nat) (odd : Bool) (st : RS) (e : Ending) (w' : World) : Prop :=
  ∃ a' n' c', e = .returned (.agg #[.int .i64 (nV st), .int .i64 (nV (nS st)), .slice a' n' c']) ∧ n' = (bytesS (aS st)).2.length ∧ OwnS w' (W.heap.size + 1) a' c' (bytesS (aS st)).2 ∧ RdM w0 w' r g lb odd (bytesS (aS st)).1
set_option maxRecDepth 100000 in
set_option maxHeartbeats 2000000 in
theorem RdM.block {w0 W : World} {r g lb : Nat} {odd : Bool} {st : RS} (h : RdM w0 W r g lb odd st) :
    Calls Tryz.prog 146 #[.pointer (some ⟨r, 0, none⟩)] W (BlockOut w0 W r g lb odd st) := by
  have HR : Hid (RdM w0 W r g lb odd st) := h
  have q0 := h.c0
  clear h
  go_enter Tryz.func146, Tryz.ntmps146
  go_upto_region 1 with fail
  obtain ⟨w1, hw1⟩ : ∃ w1, w1 = W.alloc (.cells #[.int .i64 0, .int .i64 0, .slice none 0 0] 73) := ⟨_, rfl⟩
  rw [← hw1]
  have hk1 : Kept No W w1 := by rw [hw1]; exact (Kept.refl No W).alloc _
  have HB1 : Hid (Box w1 W.heap.size 73 #[.int .i64 0, .int .i64 0, .slice none 0 0]) := by rw [hw1]; exact Box.new _ _ _
  have HR1 : Hid (RdM w0 w1 r g lb odd st) := HR.out.no hk1
  have q1 := HR1.out.c0
  have HN : Hid (W.heap.size ≠ r ∧ W.heap.size ≠ g ∧ W.heap.size ≠ lb ∧ w0.heap.size ≤ W.heap.size ∧ W.heap.size + 1 ≤ w1.heap.size) := ⟨by have := HR.out.ltr; omega, by have := HR.out.ltg; omega, by have := HR.out.ltl; omega, HR.out.kept.size, HB1.out.lt⟩
  have HA : Hid (RdM w1 w1 r g lb odd st) := HR1.out.anew
  have HKs : Hid (Kept (fun k => k = r ∨ k = g) w0 w1) := HR1.out.kept
  have n1 : W.heap.size ≠ r := HN.out.1
  have n2 : r ≠ W.heap.size := fun e => n1 e.symm
  clear hk1 hw1 q0 HR HR1
  go_region_held3 (fun w' => w'.cell? ⟨r, 0, none⟩ = some (.pointer (some ⟨g, 0, none⟩))) (go_keep) (first
    | (go_at_call 187; refine ((HA.out.no ((Kept.refl No _).drew)).stamp).mono ?_; rintro e w2 ⟨rfl, hr2, q2⟩; have HR2 : Hid (RdM w1 w2 r g lb odd (aS st)) := hr2; clear hr2)
    | (go_at_call 188; refine (HR2.out.bytes).mono ?_; rintro e w3 ⟨a3, m3, c3, rfl, hn3, hO3, hr3, q3⟩; have HR3 : Hid (RdM w1 w3 r g lb odd (bytesS (aS st)).1) := hr3; have HO3 : Hid (m3 = (bytesS (aS st)).2.length ∧ OwnS w3 w2.heap.size a3 c3 (bytesS (aS st)).2 ∧ w1.heap.size ≤ w2.heap.size) := ⟨hn3, hO3, HR2.out.kept.size⟩; have HB3 : Hid (Box w3 W.heap.size 73 #[.int .i64 0, .int .i64 0, .slice none 0 0]) := hr3.other HB1.out HN.out.1 HN.out.2.1; have b0 := HB3.out.cell 0; have b1 := HB3.out.cell 1; have b2 := HB3.out.cell 2; have f0 := HB3.out.frozen 0; have f1 := HB3.out.frozen 1; have f2 := HB3.out.frozen 2; clear hr3 hn3 hO3))
  have hk : ∀ (X : World) (i : Nat) (v : Value), Kept (Only W.heap.size) X (X.setCell ⟨W.heap.size, i, none⟩ v) := fun X i v => (Kept.refl (Only W.heap.size) X).setCell (p := ⟨W.heap.size, i, none⟩) (fun _ => rfl) _
  obtain ⟨w4, hw4⟩ : ∃ w4, w4 = ((w3.setCell ⟨W.heap.size, 0, none⟩ (.int .i64 (nV st))).setCell ⟨W.heap.size, 1, none⟩ (.int .i64 (nV (nS st)))).setCell ⟨W.heap.size, 2, none⟩ (.slice a3 m3 c3) := ⟨_, rfl⟩
  have hk4 : Kept (Only W.heap.size) w3 w4 := by rw [hw4]; exact ((hk w3 0 _).then (hk _ 1 _)).then (hk _ 2 _)
  have HF : Hid (Box w4 W.heap.size 73 #[.int .i64 (nV st), .int .i64 (nV (nS st)), .slice a3 m3 c3]) := by rw [hw4]; exact ((HB3.out.set 0 _).set 1 _).set 2 _
  have HRF : Hid (RdM w0 w4 r g lb odd (bytesS (aS st)).1) := (HR3.out.since HKs.out).apart hk4 (fun e => n2 e) (fun e => HN.out.2.1 e.symm) (fun e => HN.out.2.2.1 e.symm) (fun i hi e => by have h1 := HN.out.2.2.2.1; have h2 : i = W.heap.size := e; omega)
  have HOF : Hid (OwnS w4 (W.heap.size + 1) a3 c3 (bytesS (aS st)).2) := (HO3.out.2.1.lower (by have := HO3.out.2.2; have := HN.out; omega)).kept hk4 (fun k hk e => by have h1 := HO3.out.2.1.base hk; have h2 := HO3.out.2.2; have h3 := HN.out; have h4 : k = W.heap.size := e; omega)
  rw [← hw4]
  clear hw4 hk4 hk
  go_wp2
  refine bodyPost_ret (results_cell_row (by rfl) _ w4 W.heap.size 73 #[.int .i64 (nV st), .int .i64 (nV (nS st)), .slice a3 m3 c3] (0, 0) _ (by rfl) HF.out Tryz.underlying73 rfl (by kernel_rfl)) rfl ?_
  exact ⟨a3, m3, c3, rfl, HO3.out.1, HOF.out, HRF.out⟩
end Go.Proofs.YtgdnofacgfjaeaaGreat.Wi
namespace Go.Proofs.YtgdnofacgfjaeaaGreat.Md
open Go.RowKit
set_option linter.unusedVariables false
set_option linter.unusedSimpArgs false
theorem tV_len {st : Wi.RS} {N : Nat} (h : match st with | .ok zs _ => zs.length ≤ N | .bad _ _ => True) : (tV (Wi.aS st)).length ≤ N := by
  have key : ∀ s : Wi.RS, (match s with | .ok zs _ => zs.length ≤ N | .bad _ _ => True) → (match Wi.nS s with | .ok zs _ => zs.length ≤ N | .bad _ _ => True) := by
    intro s hs
    cases s with
    | bad p c => trivial
    | ok zs a =>
      cases hq : Wi.nr zs with
      | error c =>
        have e1 : Wi.nS (.ok zs a) = .bad a c := by simp only [Wi.nS, Wi.numS, hq]
        rw [e1]; trivial
      | ok q =>
        have e1 : Wi.nS (.ok zs a) = .ok (zs.drop q.2) (a + q.2) := by simp only [Wi.nS, Wi.numS, hq]
        rw [e1]
        have hs : zs.length ≤ N := hs
        show (zs.drop q.2).length ≤ N
        rw [List.length_drop]; omega
  have h2 := key _ (key _ h)
  show (tV (Wi.nS (Wi.nS st))).length ≤ N
  cases hs : Wi.nS (Wi.nS st) with
  | bad p c => exact Nat.zero_le _
  | ok zs a =>
    rw [hs] at h2
    have h2 : zs.length ≤ N := h2
    cases hq : Wi.cr zs with
    | error c =>
      have e2 : tV (.ok zs a) = [] := by simp only [tV, Wi.bytesS, hq]
      rw [e2]; exact Nat.zero_le _
    | ok q =>
      have e2 : tV (.ok zs a) = (zs.drop q.2).take q.1 := by simp only [tV, Wi.bytesS, hq]
      rw [e2, List.length_take, List.length_drop]; omega
theorem bl_nou' (x : Bl) : ∀ (i : Nat) z, (Bl.cells x)[i]? ≠ some (.int .u8 z) := bl_nou x.s.n x.s.c x.d
def blkP (B : Int) (st : Wi.RS) : Bool := blkB B ⟨stV st, ⟨none, (tV (Wi.aS st)).length, 0⟩⟩ (tV (Wi.aS st))
def blkI (st : Wi.RS) : List It := blkIts ⟨stV st, slZ⟩ (tV (Wi.aS st))
theorem blkP_is (B : Int) (st : Wi.RS) (x : Sl) (h : x.l = (tV (Wi.aS st)).length) : blkB B ⟨stV st, x⟩ (tV (Wi.aS st)) = blkP B st := by
  unfold blkP blkB
  simp only [h]
theorem r_PkB2 (st : Wi.RS) (x : Sl) (c : Cg) (zs : List Int) (w : World) (hc : CgIn w c zs) (hm : Wi.Sl w x.a x.l x.k (tV (Wi.aS st))) : Calls Tryz.prog 29 #[.agg (Bl.cells ⟨stV st, x⟩), .agg (Cg.cells c)] w (EncO w (jdg (cfgP c zs) (blkP c.bl st) 1) (encR (cfgP c zs && blkP c.bl st) (blkI st))) := by
  rw [← blkP_is c.bl st x hm.len.symm]
  exact r_PkB ⟨stV st, x⟩ (tV (Wi.aS st)) c zs w hc ⟨sl_rd hm, hm.bd, hm.u8⟩
theorem blkI_ok {B : Int} {st : Wi.RS} (hB : 0 ≤ B ∧ B ≤ 4096) (hu : uR st) (h : blkP B st = true) : okL (blkI st) ∧ itsLen (blkI st) ≤ 131072 := by
  have h8 : Wi.U8 (tV (Wi.aS st)) := tV_u8 (took_2 st hu).1
  have hq : blkB B ⟨stV st, ⟨none, (tV (Wi.aS st)).length, 0⟩⟩ (tV (Wi.aS st)) = true := h
  have hx : 0 ≤ B ∧ B ≤ 4096 := hB
  unfold blkB at hq
  rw [Bool.and_eq_true] at hq
  have h0 : (((tV (Wi.aS st)).length : Nat) : Int) = B := eq_of_beq hq.1
  have h2 : stP (stV st) = true := by
    have h3 := hq.2
    unfold stP
    rw [Bool.or_eq_true] at h3 ⊢
    rcases h3 with h3 | h3
    · exact .inr h3
    · rw [Bool.and_eq_true] at h3; exact .inl h3.1
  have h1 := stP_t h2
  show okL ([It.n (stV st).n, It.n (stV st).c] ++ [It.b (tV (Wi.aS st))]) ∧ itsLen ([It.n (stV st).n, It.n (stV st).c] ++ [It.b (tV (Wi.aS st))]) ≤ 131072
  refine ⟨okL_app (okL_cons ⟨by omega, by omega⟩ (okL_cons ⟨by omega, by omega⟩ okL_nil)) (okL_cons ⟨by omega, h8⟩ okL_nil), ?_⟩
  rw [itsLen_app]
  simp only [len_cons, len_nil, len_n, len_b]
  omega
theorem good_blk {c : Cg} {zs ys : List Int} (h8 : Wi.U8 ys) (hq : cfgP c zs = true) (ho : ((Wi.openOf ys).2 == 0) = true) :
    (Wi.wholeB false (blkS (.ok (Wi.openOf ys).1 0)) && blkP c.bl (.ok (Wi.openOf ys).1 0)) =
    (((Wi.errS (blkS (.ok (Wi.openOf ys).1 0))).2 == 0) && (!Wi.moreS (blkS (.ok (Wi.openOf ys).1 0)) && ((jdg (cfgP c zs) (blkP c.bl (.ok (Wi.openOf ys).1 0)) 1 == 0) && decide (encR (cfgP c zs && blkP c.bl (.ok (Wi.openOf ys).1 0)) (blkI (.ok (Wi.openOf ys).1 0)) = ys)))) := by
  rw [fin_eq (body := (Wi.openOf ys).1) h8 (eq_of_beq ho) rfl (took_blk (.ok (Wi.openOf ys).1 0) ⟨stV (.ok (Wi.openOf ys).1 0), slZ⟩ rfl), hq]
  show _ = ((Wi.errS (blkS (.ok (Wi.openOf ys).1 0))).2 == 0 && (!Wi.moreS (blkS (.ok (Wi.openOf ys).1 0)) && (jdg true (blkP c.bl (.ok (Wi.openOf ys).1 0)) 1 == 0 && decide (encR (true && blkP c.bl (.ok (Wi.openOf ys).1 0)) (blkI (.ok (Wi.openOf ys).1 0)) = ys))))
  cases blkP c.bl (.ok (Wi.openOf ys).1 0) <;> rfl
theorem out_blk {b : Bool} {ys : List Int} {g1 g2 : Bool} (h : b = true → ((Wi.openOf ys).2 == 0) = true → g1 = g2) : outB b ys g1 = outB b ys g2 := by
  unfold outB
  cases b
  · rfl
  · cases ho : ((Wi.openOf ys).2 == 0)
    · rfl
    · rw [h rfl ho]
theorem bl_one (x : Bl) : (Bl.cells x).all (·.oneCell') = true := all_one (Bl.oneL x)
theorem p_ReadB (x : Sl) (ys : List Int) (c : Cg) (zs : List Int) (w : World) (hc : CgIn w c zs) (hx : Wi.Sl w x.a x.l x.k ys) : Calls Tryz.prog 74 #[x.v, .agg (Cg.cells c)] w
    (BlkO w (outB (cfgP c zs) ys (Wi.wholeB false (blkS (.ok (Wi.openOf ys).1 0)) && blkP c.bl (.ok (Wi.openOf ys).1 0)))) := by
  cases hq : cfgP c zs with
  | false =>
    refine (Wi.eNoReadBlock x.a x.l x.k c.sv.a c.sv.l c.sv.k zs c.f c.po c.bu c.bl c.rm w hc.wi hq).mono ?_
    rintro e w' ⟨rfl, hk⟩
    exact ⟨slZ, rfl, RdB.nilS _, Nat.zero_le _, kw hk⟩
  | true =>
    cases ho : ((Wi.openOf ys).2 == 0) with
    | false =>
      refine (Wi.eReadBlock x.a x.l x.k c.sv.a c.sv.l c.sv.k zs c.f c.po c.bu c.bl c.rm w (fun W cs e w' => cs = Wi.zB ∧ e = (Wi.openOf ys).2) (fun W hW => ?_)).mono ?_
      · exact (Wi.unpackBlock_shut x.a x.l x.k ys _ _ _ c.sv.a c.sv.l c.sv.k zs c.f c.po c.bu c.bl c.rm W (hc.wi.no hW) hq (hx.no hW) (by simpa using ho)).mono (fun e w' ⟨a, b⟩ => ⟨_, _, a, rfl, Wi.zB_one, b, rfl, rfl⟩)
      · rintro e w' ⟨cs, x, W, w1, rfl, hW, ⟨rfl, rfl⟩, hk, hk'⟩
        have hv : outB true ys (Wi.wholeB false (blkS (.ok (Wi.openOf ys).1 0)) && blkP c.bl (.ok (Wi.openOf ys).1 0)) = (spZ, [], (Wi.openOf ys).2) := by simp only [outB, cond_true, cond_false, ho]
        rw [hv]
        exact ⟨slZ, rfl, RdB.nilS _, Nat.zero_le _, kw hk'⟩
    | true =>
      have h0 : (Wi.openOf ys).2 = 0 := eq_of_beq ho
      obtain ⟨st, hst⟩ : ∃ st, Wi.RS.ok (Wi.openOf ys).1 0 = st := ⟨_, rfl⟩
      have h8 := open_u8 hx.u8
      have hu : uR st := by rw [← hst]; exact h8
      rw [hst]
      obtain ⟨good, hg⟩ : ∃ b, (Wi.wholeB false (blkS st) && blkP c.bl st) = b := ⟨_, rfl⟩
      rw [hg]
      have hlb : (tV (Wi.aS st)).length ≤ 140737488351232 := tV_len (by rw [← hst]; have := (open_form hx.u8 h0).2; show (Wi.openOf ys).1.length ≤ _; omega)
      refine (Wi.eReadBlock x.a x.l x.k c.sv.a c.sv.l c.sv.k zs c.f c.po c.bu c.bl c.rm w (fun W cs e w' => ∃ s : Sl, cs = (if good then Bl.cells ⟨stV st, s⟩ else Bl.cells ⟨spZ, slZ⟩) ∧ (e = if good then 0 else 11) ∧ s.l = (tV (Wi.aS st)).length ∧ Wi.OwnS w' W.heap.size s.a s.k (tV (Wi.aS st))) (fun W hW => ?_)).mono ?_
      · refine (Wi.unpackBlock_all x.a x.l x.k ys 11 c.sv.a c.sv.l c.sv.k zs c.f c.po c.bu c.bl c.rm W (hc.wi.no hW) hq (hx.no hW) h0 h8 (by have := (open_form hx.u8 h0).2; omega)
          false (blkS st) (blkP c.bl st) (fun W0 W1 cs => ∃ s : Sl, cs = Bl.cells ⟨stV st, s⟩ ∧ s.l = (tV (Wi.aS st)).length ∧ Wi.OwnS W1 (W0.heap.size + 1) s.a s.k (tV (Wi.aS st)))
          (fun _ _ cs h => by obtain ⟨s, rfl, _⟩ := h; exact ⟨rfl, bl_one _⟩) (fun W0 W1 W2 cs h hk => ?_) (fun W2 r g lb hk hR => ?_) (fun W0 W2 cs hk h => ?_)).mono ?_
        · obtain ⟨s, h1, h2, h3⟩ := h
          exact ⟨s, h1, h2, h3.kept hk (fun k hk2 e => by have := h3.base hk2; have := h3.lt hk2; rcases e with e | e <;> omega)⟩
        · rw [hst] at hR
          refine (Wi.RdM.block hR).mono ?_
          rintro e w' ⟨a', n', c', rfl, hn, hO, hr⟩
          exact ⟨_, rfl, hr, ⟨a', n', c'⟩, rfl, hn, hO⟩
        · obtain ⟨s, rfl, h2, h3⟩ := h
          rw [← blkP_is c.bl st s h2]
          exact wcall (p_rightBlock ⟨stV st, s⟩ c (tV (Wi.aS st)) W2 (own_rdB h3 h2.symm) (by show s.l ≤ _; omega))
        · rintro e w' ⟨cs, rfl, ⟨W0, hW0, s, rfl, h2, h3⟩, hk⟩
          rw [hg]
          refine ⟨_, _, rfl, ?_, ?_, hk, s, rfl, rfl, h2, h3.lower (by omega)⟩
          · cases good <;> rfl
          · cases good
            · exact Wi.zB_one
            · exact bl_one _
      · rintro e w' ⟨cs, x, W, w1, rfl, hW, ⟨s, rfl, rfl, h2, h3⟩, hk, hk'⟩
        have hO := h3.kept hk (fun k hk2 e => by have := h3.base hk2; omega)
        cases good with
        | false =>
          have hv : outB true ys false = (spZ, [], 11) := by simp only [outB, cond_true, cond_false, ho]
          rw [hv]
          exact ⟨slZ, rfl, RdB.nilS _, Nat.zero_le _, kw hk'⟩
        | true =>
          have hv : outB true ys true = (stV st, tV (Wi.aS st), 0) := by simp only [outB, cond_true, cond_false, ho, hst]
          rw [hv]
          exact ⟨s, rfl, own_rdB hO h2.symm, by omega, kw hk'⟩
set_option maxRecDepth 100000 in
set_option maxHeartbeats 4000000 in
theorem r_ReadB0 (x : Sl) (ys : List Int) (c : Cg) (zs : List Int) (w : World) (hc : CgIn w c zs) (hx : Wi.Sl w x.a x.l x.k ys) : Calls Tryz.prog 75 #[x.v, .agg (Cg.cells c)] w (BlkO w (outB (cfgP c zs) ys (((Wi.errS (blkS (.ok (Wi.openOf ys).1 0))).2 == 0) && (!Wi.moreS (blkS (.ok (Wi.openOf ys).1 0)) && ((jdg (cfgP c zs) (blkP c.bl (.ok (Wi.openOf ys).1 0)) 1 == 0) && decide (encR (cfgP c zs && blkP c.bl (.ok (Wi.openOf ys).1 0)) (blkI (.ok (Wi.openOf ys).1 0)) = ys)))))) := by
  refine hidC fun C HC => ?_
  have HCg : Hid (CgIn w c zs) := hc
  have HX : Hid (Wi.Sl w x.a x.l x.k ys) := hx
  clear hc hx
  have HF : Hid (Fq No w w []) := Fq.start _ _
  go_enter Tryz.func75, Tryz.ntmps75
  go_upto_region 0 with fail
  refine WL.start <| xB (Cg.cells c) HF fun g1 w2 HF => xA (Bl.cells blZ) Z73 HF fun g3 w4 HF => tK (.int .i64 0) <| WL.nil <| ?_
  try simp only [pS]
  go_upto_region 1 with fail
  refine WL.start <| tK (x.v) <| lP (Cg.cs c) HF 0 0 U24 S24 (Cg.cs c) rfl <| ?_
  try simp only [pS]
  refine wp_callW 147 #[x.v, .agg (Cg.cells c)] (by kernel_rfl) _ (r_opened x ys c zs _ (HCg.out.no HF.out.kept) (HX.out.no (wk HF.out.kept))) (by kernel_rfl) ?_
  rintro e w5 ⟨hk, hcase⟩
  rcases hcase with ⟨h1, rfl⟩ | ⟨h1, h2, rfl⟩ | ⟨h1, h2, i, g, ba, bc, rfl, hS, hI⟩
  ·skip
   refine ⟨_, rfl, ?_⟩
   try simp only [pS]
   have HF : Hid (Fq No w w5 [(g1, 24, Cg.cells c), (g3, 73, Bl.cells blZ)]) := HF.out.no hk
   clear hk
   refine tK (.tuple #[.pointer none, .int .i64 20]) <| tK (.pointer none) <| tK (.int .i64 20) <| tK (.pointer none) <| tK (.int .i64 20) <| WL.nil <| ?_
   try simp only [pS]
   go_upto_region 2 with fail
   refine WL.start <| tK (.int .i64 20) <| bN (nI0 (show ((20 : Int) == 0) = false by decide)) <| WL.nil <| ?_
   try simp only [pS]
   go_upto_region 3 with fail
   refine WL.start <| bD (Bl.cells blZ) <| tK (.int .i64 20) <| sB (Bl.cs blZ) (Bl.cs blZ) HF 1 0 (v := .agg (Bl.cells blZ)) rfl S73 (Bl.oneL _) (Bl.cs blZ) rfl fun w6 HF => tK (.int .i64 20) <| WL.nil <| ?_
   try simp only [pS]
   have hv : outB (cfgP c zs) ys (((Wi.errS (blkS (.ok (Wi.openOf ys).1 0))).2 == 0) && (!Wi.moreS (blkS (.ok (Wi.openOf ys).1 0)) && ((jdg (cfgP c zs) (blkP c.bl (.ok (Wi.openOf ys).1 0)) 1 == 0) && decide (encR (cfgP c zs && blkP c.bl (.ok (Wi.openOf ys).1 0)) (blkI (.ok (Wi.openOf ys).1 0)) = ys)))) = (spZ, [], 20) := by
     simp only [outB, cond_true, cond_false, Bool.not_true, Bool.not_false, Bool.and_true, Bool.and_false, Bool.true_and, Bool.false_and, h1]
   go_wp2
   rw [HC.out, hv]
   refine bodyPost_ret (Wi.results_row_tmp (by rfl) _ _ g3 (Bl.cells blZ) (by rfl) (run_load_part (cs := Bl.cs blZ) (sub := Bl.cs blZ) (HF.out.box 1 _ _ _ rfl) (Part.all _) U73 rfl S73)) rfl ?_
   exact ⟨slZ, rfl, RdB.nilS _, Nat.zero_le _, HF.out.kept⟩
  ·skip
   refine ⟨_, rfl, ?_⟩
   try simp only [pS]
   have HF : Hid (Fq No w w5 [(g1, 24, Cg.cells c), (g3, 73, Bl.cells blZ)]) := HF.out.no hk
   clear hk
   refine tK (.tuple #[.pointer none, .int .i64 ((Wi.openOf ys).2)]) <| tK (.pointer none) <| tK (.int .i64 ((Wi.openOf ys).2)) <| tK (.pointer none) <| tK (.int .i64 ((Wi.openOf ys).2)) <| WL.nil <| ?_
   try simp only [pS]
   go_upto_region 2 with fail
   refine WL.start <| tK (.int .i64 ((Wi.openOf ys).2)) <| bN (nI0 h2) <| WL.nil <| ?_
   try simp only [pS]
   go_upto_region 3 with fail
   refine WL.start <| bD (Bl.cells blZ) <| tK (.int .i64 ((Wi.openOf ys).2)) <| sB (Bl.cs blZ) (Bl.cs blZ) HF 1 0 (v := .agg (Bl.cells blZ)) rfl S73 (Bl.oneL _) (Bl.cs blZ) rfl fun w7 HF => tK (.int .i64 ((Wi.openOf ys).2)) <| WL.nil <| ?_
   try simp only [pS]
   have hv : outB (cfgP c zs) ys (((Wi.errS (blkS (.ok (Wi.openOf ys).1 0))).2 == 0) && (!Wi.moreS (blkS (.ok (Wi.openOf ys).1 0)) && ((jdg (cfgP c zs) (blkP c.bl (.ok (Wi.openOf ys).1 0)) 1 == 0) && decide (encR (cfgP c zs && blkP c.bl (.ok (Wi.openOf ys).1 0)) (blkI (.ok (Wi.openOf ys).1 0)) = ys)))) = (spZ, [], ((Wi.openOf ys).2)) := by
     simp only [outB, cond_true, cond_false, Bool.not_true, Bool.not_false, Bool.and_true, Bool.and_false, Bool.true_and, Bool.false_and, h2, h1]
   go_wp2
   rw [HC.out, hv]
   refine bodyPost_ret (Wi.results_row_tmp (by rfl) _ _ g3 (Bl.cells blZ) (by rfl) (run_load_part (cs := Bl.cs blZ) (sub := Bl.cs blZ) (HF.out.box 1 _ _ _ rfl) (Part.all _) U73 rfl S73)) rfl ?_
   exact ⟨slZ, rfl, RdB.nilS _, Nat.zero_le _, HF.out.kept⟩
  ·skip
   refine ⟨_, rfl, ?_⟩
   try simp only [pS]
   have HW : Hid (∀ k, (inSrc i g ba bc (Wi.openOf ys).1).Wr k → w.heap.size ≤ k) := fun k e => Nat.le_trans HF.out.kept.size (hI k (.inr (.inl e)))
   have HF : Hid (Kr (inSrc i g ba bc (Wi.openOf ys).1) w w5 (.ok (Wi.openOf ys).1 0, false) [(g1, 24, Cg.cells c), (g3, 73, Bl.cells blZ)]) := Kr.from (HF.out.no hk) hS (fun j g' T cs hj e => by have := hI _ e; have := (HF.out.box j g' T cs hj).lt; omega)
   clear hk hS hI
   refine tK (.tuple #[.pointer (some ⟨i, 0, none⟩), .int .i64 0]) <| tK (pg i 0) <| tK (.int .i64 0) <| tK (pg i 0) <| tK (.int .i64 0) <| WL.nil <| ?_
   try simp only [pS]
   go_upto_region 2 with fail
   refine WL.start <| tK (.int .i64 0) <| bN (nI1 (show ((0 : Int) == 0) = true by decide)) <| WL.nil <| ?_
   try simp only [pS]
   go_upto_region 4 with fail
   refine WL.start <| bD (Bl.cells blZ) <| rA (Bl.cells blZ) Z73 HF fun g8 w9 HF => ?_
   try simp only [pS]
   have HF : Hid (Kr (inSrc i g ba bc (Wi.openOf ys).1) w w9 (.ok (Wi.openOf ys).1 0, false) [(g1, 24, Cg.cells c), (g3, 73, Bl.cells blZ), (g8, 73, Bl.cells blZ)]) := HF
   refine rW (Bl.cs blZ) (Bl.cs blZ) HF 2 0 (v := .agg (Bl.cells blZ)) rfl S73 (Bl.oneL _) (Bl.cs blZ) rfl fun w10 HF => ?_
   try simp only [pS]
   have HF : Hid (Kr (inSrc i g ba bc (Wi.openOf ys).1) w w10 (.ok (Wi.openOf ys).1 0, false) [(g1, 24, Cg.cells c), (g3, 73, Bl.cells blZ), (g8, 73, Bl.cells blZ)]) := HF
   refine WL.nil <| ?_
   try simp only [pS]
   go_upto_region 5 with fail
   refine WL.start <| tK (pg i 0) <| rC (.agg (Sp.cells (stV (.ok (Wi.openOf ys).1 0)))) ((Wi.aS (.ok (Wi.openOf ys).1 0), false)) HF (fun h => r_rstamp h) fun w11 HF => tK (pg g8 0) <| rW (Bl.cs ⟨(stV (.ok (Wi.openOf ys).1 0)), slZ⟩) (Sp.cs (stV (.ok (Wi.openOf ys).1 0))) HF 2 0 (v := .agg (Sp.cells (stV (.ok (Wi.openOf ys).1 0)))) rfl S34 (Sp.oneL _) (Bl.cs blZ) rfl fun w12 HF => ?_
   try simp only [pS]
   have HF : Hid (Kr (inSrc i g ba bc (Wi.openOf ys).1) w w12 (Wi.aS (.ok (Wi.openOf ys).1 0), false) [(g1, 24, Cg.cells c), (g3, 73, Bl.cells blZ), (g8, 73, Bl.cells ⟨(stV (.ok (Wi.openOf ys).1 0)), slZ⟩)]) := HF
   refine WL.nil <| ?_
   try simp only [pS]
   go_upto_region 6 with fail
   refine WL.start <| tK (pg i 0) <| rY (tV (Wi.aS (.ok (Wi.openOf ys).1 0))) ((tS (Wi.aS (.ok (Wi.openOf ys).1 0)), false)) HF (fun h => r_bytesI h) fun x14 w13 HF HX15 => ?_
   try simp only [pS]
   have HF : Hid (Kr (inSrc i g ba bc (Wi.openOf ys).1) w w13 (tS (Wi.aS (.ok (Wi.openOf ys).1 0)), false) [(g1, 24, Cg.cells c), (g3, 73, Bl.cells blZ), (g8, 73, Bl.cells ⟨(stV (.ok (Wi.openOf ys).1 0)), slZ⟩)]) := HF
   refine tK (pg g8 2) <| ?_
   try simp only [pS]
   have HFo := HF
   refine rWk (Bl.cs ⟨(stV (.ok (Wi.openOf ys).1 0)), x14⟩) ([x14.v]) HF 2 2 (v := x14.v) rfl S35 (by simp [Value.oneCell', Sl.v]) (Bl.cs ⟨(stV (.ok (Wi.openOf ys).1 0)), slZ⟩) rfl fun w16 HF hkk => ?_
   try simp only [pS]
   have HF : Hid (Kr (inSrc i g ba bc (Wi.openOf ys).1) w w16 (tS (Wi.aS (.ok (Wi.openOf ys).1 0)), false) [(g1, 24, Cg.cells c), (g3, 73, Bl.cells blZ), (g8, 73, Bl.cells ⟨(stV (.ok (Wi.openOf ys).1 0)), x14⟩)]) := HF
   replace HX15 : Hid _ := HX15.out.kept2 (wkS hkk.out) (fun h0 k hk e => sl_off HX15.out h0 hk (HFo.out.fq.box 2 _ _ _ rfl) (bl_nou' _) e)
   clear HFo hkk
   refine WL.nil <| ?_
   try simp only [pS]
   go_upto_region 7 with fail
   refine WL.start <| rP (Bl.cs ⟨(stV (.ok (Wi.openOf ys).1 0)), x14⟩) HF 2 0 U73 S73 (Bl.cs ⟨(stV (.ok (Wi.openOf ys).1 0)), x14⟩) rfl <| rP (Cg.cs c) HF 0 0 U24 S24 (Cg.cs c) rfl <| rEn (r_PkB2 (.ok (Wi.openOf ys).1 0) x14 c zs _ (HCg.out.no (HF.out.keptNo HW.out)) HX15.out) HF fun p17 w18 HF hkk HP hp => ?_
   try simp only [pS]
   replace HX15 : Hid _ := HX15.out.no (wk hkk.out)
   have HF : Hid (Kr (inSrc i g ba bc (Wi.openOf ys).1) w w18 (tS (Wi.aS (.ok (Wi.openOf ys).1 0)), false) [(g1, 24, Cg.cells c), (g3, 73, Bl.cells blZ), (g8, 73, Bl.cells ⟨(stV (.ok (Wi.openOf ys).1 0)), x14⟩)]) := HF
   refine tK (.tuple #[p17.v, .int .i64 (jdg (cfgP c zs) (blkP c.bl (.ok (Wi.openOf ys).1 0)) 1)]) <| tK (p17.v) <| tK (.int .i64 (jdg (cfgP c zs) (blkP c.bl (.ok (Wi.openOf ys).1 0)) 1)) <| tK (p17.v) <| tK (.int .i64 (jdg (cfgP c zs) (blkP c.bl (.ok (Wi.openOf ys).1 0)) 1)) <| WL.nil <| ?_
   try simp only [pS]
   go_upto_region 8 with fail
   refine WL.start <| tK (pg i 0) <| tK (pg i 0) <| tK (pg i 0) <| lR (load_one (Src.pt _ HF.out.st) U170 rfl) <| tK (pg g 0) <| tK (pg g 2) <| lR (load_one (inErr HF.out.st) U3 rfl) <| ?_
   try simp only [pS]
   cases q1 : (((Wi.errS (blkS (.ok (Wi.openOf ys).1 0))).2) == 0)
   ·skip
    refine bN (nI0 q1) <| tK (.bool true) <| sK <| sK <| sK <| sK <| sK <| tK (.bool true) <| tK (.bool true) <| sK <| sK <| tK (.bool true) <| tK (.bool true) <| sK <| sK <| sK <| sK <| tK (.bool true) <| WL.nil <| ?_
    try simp only [pS]
    go_upto_region 9 with fail
    refine WL.start <| bD (Bl.cells blZ) <| ?_
    try simp only [pS]
    have HFo := HF
    refine rWk (Bl.cs blZ) (Bl.cs blZ) HF 1 0 (v := .agg (Bl.cells blZ)) rfl S73 (Bl.oneL _) (Bl.cs blZ) rfl fun w19 HF hkk => ?_
    try simp only [pS]
    have HF : Hid (Kr (inSrc i g ba bc (Wi.openOf ys).1) w w19 (tS (Wi.aS (.ok (Wi.openOf ys).1 0)), false) [(g1, 24, Cg.cells c), (g3, 73, Bl.cells blZ), (g8, 73, Bl.cells ⟨(stV (.ok (Wi.openOf ys).1 0)), x14⟩)]) := HF
    replace HX15 : Hid _ := HX15.out.kept2 (wkS hkk.out) (fun h0 k hk e => sl_off HX15.out h0 hk (HFo.out.fq.box 1 _ _ _ rfl) (bl_nou' _) e)
    clear HFo hkk
    refine tK (.int .i64 11) <| WL.nil <| ?_
    try simp only [pS]
    have hv : outB (cfgP c zs) ys (((Wi.errS (blkS (.ok (Wi.openOf ys).1 0))).2 == 0) && (!Wi.moreS (blkS (.ok (Wi.openOf ys).1 0)) && ((jdg (cfgP c zs) (blkP c.bl (.ok (Wi.openOf ys).1 0)) 1 == 0) && decide (encR (cfgP c zs && blkP c.bl (.ok (Wi.openOf ys).1 0)) (blkI (.ok (Wi.openOf ys).1 0)) = ys)))) = (spZ, [], 11) := by
      simp only [h2, q1, cond_true, cond_false, Bool.not_true, Bool.not_false, Bool.and_true, Bool.and_false, Bool.true_and, Bool.false_and]
      simp only [outB, cond_true, cond_false, Bool.not_true, Bool.not_false, Bool.and_true, Bool.and_false, Bool.true_and, Bool.false_and, h2, h1]
    go_wp2
    rw [HC.out, hv]
    refine bodyPost_ret (Wi.results_row_tmp (by rfl) _ _ g3 (Bl.cells blZ) (by rfl) (run_load_part (cs := Bl.cs blZ) (sub := Bl.cs blZ) (HF.out.fq.box 1 _ _ _ rfl) (Part.all _) U73 rfl S73)) rfl ?_
    exact ⟨slZ, rfl, RdB.nilS _, Nat.zero_le _, HF.out.keptNo HW.out⟩
   refine bN (nI1 q1) <| tK (.bool false) <| tK (pg i 0) <| tK (pg i 0) <| tK (pg i 0) <| lR (load_one (Src.pt _ HF.out.st) U170 rfl) <| ?_
   try simp only [pS]
   cases q2 : (Wi.moreS (blkS (.ok (Wi.openOf ys).1 0)))
   rotate_left
   ·skip
    refine rcB (inMore HF.out.st) q2 HF fun w26 HF hkk => ?_
    try simp only [pS]
    replace HP : Hid _ := HP.out.no hkk.out
    replace HX15 : Hid _ := HX15.out.no (wk hkk.out)
    refine tK (.bool true) <| tK (.bool true) <| sK <| sK <| tK (.bool true) <| tK (.bool true) <| sK <| sK <| sK <| sK <| tK (.bool true) <| WL.nil <| ?_
    try simp only [pS]
    go_upto_region 9 with fail
    refine WL.start <| bD (Bl.cells blZ) <| ?_
    try simp only [pS]
    have HFo := HF
    refine rWk (Bl.cs blZ) (Bl.cs blZ) HF 1 0 (v := .agg (Bl.cells blZ)) rfl S73 (Bl.oneL _) (Bl.cs blZ) rfl fun w27 HF hkk => ?_
    try simp only [pS]
    have HF : Hid (Kr (inSrc i g ba bc (Wi.openOf ys).1) w w27 (tS (Wi.aS (.ok (Wi.openOf ys).1 0)), false) [(g1, 24, Cg.cells c), (g3, 73, Bl.cells blZ), (g8, 73, Bl.cells ⟨(stV (.ok (Wi.openOf ys).1 0)), x14⟩)]) := HF
    replace HX15 : Hid _ := HX15.out.kept2 (wkS hkk.out) (fun h0 k hk e => sl_off HX15.out h0 hk (HFo.out.fq.box 1 _ _ _ rfl) (bl_nou' _) e)
    clear HFo hkk
    refine tK (.int .i64 11) <| WL.nil <| ?_
    try simp only [pS]
    have hv : outB (cfgP c zs) ys (((Wi.errS (blkS (.ok (Wi.openOf ys).1 0))).2 == 0) && (!Wi.moreS (blkS (.ok (Wi.openOf ys).1 0)) && ((jdg (cfgP c zs) (blkP c.bl (.ok (Wi.openOf ys).1 0)) 1 == 0) && decide (encR (cfgP c zs && blkP c.bl (.ok (Wi.openOf ys).1 0)) (blkI (.ok (Wi.openOf ys).1 0)) = ys)))) = (spZ, [], 11) := by
      simp only [h2, q1, q2, cond_true, cond_false, Bool.not_true, Bool.not_false, Bool.and_true, Bool.and_false, Bool.true_and, Bool.false_and]
      simp only [outB, cond_true, cond_false, Bool.not_true, Bool.not_false, Bool.and_true, Bool.and_false, Bool.true_and, Bool.false_and, h2, h1]
    go_wp2
    rw [HC.out, hv]
    refine bodyPost_ret (Wi.results_row_tmp (by rfl) _ _ g3 (Bl.cells blZ) (by rfl) (run_load_part (cs := Bl.cs blZ) (sub := Bl.cs blZ) (HF.out.fq.box 1 _ _ _ rfl) (Part.all _) U73 rfl S73)) rfl ?_
    exact ⟨slZ, rfl, RdB.nilS _, Nat.zero_le _, HF.out.keptNo HW.out⟩
   refine rcB (inMore HF.out.st) q2 HF fun w20 HF hkk => ?_
   try simp only [pS]
   replace HP : Hid _ := HP.out.no hkk.out
   replace HX15 : Hid _ := HX15.out.no (wk hkk.out)
   refine tK (.bool false) <| tK (.bool false) <| tK (.int .i64 (jdg (cfgP c zs) (blkP c.bl (.ok (Wi.openOf ys).1 0)) 1)) <| ?_
   try simp only [pS]
   cases q3 : ((jdg (cfgP c zs) (blkP c.bl (.ok (Wi.openOf ys).1 0)) 1) == 0)
   ·skip
    refine bN (nI0 q3) <| tK (.bool true) <| tK (.bool true) <| sK <| sK <| sK <| sK <| tK (.bool true) <| WL.nil <| ?_
    try simp only [pS]
    go_upto_region 9 with fail
    refine WL.start <| bD (Bl.cells blZ) <| ?_
    try simp only [pS]
    have HFo := HF
    refine rWk (Bl.cs blZ) (Bl.cs blZ) HF 1 0 (v := .agg (Bl.cells blZ)) rfl S73 (Bl.oneL _) (Bl.cs blZ) rfl fun w21 HF hkk => ?_
    try simp only [pS]
    have HF : Hid (Kr (inSrc i g ba bc (Wi.openOf ys).1) w w21 (tS (Wi.aS (.ok (Wi.openOf ys).1 0)), false) [(g1, 24, Cg.cells c), (g3, 73, Bl.cells blZ), (g8, 73, Bl.cells ⟨(stV (.ok (Wi.openOf ys).1 0)), x14⟩)]) := HF
    replace HX15 : Hid _ := HX15.out.kept2 (wkS hkk.out) (fun h0 k hk e => sl_off HX15.out h0 hk (HFo.out.fq.box 1 _ _ _ rfl) (bl_nou' _) e)
    clear HFo hkk
    refine tK (.int .i64 11) <| WL.nil <| ?_
    try simp only [pS]
    have hv : outB (cfgP c zs) ys (((Wi.errS (blkS (.ok (Wi.openOf ys).1 0))).2 == 0) && (!Wi.moreS (blkS (.ok (Wi.openOf ys).1 0)) && ((jdg (cfgP c zs) (blkP c.bl (.ok (Wi.openOf ys).1 0)) 1 == 0) && decide (encR (cfgP c zs && blkP c.bl (.ok (Wi.openOf ys).1 0)) (blkI (.ok (Wi.openOf ys).1 0)) = ys)))) = (spZ, [], 11) := by
      simp only [h2, q1, q2, q3, cond_true, cond_false, Bool.not_true, Bool.not_false, Bool.and_true, Bool.and_false, Bool.true_and, Bool.false_and]
      simp only [outB, cond_true, cond_false, Bool.not_true, Bool.not_false, Bool.and_true, Bool.and_false, Bool.true_and, Bool.false_and, h2, h1]
    go_wp2
    rw [HC.out, hv]
    refine bodyPost_ret (Wi.results_row_tmp (by rfl) _ _ g3 (Bl.cells blZ) (by rfl) (run_load_part (cs := Bl.cs blZ) (sub := Bl.cs blZ) (HF.out.fq.box 1 _ _ _ rfl) (Part.all _) U73 rfl S73)) rfl ?_
    exact ⟨slZ, rfl, RdB.nilS _, Nat.zero_le _, HF.out.keptNo HW.out⟩
   refine bN (nI1 q3) <| tK (.bool false) <| tK (.bool false) <| tK (p17.v) <| tK (x.v) <| ?_
   try simp only [pS]
   cases q4 : (decide (encR (cfgP c zs && blkP c.bl (.ok (Wi.openOf ys).1 0)) (blkI (.ok (Wi.openOf ys).1 0)) = ys))
   ·skip
    refine rcB (r_same p17 x (encR (cfgP c zs && blkP c.bl (.ok (Wi.openOf ys).1 0)) (blkI (.ok (Wi.openOf ys).1 0))) ys _ HP.out (HX.out.no (wk (HF.out.keptNo HW.out))) (encR_u8 (fun h => (blkI_ok (st := .ok (Wi.openOf ys).1 0) (cfg_bl (and_l h)) (open_u8 HX.out.u8) (and_r h)).1))) q4 HF fun w22 HF hkk => ?_
    try simp only [pS]
    replace HX15 : Hid _ := HX15.out.no (wk hkk.out)
    refine tK (.bool true) <| tK (.bool true) <| WL.nil <| ?_
    try simp only [pS]
    go_upto_region 9 with fail
    refine WL.start <| bD (Bl.cells blZ) <| ?_
    try simp only [pS]
    have HFo := HF
    refine rWk (Bl.cs blZ) (Bl.cs blZ) HF 1 0 (v := .agg (Bl.cells blZ)) rfl S73 (Bl.oneL _) (Bl.cs blZ) rfl fun w23 HF hkk => ?_
    try simp only [pS]
    have HF : Hid (Kr (inSrc i g ba bc (Wi.openOf ys).1) w w23 (tS (Wi.aS (.ok (Wi.openOf ys).1 0)), false) [(g1, 24, Cg.cells c), (g3, 73, Bl.cells blZ), (g8, 73, Bl.cells ⟨(stV (.ok (Wi.openOf ys).1 0)), x14⟩)]) := HF
    replace HX15 : Hid _ := HX15.out.kept2 (wkS hkk.out) (fun h0 k hk e => sl_off HX15.out h0 hk (HFo.out.fq.box 1 _ _ _ rfl) (bl_nou' _) e)
    clear HFo hkk
    refine tK (.int .i64 11) <| WL.nil <| ?_
    try simp only [pS]
    have hv : outB (cfgP c zs) ys (((Wi.errS (blkS (.ok (Wi.openOf ys).1 0))).2 == 0) && (!Wi.moreS (blkS (.ok (Wi.openOf ys).1 0)) && ((jdg (cfgP c zs) (blkP c.bl (.ok (Wi.openOf ys).1 0)) 1 == 0) && decide (encR (cfgP c zs && blkP c.bl (.ok (Wi.openOf ys).1 0)) (blkI (.ok (Wi.openOf ys).1 0)) = ys)))) = (spZ, [], 11) := by
      simp only [h2, q1, q2, q3, q4, cond_true, cond_false, Bool.not_true, Bool.not_false, Bool.and_true, Bool.and_false, Bool.true_and, Bool.false_and]
      simp only [outB, cond_true, cond_false, Bool.not_true, Bool.not_false, Bool.and_true, Bool.and_false, Bool.true_and, Bool.false_and, h2, h1]
    go_wp2
    rw [HC.out, hv]
    refine bodyPost_ret (Wi.results_row_tmp (by rfl) _ _ g3 (Bl.cells blZ) (by rfl) (run_load_part (cs := Bl.cs blZ) (sub := Bl.cs blZ) (HF.out.fq.box 1 _ _ _ rfl) (Part.all _) U73 rfl S73)) rfl ?_
    exact ⟨slZ, rfl, RdB.nilS _, Nat.zero_le _, HF.out.keptNo HW.out⟩
   refine rcB (r_same p17 x (encR (cfgP c zs && blkP c.bl (.ok (Wi.openOf ys).1 0)) (blkI (.ok (Wi.openOf ys).1 0))) ys _ HP.out (HX.out.no (wk (HF.out.keptNo HW.out))) (encR_u8 (fun h => (blkI_ok (st := .ok (Wi.openOf ys).1 0) (cfg_bl (and_l h)) (open_u8 HX.out.u8) (and_r h)).1))) q4 HF fun w24 HF hkk => ?_
   try simp only [pS]
   replace HX15 : Hid _ := HX15.out.no (wk hkk.out)
   refine tK (.bool false) <| tK (.bool false) <| WL.nil <| ?_
   try simp only [pS]
   go_upto_region 10 with fail
   refine WL.start <| rP (Bl.cs ⟨(stV (.ok (Wi.openOf ys).1 0)), x14⟩) HF 2 0 U73 S73 (Bl.cs ⟨(stV (.ok (Wi.openOf ys).1 0)), x14⟩) rfl <| ?_
   try simp only [pS]
   have HFo := HF
   refine rWk (Bl.cs ⟨(stV (.ok (Wi.openOf ys).1 0)), x14⟩) (Bl.cs ⟨(stV (.ok (Wi.openOf ys).1 0)), x14⟩) HF 1 0 (v := .agg (Bl.cells ⟨(stV (.ok (Wi.openOf ys).1 0)), x14⟩)) rfl S73 (Bl.oneL _) (Bl.cs blZ) rfl fun w25 HF hkk => ?_
   try simp only [pS]
   have HF : Hid (Kr (inSrc i g ba bc (Wi.openOf ys).1) w w25 (tS (Wi.aS (.ok (Wi.openOf ys).1 0)), false) [(g1, 24, Cg.cells c), (g3, 73, Bl.cells ⟨(stV (.ok (Wi.openOf ys).1 0)), x14⟩), (g8, 73, Bl.cells ⟨(stV (.ok (Wi.openOf ys).1 0)), x14⟩)]) := HF
   replace HX15 : Hid _ := HX15.out.kept2 (wkS hkk.out) (fun h0 k hk e => sl_off HX15.out h0 hk (HFo.out.fq.box 1 _ _ _ rfl) (bl_nou' _) e)
   clear HFo hkk
   refine tK (.int .i64 0) <| WL.nil <| ?_
   try simp only [pS]
   have hv : outB (cfgP c zs) ys (((Wi.errS (blkS (.ok (Wi.openOf ys).1 0))).2 == 0) && (!Wi.moreS (blkS (.ok (Wi.openOf ys).1 0)) && ((jdg (cfgP c zs) (blkP c.bl (.ok (Wi.openOf ys).1 0)) 1 == 0) && decide (encR (cfgP c zs && blkP c.bl (.ok (Wi.openOf ys).1 0)) (blkI (.ok (Wi.openOf ys).1 0)) = ys)))) = (stV (.ok (Wi.openOf ys).1 0), tV (Wi.aS (.ok (Wi.openOf ys).1 0)), 0) := by
     simp only [h2, q1, q2, q3, q4, cond_true, cond_false, Bool.not_true, Bool.not_false, Bool.and_true, Bool.and_false, Bool.true_and, Bool.false_and]
     simp only [outB, cond_true, cond_false, Bool.not_true, Bool.not_false, Bool.and_true, Bool.and_false, Bool.true_and, Bool.false_and, h2, h1]
   go_wp2
   rw [HC.out, hv]
   refine bodyPost_ret (Wi.results_row_tmp (by rfl) _ _ g3 (Bl.cells ⟨(stV (.ok (Wi.openOf ys).1 0)), x14⟩) (by rfl) (run_load_part (cs := Bl.cs ⟨(stV (.ok (Wi.openOf ys).1 0)), x14⟩) (sub := Bl.cs ⟨(stV (.ok (Wi.openOf ys).1 0)), x14⟩) (HF.out.fq.box 1 _ _ _ rfl) (Part.all _) U73 rfl S73)) rfl ?_
   exact ⟨x14, rfl, sl_rd HX15.out, Nat.le_trans HX15.out.bd (by omega), HF.out.keptNo HW.out⟩
theorem r_ReadB (x : Sl) (ys : List Int) (c : Cg) (zs : List Int) (w : World) (hc : CgIn w c zs) (hx : Wi.Sl w x.a x.l x.k ys) : Calls Tryz.prog 75 #[x.v, .agg (Cg.cells c)] w
    (BlkO w (outB (cfgP c zs) ys (Wi.wholeB false (blkS (.ok (Wi.openOf ys).1 0)) && blkP c.bl (.ok (Wi.openOf ys).1 0)))) := by
  rw [out_blk (fun hq ho => good_blk hx.u8 hq ho)]
  exact r_ReadB0 x ys c zs w hc hx
set_option maxRecDepth 100000
set_option maxHeartbeats 4000000
def enV (st : Wi.RS) : En := ⟨Wi.strOf (tV st), Wi.nV (tS st), Wi.nV (Wi.nS (tS st)), Wi.nV (Wi.aS (tS st))⟩
def enS (st : Wi.RS) : Wi.RS := Wi.nS (Wi.aS (tS st))
def la4 (st : Wi.RS) : Wi.RS := Wi.nS (Wi.nS (Wi.nS (Wi.nS st)))
def laV (st : Wi.RS) : La := ⟨Wi.nV st, Wi.nV (Wi.nS st), Wi.nV (Wi.nS (Wi.nS st)), Wi.nV (Wi.nS (Wi.nS (Wi.nS st))), Wi.nV (la4 st), Wi.nV (Wi.nS (la4 st)), Wi.nV (Wi.aS (la4 st))⟩
def laS (st : Wi.RS) : Wi.RS := Wi.nS (Wi.aS (la4 st))
theorem took_en (st : Wi.RS) : Took st [It.b (Wi.numsOf (enV st).nm), It.n (enV st).f0, It.n (enV st).f1, It.n (enV st).sz] (enS st) := (took_x st).trans <| (took_2 _).trans (took_n _)
theorem took_la (st : Wi.RS) : Took st [It.n (laV st).cl, It.n (laV st).op, It.n (laV st).ins, It.n (laV st).er, It.n (laV st).f0, It.n (laV st).f1, It.n (laV st).sz] (laS st) :=
  (took_n st).trans <| (took_n _).trans <| (took_n _).trans <| (took_n _).trans <| (took_2 _).trans (took_n _)
def capSrc (r g lb b : Nat) : Src where
  pb := r
  pg := g
  In := fun k => k = r ∨ k = g ∨ k = lb ∨ k = b
  Wr := fun k => k = r ∨ k = g
  sub := fun k e => e.elim .inl (fun e => .inr (.inl e))
  St := fun w s => (rdSrc r g lb).St w s ∧ Box w b 202 #[.pointer (some ⟨r, 0, none⟩)] ∧ b ≠ r ∧ b ≠ g
  lt := fun h k e => by
    rcases e with e | e | e | rfl
    · exact (rdSrc r g lb).lt h.1 k (.inl e)
    · exact (rdSrc r g lb).lt h.1 k (.inr (.inl e))
    · exact (rdSrc r g lb).lt h.1 k (.inr (.inr e))
    · exact h.2.1.lt
  far := fun {w w' s S} h hk hS => ⟨(rdSrc r g lb).far h.1 hk (fun k e e2 => hS k e (by rcases e2 with e2 | e2 | e2; exact .inl e2; exact .inr (.inl e2); exact .inr (.inr (.inl e2)))), h.2.1.kept hk (fun e => hS _ e (.inr (.inr (.inr rfl)))), h.2.2⟩
  pt := fun h => (rdSrc r g lb).pt h.1
section
variable {r g lb b : Nat} {s s' : Wi.RS × Bool} {w : World}
theorem capGot {f : FuncId} {args : Array Value} {v : Value} (h : (capSrc r g lb b).St w s) (hc : (rdSrc r g lb).St w s → Calls Tryz.prog f args w ((rdSrc r g lb).Got w v s')) : Calls Tryz.prog f args w ((capSrc r g lb b).Got w v s') :=
  (hc h.1).mono (by rintro e w' ⟨h1, h2, h3⟩; exact ⟨h1, ⟨h2, h.2.1.kept h3 (fun e => e.elim h.2.2.1 h.2.2.2), h.2.2⟩, h3⟩)
theorem capPt (h : (capSrc r g lb b).St w s) : w.cell? ⟨b, 0, none⟩ = some (.pointer (some ⟨r, 0, none⟩)) := h.2.1.cell 0
theorem zC {a : Act} {w0 : World} {lA : List (Nat × TypeId × Array Value)} {o : Oper} {t : TypeId} {d : TypeDesc} (hu : Tryz.prog.underlying t = some d) (hl : ldA o a.eval = some (t, .pointer (some ⟨b, 0, none⟩)) := by kernel_rfl) (hd : (match d with | .struct _ | .array _ _ => true | _ => false) = false := by kernel_rfl) :
    ∀ w, Hid (Ex (capSrc r g lb b) w0 lA w) → (execOp a.eval o).run Tryz.prog w = .ok (.value (.pointer (some ⟨r, 0, none⟩))) w := fun w HE => by
  obtain ⟨s, h⟩ := HE
  exact exL (load_one (capPt h.st) hu hd) hl
end
section
variable {r g lb b : Nat} {st : Wi.RS} {odd : Bool} {w : World}
theorem p_entry (h : (capSrc r g lb b).St w (st, odd)) : Calls Tryz.prog 193 #[.pointer (some ⟨b, 0, none⟩)] w ((capSrc r g lb b).Got w (.agg (En.cells (enV st))) ((enS st, odd))) := by
  refine hidC fun C HC => ?_
  have HF : Hid (Kr (capSrc r g lb b) w w (st, odd) []) := Kr.start h
  clear h
  go_enter Tryz.func193, Tryz.ntmps193
  go_upto_region 0 with fail
  refine WL.start <| rA (En.cells enZ) Z92 HF fun g1 w2 HF => ?_
  try simp only [pS]
  have HF : Hid (Kr (capSrc r g lb b) w w2 (st, odd) [(g1, 92, En.cells enZ)]) := HF
  refine WL.nil <| ?_
  try simp only [pS]
  go_upto_region 1 with fail
  refine wp_region_held_drew (S := fun w' => Hid (Ex (capSrc r g lb b) w [] w')) rfl (qN (lA := []) (lB := [(g1, 92, En.cells enZ)]) HF) (fun _ => ?_)
  have HG : Hid (Kr (capSrc r g lb b) w w2.drew (st, odd) ([] ++ [(g1, 92, En.cells enZ)])) := HF.out.no (Kept.refl No _).drew
  clear HF
  generalize w2.drew = w3 at HG ⊢
  refine qT 0 2 HG (zC U202) <| qK 1 3 HG (.pointer (some ⟨r, 0, none⟩)) <| qK 2 4 HG (.pointer (some ⟨r, 0, none⟩)) <| qT 3 5 HG (zQ U203) <| qT 5 7 HG (zC U202) <| qT 7 9 HG (zC U202) <| qK 8 10 HG (.pointer (some ⟨r, 0, none⟩)) <| qK 9 11 HG (.pointer (some ⟨r, 0, none⟩)) <| ?_
  try simp only [pS]
  refine qT 10 12 HG (zQ U203) <| ?_
  try simp only [pS]
  refine qC 4 6 (.string (Wi.strOf (tV st))) ((tS st, odd)) HG (fun h => capGot h (fun h => p_Text h)) fun w4 HG => ?_
  try simp only [pS]
  refine qC 6 8 (.agg (Fi.cells (fiV (tS st)))) ((Wi.aS (tS st), odd)) HG (fun h => capGot h (fun h => p_rfile h)) fun w5 HG => ?_
  try simp only [pS]
  refine qC 11 13 (.int .i64 (Wi.nV (Wi.aS (tS st)))) ((Wi.nS (Wi.aS (tS st)), odd)) HG (fun h => capGot h (fun h => p_Num h)) fun w6 HG => ?_
  try simp only [pS]
  refine qT 12 14 HG (v := .agg (En.cells ⟨(Wi.strOf (tV st)), ((fiV (tS st)).c), ((fiV (tS st)).o), (Wi.nV (Wi.aS (tS st)))⟩)) (zBd 92 (En.cells ⟨(Wi.strOf (tV st)), ((fiV (tS st)).c), ((fiV (tS st)).o), (Wi.nV (Wi.aS (tS st)))⟩)) <| ?_
  try simp only [pS]
  refine qW 13 [] [(g1, 92, En.cells enZ)] HG 0 0 (En.cs enZ) (En.cs ⟨(Wi.strOf (tV st)), ((fiV (tS st)).c), ((fiV (tS st)).o), (Wi.nV (Wi.aS (tS st)))⟩) (En.cs ⟨(Wi.strOf (tV st)), ((fiV (tS st)).c), ((fiV (tS st)).o), (Wi.nV (Wi.aS (tS st)))⟩) rfl (v := .agg (En.cells ⟨(Wi.strOf (tV st)), ((fiV (tS st)).c), ((fiV (tS st)).o), (Wi.nV (Wi.aS (tS st)))⟩)) rfl S92 (En.oneL _) fun w7 HG => ?_
  try simp only [pS]
  have HG : Hid (Kr (capSrc r g lb b) w w7 (Wi.nS (Wi.aS (tS st)), odd) ([] ++ [(g1, 92, En.cells ⟨(Wi.strOf (tV st)), ((fiV (tS st)).c), ((fiV (tS st)).o), (Wi.nV (Wi.aS (tS st)))⟩)])) := HG
  refine wpAnyH_done (by kernel_rfl) ?_ _
  try simp only [pS]
  have HF : Hid (Kr (capSrc r g lb b) w w7 (Wi.nS (Wi.aS (tS st)), odd) [(g1, 92, En.cells ⟨(Wi.strOf (tV st)), ((fiV (tS st)).c), ((fiV (tS st)).o), (Wi.nV (Wi.aS (tS st)))⟩)]) := HG
  clear HG
  go_wp2
  rw [HC.out]
  refine bodyPost_ret (results_row1 (by rfl) _ _ g1 (En.cells ⟨(Wi.strOf (tV st)), ((fiV (tS st)).c), ((fiV (tS st)).o), (Wi.nV (Wi.aS (tS st)))⟩) (by rfl) (run_load_part (cs := En.cs ⟨(Wi.strOf (tV st)), ((fiV (tS st)).c), ((fiV (tS st)).o), (Wi.nV (Wi.aS (tS st)))⟩) (sub := En.cs ⟨(Wi.strOf (tV st)), ((fiV (tS st)).c), ((fiV (tS st)).o), (Wi.nV (Wi.aS (tS st)))⟩) (HF.out.fq.box 0 _ _ _ rfl) (Part.all _) U92 rfl S92)) rfl ?_
  exact HF.out.got _
theorem p_last (h : (capSrc r g lb b).St w (st, odd)) : Calls Tryz.prog 196 #[.pointer (some ⟨b, 0, none⟩)] w ((capSrc r g lb b).Got w (.agg (La.cells (laV st))) ((laS st, odd))) := by
  refine hidC fun C HC => ?_
  have HF : Hid (Kr (capSrc r g lb b) w w (st, odd) []) := Kr.start h
  clear h
  go_enter Tryz.func196, Tryz.ntmps196
  go_upto_region 0 with fail
  refine WL.start <| rA (La.cells laZ) Z94 HF fun g1 w2 HF => ?_
  try simp only [pS]
  have HF : Hid (Kr (capSrc r g lb b) w w2 (st, odd) [(g1, 94, La.cells laZ)]) := HF
  refine WL.nil <| ?_
  try simp only [pS]
  go_upto_region 1 with fail
  refine wp_region_held_drew (S := fun w' => Hid (Ex (capSrc r g lb b) w [] w')) rfl (qN (lA := []) (lB := [(g1, 94, La.cells laZ)]) HF) (fun _ => ?_)
  have HG : Hid (Kr (capSrc r g lb b) w w2.drew (st, odd) ([] ++ [(g1, 94, La.cells laZ)])) := HF.out.no (Kept.refl No _).drew
  clear HF
  generalize w2.drew = w3 at HG ⊢
  refine qT 0 2 HG (zC U202) <| qK 1 3 HG (.pointer (some ⟨r, 0, none⟩)) <| qK 2 4 HG (.pointer (some ⟨r, 0, none⟩)) <| qT 3 5 HG (zQ U203) <| qT 5 7 HG (zC U202) <| qK 6 8 HG (.pointer (some ⟨r, 0, none⟩)) <| qK 7 9 HG (.pointer (some ⟨r, 0, none⟩)) <| qT 8 10 HG (zQ U203) <| ?_
  try simp only [pS]
  refine qT 10 12 HG (zC U202) <| qK 11 13 HG (.pointer (some ⟨r, 0, none⟩)) <| qK 12 14 HG (.pointer (some ⟨r, 0, none⟩)) <| qT 13 15 HG (zQ U203) <| qT 15 17 HG (zC U202) <| qK 16 18 HG (.pointer (some ⟨r, 0, none⟩)) <| qK 17 19 HG (.pointer (some ⟨r, 0, none⟩)) <| qT 18 20 HG (zQ U203) <| ?_
  try simp only [pS]
  refine qT 20 22 HG (zC U202) <| qT 22 24 HG (zC U202) <| qK 23 25 HG (.pointer (some ⟨r, 0, none⟩)) <| qK 24 26 HG (.pointer (some ⟨r, 0, none⟩)) <| qT 25 27 HG (zQ U203) <| ?_
  try simp only [pS]
  refine qC 4 6 (.int .i64 (Wi.nV st)) ((Wi.nS st, odd)) HG (fun h => capGot h (fun h => p_Num h)) fun w4 HG => ?_
  try simp only [pS]
  refine qC 9 11 (.int .i64 (Wi.nV (Wi.nS st))) ((Wi.nS (Wi.nS st), odd)) HG (fun h => capGot h (fun h => p_Num h)) fun w5 HG => ?_
  try simp only [pS]
  refine qC 14 16 (.int .i64 (Wi.nV (Wi.nS (Wi.nS st)))) ((Wi.nS (Wi.nS (Wi.nS st)), odd)) HG (fun h => capGot h (fun h => p_Num h)) fun w6 HG => ?_
  try simp only [pS]
  refine qC 19 21 (.int .i64 (Wi.nV (Wi.nS (Wi.nS (Wi.nS st))))) ((Wi.nS (Wi.nS (Wi.nS (Wi.nS st))), odd)) HG (fun h => capGot h (fun h => p_Num h)) fun w7 HG => ?_
  try simp only [pS]
  refine qC 21 23 (.agg (Fi.cells (fiV (Wi.nS (Wi.nS (Wi.nS (Wi.nS st))))))) ((Wi.aS (Wi.nS (Wi.nS (Wi.nS (Wi.nS st)))), odd)) HG (fun h => capGot h (fun h => p_rfile h)) fun w8 HG => ?_
  try simp only [pS]
  refine qC 26 28 (.int .i64 (Wi.nV (Wi.aS (Wi.nS (Wi.nS (Wi.nS (Wi.nS st))))))) ((Wi.nS (Wi.aS (Wi.nS (Wi.nS (Wi.nS (Wi.nS st))))), odd)) HG (fun h => capGot h (fun h => p_Num h)) fun w9 HG => ?_
  try simp only [pS]
  refine qT 27 29 HG (v := .agg (La.cells ⟨(Wi.nV st), (Wi.nV (Wi.nS st)), (Wi.nV (Wi.nS (Wi.nS st))), (Wi.nV (Wi.nS (Wi.nS (Wi.nS st)))), ((fiV (Wi.nS (Wi.nS (Wi.nS (Wi.nS st))))).c), ((fiV (Wi.nS (Wi.nS (Wi.nS (Wi.nS st))))).o), (Wi.nV (Wi.aS (Wi.nS (Wi.nS (Wi.nS (Wi.nS st))))))⟩)) (zBd 94 (La.cells ⟨(Wi.nV st), (Wi.nV (Wi.nS st)), (Wi.nV (Wi.nS (Wi.nS st))), (Wi.nV (Wi.nS (Wi.nS (Wi.nS st)))), ((fiV (Wi.nS (Wi.nS (Wi.nS (Wi.nS st))))).c), ((fiV (Wi.nS (Wi.nS (Wi.nS (Wi.nS st))))).o), (Wi.nV (Wi.aS (Wi.nS (Wi.nS (Wi.nS (Wi.nS st))))))⟩)) <| ?_
  try simp only [pS]
  refine qW 28 [] [(g1, 94, La.cells laZ)] HG 0 0 (La.cs laZ) (La.cs ⟨(Wi.nV st), (Wi.nV (Wi.nS st)), (Wi.nV (Wi.nS (Wi.nS st))), (Wi.nV (Wi.nS (Wi.nS (Wi.nS st)))), ((fiV (Wi.nS (Wi.nS (Wi.nS (Wi.nS st))))).c), ((fiV (Wi.nS (Wi.nS (Wi.nS (Wi.nS st))))).o), (Wi.nV (Wi.aS (Wi.nS (Wi.nS (Wi.nS (Wi.nS st))))))⟩) (La.cs ⟨(Wi.nV st), (Wi.nV (Wi.nS st)), (Wi.nV (Wi.nS (Wi.nS st))), (Wi.nV (Wi.nS (Wi.nS (Wi.nS st)))), ((fiV (Wi.nS (Wi.nS (Wi.nS (Wi.nS st))))).c), ((fiV (Wi.nS (Wi.nS (Wi.nS (Wi.nS st))))).o), (Wi.nV (Wi.aS (Wi.nS (Wi.nS (Wi.nS (Wi.nS st))))))⟩) rfl (v := .agg (La.cells ⟨(Wi.nV st), (Wi.nV (Wi.nS st)), (Wi.nV (Wi.nS (Wi.nS st))), (Wi.nV (Wi.nS (Wi.nS (Wi.nS st)))), ((fiV (Wi.nS (Wi.nS (Wi.nS (Wi.nS st))))).c), ((fiV (Wi.nS (Wi.nS (Wi.nS (Wi.nS st))))).o), (Wi.nV (Wi.aS (Wi.nS (Wi.nS (Wi.nS (Wi.nS st))))))⟩)) rfl S94 (La.oneL _) fun w10 HG => ?_
  try simp only [pS]
  have HG : Hid (Kr (capSrc r g lb b) w w10 (Wi.nS (Wi.aS (Wi.nS (Wi.nS (Wi.nS (Wi.nS st))))), odd) ([] ++ [(g1, 94, La.cells ⟨(Wi.nV st), (Wi.nV (Wi.nS st)), (Wi.nV (Wi.nS (Wi.nS st))), (Wi.nV (Wi.nS (Wi.nS (Wi.nS st)))), ((fiV (Wi.nS (Wi.nS (Wi.nS (Wi.nS st))))).c), ((fiV (Wi.nS (Wi.nS (Wi.nS (Wi.nS st))))).o), (Wi.nV (Wi.aS (Wi.nS (Wi.nS (Wi.nS (Wi.nS st))))))⟩)])) := HG
  refine wpAnyH_done (by kernel_rfl) ?_ _
  try simp only [pS]
  have HF : Hid (Kr (capSrc r g lb b) w w10 (Wi.nS (Wi.aS (Wi.nS (Wi.nS (Wi.nS (Wi.nS st))))), odd) [(g1, 94, La.cells ⟨(Wi.nV st), (Wi.nV (Wi.nS st)), (Wi.nV (Wi.nS (Wi.nS st))), (Wi.nV (Wi.nS (Wi.nS (Wi.nS st)))), ((fiV (Wi.nS (Wi.nS (Wi.nS (Wi.nS st))))).c), ((fiV (Wi.nS (Wi.nS (Wi.nS (Wi.nS st))))).o), (Wi.nV (Wi.aS (Wi.nS (Wi.nS (Wi.nS (Wi.nS st))))))⟩)]) := HG
  clear HG
  go_wp2
  rw [HC.out]
  refine bodyPost_ret (results_row1 (by rfl) _ _ g1 (La.cells ⟨(Wi.nV st), (Wi.nV (Wi.nS st)), (Wi.nV (Wi.nS (Wi.nS st))), (Wi.nV (Wi.nS (Wi.nS (Wi.nS st)))), ((fiV (Wi.nS (Wi.nS (Wi.nS (Wi.nS st))))).c), ((fiV (Wi.nS (Wi.nS (Wi.nS (Wi.nS st))))).o), (Wi.nV (Wi.aS (Wi.nS (Wi.nS (Wi.nS (Wi.nS st))))))⟩) (by rfl) (run_load_part (cs := La.cs ⟨(Wi.nV st), (Wi.nV (Wi.nS st)), (Wi.nV (Wi.nS (Wi.nS st))), (Wi.nV (Wi.nS (Wi.nS (Wi.nS st)))), ((fiV (Wi.nS (Wi.nS (Wi.nS (Wi.nS st))))).c), ((fiV (Wi.nS (Wi.nS (Wi.nS (Wi.nS st))))).o), (Wi.nV (Wi.aS (Wi.nS (Wi.nS (Wi.nS (Wi.nS st))))))⟩) (sub := La.cs ⟨(Wi.nV st), (Wi.nV (Wi.nS st)), (Wi.nV (Wi.nS (Wi.nS st))), (Wi.nV (Wi.nS (Wi.nS (Wi.nS st)))), ((fiV (Wi.nS (Wi.nS (Wi.nS (Wi.nS st))))).c), ((fiV (Wi.nS (Wi.nS (Wi.nS (Wi.nS st))))).o), (Wi.nV (Wi.aS (Wi.nS (Wi.nS (Wi.nS (Wi.nS st))))))⟩) (HF.out.fq.box 0 _ _ _ rfl) (Part.all _) U94 rfl S94)) rfl ?_
  exact HF.out.got _
end
end Go.Proofs.YtgdnofacgfjaeaaGreat.Md
