import Derived.Test.YtphiokehcgbldaaNj
namespace Go.Proofs.Ytphiokehcgbldaa
open Go.RowKit
set_option linter.unusedVariables false
set_option linter.unusedSimpArgs false

def sentS (s : Ns) (f : Ad) : Ns := ⟨fun x => if x = f then s.sent f + 1 else s.sent x, s.L, s.came⟩
theorem mkm66 (W : World) : Sem.run Try.prog (Instr.makeMap 66 none) W = .ok (.map (some W.heap.size)) (W.alloc (.map #[] 0)) := by kernel_rfl
theorem mkm67 (W : World) : Sem.run Try.prog (Instr.makeMap 67 none) W = .ok (.map (some W.heap.size)) (W.alloc (.map #[] 0)) := by kernel_rfl
theorem mk3 {w : World} {n : Nat} {cs : Array Value} (hb : Box w n 69 cs) : Box (((w.alloc (.map #[] 0)).alloc (.map #[] 0)).alloc (.map #[] 0)) n 69 cs ∧ MapG mkA (((w.alloc (.map #[] 0)).alloc (.map #[] 0)).alloc (.map #[] 0)) w.heap.size (fun _ => none) ∧ MapG mkP (((w.alloc (.map #[] 0)).alloc (.map #[] 0)).alloc (.map #[] 0)) (w.heap.size + 1) (fun _ => none) ∧ MapG mkN (((w.alloc (.map #[] 0)).alloc (.map #[] 0)).alloc (.map #[] 0)) (w.heap.size + 1 + 1) (fun _ => none) ∧ Kept No w (((w.alloc (.map #[] 0)).alloc (.map #[] 0)).alloc (.map #[] 0)) := by
  have e1 : (w.alloc (.map #[] 0)).heap.size = w.heap.size + 1 := by simp
  have e2 : ((w.alloc (.map #[] 0)).alloc (.map #[] 0)).heap.size = w.heap.size + 1 + 1 := by simp
  have k (v : World) : Kept No v (v.alloc (.map #[] 0)) := (Kept.refl No v).alloc _
  have h1 : MapG mkA (w.alloc (.map #[] 0)) w.heap.size (fun _ => none) := MapG.new w
  have h2 : MapG mkP ((w.alloc (.map #[] 0)).alloc (.map #[] 0)) (w.heap.size + 1) (fun _ => none) := by rw [← e1]; exact MapG.new _
  have h3 : MapG mkN (((w.alloc (.map #[] 0)).alloc (.map #[] 0)).alloc (.map #[] 0)) (w.heap.size + 1 + 1) (fun _ => none) := by rw [← e2]; exact MapG.new _
  exact ⟨((hb.kept (k _) (fun e => e)).kept (k _) (fun e => e)).kept (k _) (fun e => e), (h1.kept (k _) (fun e => e)).kept (k _) (fun e => e), h2.kept (k _) (fun e => e), h3, (k _).then ((k _).then (k _))⟩
theorem netB_sent {I : Nat → Prop} {w w' : World} {n b1 b2 b3 : Nat} {s : Ns} {P : Nm → Nat × Nat × Nat} {f : Ad} (h : NetB w n s I b1 b2 b3 P) (hm : MapG mkA w' b1 (upG (gS s.sent) f (some (.int .i64 ((s.sent f + 1 : Nat) : Int))))) (hk : Kept (Only b1) w w') : NetB w' n (sentS s f) I b1 b2 b3 P where
  ok := ⟨h.ok.ris, h.ok.le, h.ok.alike, fun q hq => ⟨(h.ok.cnt q hq).1, by
    have := (h.ok.cnt q hq).2
    show q.nm.2 ≤ ((if q.nm.1 = f then s.sent f + 1 else s.sent q.nm.1 : Nat) : Int)
    split
    · rename_i e; rw [e] at this; omega
    · exact this⟩, h.ok.way⟩
  box := h.box.kept hk (fun e => h.box.neMap h.m1 e)
  m1 := by rw [gS_up] at hm; exact hm
  m2 := h.m2.kept hk (fun e => h.ne.1 e.symm)
  m3 := h.m3.kept hk (fun e => h.ne.2.1 e.symm)
  ne := h.ne
  pl := fun q hq => (h.pl q hq).kept hk (fun e => (h.pl q hq).neMap h.m1 e)
  pd := h.pd
  dt := fun q hq => Own.kept (h.dt q hq) hk (fun k e f => Own.neMap (h.dt q hq) h.m1 ((show k = b1 from f) ▸ e))
  inn := h.inn
  inp := h.inp
  ind := h.ind
/-- What come answers to Send. -/
def CoO (I : Nat → Prop) (n : Nat) (s : Ns) (b1 b2 b3 bP : Nat) (f to' : Ad) (zs : List Int) (W : World) (ra : Option Addr) (rc : Nat) (e : Ending) (W' : World) : Prop :=
  (64 ≤ cnP s.L (f, to') ∧ e = .returned (.bool false) ∧ Kept No W W') ∨ (cnP s.L (f, to') < 64 ∧ e = .returned (.bool true) ∧ Kept (W5 W (fun j => (I j ∧ j < bP) ∨ bP < j)) W W' ∧ ∃ P', NetB W' n ⟨(sentS s f).sent, s.L ++ [⟨(f, ((s.sent f + 1 : Nat) : Int)), to', ra, rc, zs, s.came + 1⟩], s.came + 1⟩ (fun k => ((I k ∧ k < bP) ∨ bP < k) ∨ W.heap.size ≤ k ∨ At ra k) b1 b2 b3 P')
section
set_option maxRecDepth 100000 in
set_option maxHeartbeats 8000000 in
theorem send_any {I : Nat → Prop} {n : Nat} {s : Ns} (f to' : Ad) (x : Int) (da : Option Addr) (l dc : Nat) (zs : List Int) (w : World) (h : NetM w n s I) (hz : zs.length = l) (hl : l ≤ 140737488355328) (hb : Bytes w da zs) (hdI : 0 < zs.length → ∀ k, At da k → ¬ I k ∧ k < w.heap.size) (hfew : s.came < 1000000000000) (hfs : s.sent f < 1000000000000) :
    Calls Try.prog 13 #[.pointer (some ⟨n, 0, none⟩), .agg #[.bool f.1, .int .i64 f.2, .int .i64 x, .bool to'.1, .int .i64 to'.2, .slice da l dc]] w (fun e w' => ∃ ra rc, e = .returned (.tuple #[.int .i64 (s.sent f + 1 : Nat), .bool (decide (cnP s.L (f, to') < 64))]) ∧ Kept (W5 w I) w w' ∧ NetM w' n (addS (sentS s f) ⟨(f, (s.sent f + 1 : Nat)), to', ra, rc, zs, s.came + 1⟩) (fun j => I j ∨ w.heap.size ≤ j)) := by
  subst hz
  have HN : Hid (NetM w n s I) := h
  have HB : Hid (Bytes w da zs) := hb
  have HdI : Hid (0 < zs.length → ∀ k, At da k → ¬ I k ∧ k < w.heap.size) := hdI
  clear h hb hdI
  obtain ⟨fc, fi⟩ := f
  obtain ⟨tc, ti⟩ := to'
  simp only
  go_enter Try.func13, Try.ntmps13
  go_upto_region 1 with fail
  have HP : Hid (Box (w.alloc (.cells #[.bool fc, .int .i64 fi, .int .i64 x, .bool tc, .int .i64 ti, .slice da zs.length dc] 44)) w.heap.size 44 #[.bool fc, .int .i64 fi, .int .i64 x, .bool tc, .int .i64 ti, .slice da zs.length dc] ∧ Kept No w (w.alloc (.cells #[.bool fc, .int .i64 fi, .int .i64 x, .bool tc, .int .i64 ti, .slice da zs.length dc] 44)) ∧ (w.alloc (.cells #[.bool fc, .int .i64 fi, .int .i64 x, .bool tc, .int .i64 ti, .slice da zs.length dc] 44)).heap.size = w.heap.size + 1) := ⟨Box.new _ _ _, (Kept.refl No w).alloc _, by simp⟩
  generalize w.alloc (.cells #[.bool fc, .int .i64 fi, .int .i64 x, .bool tc, .int .i64 ti, .slice da zs.length dc] 44) = w1 at HP ⊢
  obtain ⟨bP, hbP⟩ : ∃ b, b = w.heap.size := ⟨_, rfl⟩
  rw [← hbP]
  rw [← hbP] at HP
  have HbP : Hid (bP = w.heap.size) := hbP
  clear hbP
  have HN1 : Hid (NetM w1 n s (fun j => I j ∧ j < bP)) := HN.out.kept HP.out.2.1 (fun j e l => ⟨fun f => f, e, by rw [HbP.out]; exact l⟩)
  go_cut [11] from 7 to 11 (fun v11 wc => ∃ b : Bool, v11 = .bool b ∧ wc = w1 ∧ Hid (if b then (s = ns0 ∧ Box w1 n 69 #[.map none, .map none, .map none, .int .i64 0] ∧ I n ∧ n < bP) else ∃ b1 b2 b3 P, NetB w1 n s (fun j => I j ∧ j < bP) b1 b2 b3 P))
  case first =>
    rcases HN1.out with ⟨h1, h2, h3⟩ | ⟨b1, b2, b3, P, h⟩
    · have c0 := h2.cell 0
      simp only [List.getElem?_toArray, List.getElem?_cons_zero, List.getElem?_cons_succ] at c0
      have HH : Hid (s = ns0 ∧ Box w1 n 69 #[.map none, .map none, .map none, .int .i64 0] ∧ I n ∧ n < bP) := ⟨h1, h2, h3⟩
      clear h1 h2 h3
      have he : Sem.run Try.prog (binOp .eql 65 (.map none) (.map none)) w1 = .ok (.bool true) w1 := by kernel_rfl
      go_wp2
      go_meet
      case rel => exact ⟨true, rfl, rfl, HH.out⟩
    · have c0 := h.box.cell 0
      simp only [List.getElem?_toArray, List.getElem?_cons_zero, List.getElem?_cons_succ] at c0
      have HH : Hid (∃ b1 b2 b3 P, NetB w1 n s (fun j => I j ∧ j < bP) b1 b2 b3 P) := ⟨b1, b2, b3, P, h⟩
      clear h
      have he : Sem.run Try.prog (binOp .eql 65 (.map (some b1)) (.map none)) w1 = .ok (.bool false) w1 := by kernel_rfl
      go_wp2
      go_meet
      case rel => exact ⟨false, rfl, rfl, HH.out⟩
  obtain ⟨b, rfl, hwc, HBn⟩ := hcut
  have hwc' := hwc.symm
  clear hwc
  subst hwc'
  go_upto_if 11 with fail
  go_cut [] from 11 to 23 (fun wc => ∃ b1 b2 b3 P, Hid (NetB wc n s (fun j => (I j ∧ j < bP) ∨ bP < j) b1 b2 b3 P ∧ Kept (fun j => j = n) w1 wc))
  case first =>
    cases b
    · obtain ⟨b1, b2, b3, P, h⟩ := HBn.out
      have HH : Hid (NetB w1 n s (fun j => (I j ∧ j < bP) ∨ bP < j) b1 b2 b3 P ∧ Kept (fun j => j = n) w1 w1) := ⟨h.kept (Kept.refl No _) (fun j e _ => ⟨fun f => f, .inl e⟩), Kept.refl _ _⟩
      clear h HBn
      go_wp2
      go_meet
      case rel => exact ⟨b1, b2, b3, P, HH⟩
    · have hb := HBn.out.2.1
      have HH : Hid (s = ns0 ∧ Box w1 n 69 #[.map none, .map none, .map none, .int .i64 0] ∧ I n ∧ n < bP) := HBn.out
      have hx := mk3 hb
      obtain ⟨b0, hb0⟩ : ∃ b, b = w1.heap.size := ⟨_, rfl⟩
      obtain ⟨w2, hw2⟩ : ∃ w2, w2 = ((w1.alloc (.map #[] 0)).alloc (.map #[] 0)).alloc (.map #[] 0) := ⟨_, rfl⟩
      rw [← hw2] at hx
      have f0 := hx.1.frozen 0
      have f1 := hx.1.frozen 1
      have f2 := hx.1.frozen 2
      have c0 := hx.1.cell 0
      have c1 := hx.1.cell 1
      have c2 := hx.1.cell 2
      simp only [List.getElem?_toArray, List.getElem?_cons_zero, List.getElem?_cons_succ] at c0 c1 c2
      have HX : Hid _ := hx
      clear hb hx HBn
      have hm1 : Sem.run Try.prog (Instr.makeMap 65 none) w1 = .ok (.map (some w1.heap.size)) (w1.alloc (.map #[] 0)) := by kernel_rfl
      have hm2 : Sem.run Try.prog (Instr.makeMap 66 none) (w1.alloc (.map #[] 0)) = .ok (.map (some (w1.heap.size + 1))) ((w1.alloc (.map #[] 0)).alloc (.map #[] 0)) := by
        have e : (w1.alloc (.map #[] 0)).heap.size = w1.heap.size + 1 := by simp
        have h := mkm66 (w1.alloc (.map #[] 0))
        rw [e] at h
        exact h
      have hm3 : Sem.run Try.prog (Instr.makeMap 67 none) ((w1.alloc (.map #[] 0)).alloc (.map #[] 0)) = .ok (.map (some (w1.heap.size + 1 + 1))) w2 := by
        have e : ((w1.alloc (.map #[] 0)).alloc (.map #[] 0)).heap.size = w1.heap.size + 1 + 1 := by simp
        have h := mkm67 ((w1.alloc (.map #[] 0)).alloc (.map #[] 0))
        rw [e, ← hw2] at h
        exact h
      clear hw2
      go_wp2
      go_meet
      case rel =>
        obtain ⟨hB, hM1, hM2, hM3, hk⟩ := HX.out
        have hBn : n ≠ w1.heap.size ∧ n ≠ w1.heap.size + 1 ∧ n ≠ w1.heap.size + 1 + 1 := ⟨hB.neMap hM1, hB.neMap hM2, hB.neMap hM3⟩
        have hkS : Kept (fun j => j = n) w2 (((w2.setCell ⟨n, 0, none⟩ (.map (some w1.heap.size))).setCell ⟨n, 1, none⟩ (.map (some (w1.heap.size + 1)))).setCell ⟨n, 2, none⟩ (.map (some (w1.heap.size + 1 + 1)))) := (((Kept.refl (fun j => j = n) w2).setCell (p := ⟨n, 0, none⟩) (fun _ => rfl) _).setCell (p := ⟨n, 1, none⟩) (fun _ => rfl) _).setCell (p := ⟨n, 2, none⟩) (fun _ => rfl) _
        have hs1 : bP < w1.heap.size := by have := HP.out.2.2; have := HbP.out; omega
        refine ⟨w1.heap.size, w1.heap.size + 1, w1.heap.size + 1 + 1, fun _ => (0, 0, 0), ?_, hk.of_no.then hkS⟩
        rw [HH.out.1]
        refine ⟨ns0_ok, ((hB.set 0 _).set 1 _).set 2 _, ?_, ?_, ?_, ⟨by omega, by omega, by omega⟩, fun q h => by simp [ns0] at h, fun q h => by simp [ns0] at h, fun q h => by simp [ns0] at h, ⟨.inl HH.out.2.2, .inr hs1, .inr (by omega), .inr (by omega)⟩, fun q h => by simp [ns0] at h, fun q h => by simp [ns0] at h⟩
        · have e : gS ns0.sent = fun _ => none := by funext p; rfl
          rw [e]
          exact hM1.kept hkS (fun e => hBn.1 e.symm)
        · have e : gP ns0.L = fun _ => none := by funext p; rfl
          rw [e]
          exact hM2.kept hkS (fun e => hBn.2.1 e.symm)
        · have e : gN ns0.L (fun _ => (0, 0, 0)) = fun _ => none := by funext p; rfl
          rw [e]
          exact hM3.kept hkS (fun e => hBn.2.2 e.symm)
  obtain ⟨b1, b2, b3, P, HNc⟩ := hcut
  have hnP : n ≠ bP := fun e => by
    rcases HN.out with ⟨_, h2, _⟩ | ⟨_, _, _, _, h2⟩
    · have := h2.lt; have := HbP.out; omega
    · have := h2.box.lt; have := HbP.out; omega
  have HPc : Hid (Box wc bP 44 #[.bool fc, .int .i64 fi, .int .i64 x, .bool tc, .int .i64 ti, .slice da zs.length dc]) := HP.out.1.kept HNc.out.2 (fun e => hnP e.symm)
  go_upto_region 3 with fail
  refine s3 _ n bP b1 (s.sent (fc, fi)) (fc, fi) (gS s.sent) _ _ _ _ _ _ _ wc _ rfl rfl rfl HNc.out.1.box HPc.out HNc.out.1.m1 (gS_get _ _) (by omega) (fun _ _ t _ _ h => by cases t <;> exact h) ?_
  intro w3 st hm3 hk3
  have HN3 : Hid (NetB w3 n (sentS s (fc, fi)) (fun j => (I j ∧ j < bP) ∨ bP < j) b1 b2 b3 P) := netB_sent HNc.out.1 hm3 hk3
  have HP3 : Hid (Box w3 bP 44 #[.bool fc, .int .i64 fi, .int .i64 x, .bool tc, .int .i64 ti, .slice da zs.length dc]) := HPc.out.kept hk3 (fun e => HPc.out.neMap HNc.out.1.m1 e)
  have HK3 : Hid (Kept (fun j => j = n ∨ j = b1) w1 w3) := (HNc.out.2.mono (fun j _ e => .inl e)).then (hk3.mono (fun j _ e => .inr e))
  clear hm3 hk3
  simp only [Wa.pA, Wa.pB, Wa.p1, Wa.p2, Wa.p3]
  go_upto_region 4 with fail
  refine s4 _ n bP b1 (s.sent (fc, fi) + 1) (fc, fi) _ _ _ _ _ _ _ w3 _ rfl rfl rfl HN3.out.box HP3.out (.inr ⟨b1, _, rfl, HN3.out.m1, by simp [gS, sentS]⟩) (fun _ _ t _ _ h => by cases t <;> exact h) ?_
  intro w4 hk4
  have HN4 : Hid (NetB w4 n (sentS s (fc, fi)) (fun j => (I j ∧ j < bP) ∨ bP < j) b1 b2 b3 P) := HN3.out.no hk4
  have HP4 : Hid (Box w4 bP 44 #[.bool fc, .int .i64 fi, .int .i64 x, .bool tc, .int .i64 ti, .slice da zs.length dc]) := HP3.out.kept hk4 (fun e => e)
  have HK4 : Hid (Kept (fun j => j = n ∨ j = b1) w1 w4) := HK3.out.then hk4.of_no
  clear hk4
  simp only [Wa.pA, Wa.pB, Wa.p1, Wa.p2, Wa.p3]
  have hb1n : b1 ≠ bP := fun e => by have h := HP3.out.neMap HN3.out.m1; exact h e.symm
  have HBy : Hid (∀ W, Kept No w4 W → Bytes W da zs) := fun W hk => by
    by_cases hz0 : zs = []
    · rw [hz0]; exact Nums.nil _ _ _
    have hzp : 0 < zs.length := List.length_pos_iff.2 hz0
    have h1 : Bytes w1 da zs := HB.out.no HP.out.2.1
    have h4 : Bytes w4 da zs := Nums.kept (HB.out.no HP.out.2.1) HK4.out (fun b off e f => by
      have hd := HdI.out hzp b ⟨_, e, rfl⟩
      have hbp := HbP.out
      rcases f with f | f
      · rcases HN.out with ⟨_, _, h3⟩ | ⟨_, _, _, _, h3⟩
        · exact hd.1 (f ▸ h3)
        · exact hd.1 (f ▸ h3.inn.1)
      · rcases HN3.out.inn.2.1 with g | g
        · exact hd.1 (f ▸ g.1)
        · omega)
    exact h4.no hk
  have HCo : Hid (∀ W ra rc, Kept No w4 W → OwnB W w4.heap.size ra rc zs → Calls Try.prog 34 #[.pointer (some ⟨n, 0, none⟩), mkN ((fc, fi), ((s.sent (fc, fi) + 1 : Nat) : Int)), .agg #[.bool tc, .int .i64 ti, .slice ra zs.length rc, .slice none 0 0]] W (CoO I n s b1 b2 b3 bP (fc, fi) (tc, ti) zs W ra rc)) := fun W ra rc hk hO => by
    refine (come_any ⟨((fc, fi), ((s.sent (fc, fi) + 1 : Nat) : Int)), (tc, ti), ra, rc, zs, s.came + 1⟩ (.slice none 0 0) W (HN4.out.no hk) ⟨fun p hp e => ?_, ⟨?_, ?_⟩, Own.lower hO (Nat.zero_le _), .inl ⟨?_, rfl⟩, rfl, hfew⟩).mono (fun e W' h => h)
    · have h := HNc.out.1.ok.cnt p hp
      rw [e] at h
      exact absurd h.2 (by show ¬ ((s.sent (fc, fi) + 1 : Nat) : Int) ≤ (s.sent (fc, fi) : Nat); omega)
    · show (1 : Int) ≤ ((s.sent (fc, fi) + 1 : Nat) : Int); omega
    · show ((s.sent (fc, fi) + 1 : Nat) : Int) ≤ (((sentS s (fc, fi)).sent (fc, fi) : Nat) : Int)
      simp [sentS]
    · show pls s.L _ = []
      unfold pls
      rw [List.map_eq_nil_iff, List.filter_eq_nil_iff]
      intro p hp e
      have h := HNc.out.1.ok.cnt p hp
      rw [isN_iff.1 e] at h
      exact absurd h.2 (by show ¬ ((s.sent (fc, fi) + 1 : Nat) : Int) ≤ (s.sent (fc, fi) : Nat); omega)
  go_upto_region 5 with fail
  refine s5 _ n bP zs.length dc (s.sent (fc, fi) + 1) (fc, fi) (tc, ti) da _ zs (CoO I n s b1 b2 b3 bP (fc, fi) (tc, ti) zs) w4 _ rfl rfl rfl rfl HP4.out (fun W hk => clone_l rfl hl (HBy.out W hk)) HCo.out (fun W ra rc e W' h => ?_) (fun _ _ t _ _ h => by cases t <;> exact h) ?_
  · rcases h with ⟨_, rfl, hk⟩ | ⟨_, rfl, hk, _⟩
    · exact ⟨⟨_, rfl⟩, fun hb => hb.kept hk (fun e => e)⟩
    · exact ⟨⟨_, rfl⟩, fun hb => hb.kept hk (fun e => by rcases e.1 with e | e <;> omega)⟩
  intro wo w5 ra rc b hk5 hO5 hC
  have HC : Hid (CoO I n s b1 b2 b3 bP (fc, fi) (tc, ti) zs w5 ra rc (.returned (.bool b)) wo ∧ Kept No w4 w5 ∧ OwnB w5 w4.heap.size ra rc zs) := ⟨hC, hk5, hO5⟩
  clear hC hk5 hO5
  simp only [Wa.pA, Wa.pB, Wa.p1, Wa.p2, Wa.p3]
  go_wp2
  go_ret2
  have hbp := HbP.out
  have hs1 := HP.out.2.2
  have hs4 := HK4.out.size
  have hs5 := HC.out.2.1.size
  have hNI : I n := by
    rcases HN.out with ⟨_, _, h3⟩ | ⟨_, _, _, _, h3⟩
    · exact h3
    · exact h3.inn.1
  have hn5 : W5 w I n := by
    rcases HN.out with ⟨_, h2, h3⟩ | ⟨_, _, _, _, h3⟩
    · exact W5.box h2 (by decide) h3
    · exact W5.box h3.box (by decide) h3.inn.1
  have K05 : Kept (W5 w I) w w5 := by
    refine ((HP.out.2.1.of_no.trans HK4.out (fun j e => e) (fun j l e => ?_)).then HC.out.2.1.of_no)
    rcases e with e | e
    · rw [e]; exact hn5
    · rcases HN3.out.inn.2.1 with g | g
      · refine ⟨by rw [e]; exact g.1, fun cs fr f => ?_⟩
        have hl1 : j < w1.heap.size := Nat.lt_of_lt_of_le l HP.out.2.1.size
        have hjn : j ≠ n := fun h => HNc.out.1.box.neMap HNc.out.1.m1 (by rw [← h, e])
        have h1 := HNc.out.2.block j hl1 hjn
        rw [HP.out.2.1.block j l (fun e => e), f] at h1
        obtain ⟨es, cl, hb, _⟩ := HNc.out.1.m1
        rw [← e, h1] at hb
        cases hb
      · omega
  have fin : ∀ j, ((I j ∧ j < bP) ∨ bP < j) → (I j ∨ w.heap.size ≤ j) := fun j e => by
    rcases e with e | e
    · exact .inl e.1
    · exact .inr (by omega)
  rcases HC.out.1 with ⟨hge, he, hk6⟩ | ⟨hlt, he, hk6, P', hN6⟩
  · simp only [Ending.returned.injEq, Value.bool.injEq] at he
    subst he
    refine ⟨ra, rc, by rw [decide_eq_false (by omega)]; rfl, K05.then hk6.of_no, ?_⟩
    rw [addS, if_pos (by exact hge)]
    exact .inr ⟨b1, b2, b3, P, HN4.out.kept (HC.out.2.1.then hk6) (fun j e _ => ⟨fun f => f, fin j e⟩)⟩
  · simp only [Ending.returned.injEq, Value.bool.injEq] at he
    subst he
    refine ⟨ra, rc, by rw [decide_eq_true hlt]; rfl, W5.trans K05 hk6 (fun j e => e) (fun j l e => by rcases e with e | e; exact e.1; omega), ?_⟩
    rw [addS, if_neg (by show ¬ 64 ≤ cnP s.L ((fc, fi), (tc, ti)); omega)]
    refine .inr ⟨b1, b2, b3, P', hN6.kept (Kept.refl No _) (fun j e _ => ⟨fun f => f, ?_⟩)⟩
    rcases e with e | e | e
    · exact fin j e
    · exact .inr (by omega)
    · have := Own.base HC.out.2.2 e; exact .inr (by omega)
end

end Go.Proofs.Ytphiokehcgbldaa
