import Derived.Test.YtphiokehcgbldaaNh
namespace Go.Proofs.Ytphiokehcgbldaa
open Go.RowKit
set_option linter.unusedVariables false
set_option linter.unusedSimpArgs false

/-- What leave answers. -/
def LvOut (w : World) (n : Nat) (s : Ns) (I : Nat → Prop) (k : Nm) (e : Ending) (w' : World) : Prop :=
  (s.L.find? (isN k) = none ∧ e = .returned (.tuple #[zAl, .bool false]) ∧ Kept No w w') ∨ (∃ q pv, s.L.find? (isN k) = some q ∧ (∃ x y z, pv = Value.slice x y z) ∧ e = .returned (.tuple #[alV q pv, .bool true]) ∧ Kept (W5 w I) w w' ∧ OwnB w' 0 q.da q.dc q.zs ∧ NetM w' n ⟨s.sent, rmN k s.L, s.came⟩ (fun j => I j ∨ w.heap.size ≤ j))
theorem leave_any {I : Nat → Prop} {n : Nat} {s : Ns} (k : Nm) (w : World) (h : NetM w n s I) : Calls Try.prog 36 #[.pointer (some ⟨n, 0, none⟩), .agg #[.bool k.1.1, .int .i64 k.1.2, .int .i64 k.2]] w (LvOut w n s I k) := by
  rcases h with ⟨h1, h2, h3⟩ | ⟨b1, b2, b3, P, h⟩
  · refine (leave_none n _ _ _ _ k w h2 (.inl ⟨rfl, rfl⟩)).mono ?_
    rintro e w' ⟨he, hk⟩
    exact .inl ⟨by rw [h1]; rfl, he, hk⟩
  · cases hf : s.L.find? (isN k) with
    | none =>
      refine (leave_none n _ _ _ _ k w h.box (.inr ⟨b3, _, rfl, h.m3, gN_miss hf⟩)).mono ?_
      rintro e w' ⟨he, hk⟩
      exact .inl ⟨hf, he, hk⟩
    | some q =>
      refine (leave_some q k w h hf).mono ?_
      rintro e w' ⟨pv, h1, he, hk, hO, P', hN⟩
      exact .inr ⟨q, pv, hf, h1, he, hk, hO, .inr ⟨b1, b2, b3, P', hN⟩⟩
def zPk : Array Value := #[.bool false, .int .i64 0, .int .i64 0, .bool false, .int .i64 0, .slice none 0 0]
def pkC (q : Pq) (ra : Option Addr) (rc : Nat) : Array Value := #[.bool q.nm.1.1, .int .i64 q.nm.1.2, .int .i64 q.nm.2, .bool q.to'.1, .int .i64 q.to'.2, .slice ra q.zs.length rc]
section
set_option maxRecDepth 100000 in
set_option maxHeartbeats 8000000 in
theorem deliver_any {I : Nat → Prop} {n : Nat} {s : Ns} (f : Ad) (c : Int) (w : World) (h : NetM w n s I) (hzl : ∀ q ∈ s.L, q.zs.length ≤ 140737488355328) :
    Calls Try.prog 15 #[.pointer (some ⟨n, 0, none⟩), .agg #[.bool f.1, .int .i64 f.2], .int .i64 c] w (fun e w' => (s.L.find? (isN (f, c)) = none ∧ e = .returned (.tuple #[.agg zPk, .int .i64 150]) ∧ Kept No w w') ∨ (∃ q ra rc, s.L.find? (isN (f, c)) = some q ∧ e = .returned (.tuple #[.agg (pkC q ra rc), .int .i64 0]) ∧ OwnB w' w.heap.size ra rc q.zs ∧ Kept (W5 w I) w w' ∧ NetM w' n ⟨s.sent, rmN (f, c) s.L, s.came⟩ (fun j => (I j ∨ w.heap.size ≤ j) ∧ ¬ At ra j))) := by
  have HN : Hid (NetM w n s I) := h
  have HZ : Hid (∀ q ∈ s.L, q.zs.length ≤ 140737488355328) := hzl
  clear h hzl
  obtain ⟨fc, fi⟩ := f
  simp only
  go_enter Try.func15, Try.ntmps15
  go_wp2_with fail
  have h3 := three w 34 44 79 #[.bool fc, .int .i64 fi] #[.bool false, .int .i64 0, .int .i64 0, .bool false, .int .i64 0, .slice none 0 0] #[.bool fc, .int .i64 fi, .int .i64 c]
  generalize ((w.alloc (.cells #[.bool fc, .int .i64 fi] 34)).alloc (.cells #[.bool false, .int .i64 0, .int .i64 0, .bool false, .int .i64 0, .slice none 0 0] 44)).alloc (.cells #[.bool fc, .int .i64 fi, .int .i64 c] 79) = w3 at h3 ⊢
  obtain ⟨hbA, hbR, hbK, hk3⟩ := h3
  have hs1 : w.heap.size ≤ w.heap.size + 1 := by omega
  have hs2 : w.heap.size ≤ w.heap.size + 1 + 1 := by omega
  generalize w.heap.size + 1 + 1 = bK at hbK hs2 ⊢
  generalize w.heap.size + 1 = bR at hbR hs1 ⊢
  have HBR : Hid (Box w3 bR 44 #[.bool false, .int .i64 0, .int .i64 0, .bool false, .int .i64 0, .slice none 0 0] ∧ w.heap.size ≤ bR) := ⟨hbR, hs1⟩
  have HBK : Hid (Box w3 bK 79 #[.bool fc, .int .i64 fi, .int .i64 c] ∧ w.heap.size ≤ bK) := ⟨hbK, hs2⟩
  have HK3 : Hid (Kept No w w3) := hk3
  have HN3 : Hid (NetM w3 n s (fun j => I j ∧ j < w.heap.size)) := HN.out.kept hk3 (fun j e l => ⟨fun f => f, e, l⟩)
  clear hbA hbR hbK hk3 hs1 hs2
  refine Calls.mono (leave_any ((fc, fi), c) w3 HN3.out) ?_
  rintro e w4 (⟨hf, rfl, hk4⟩ | ⟨q, pv, hf, hpv, rfl, hk4, hO4, hN4⟩)
  · have HBR4 : Hid (Box w4 bR 44 #[.bool false, .int .i64 0, .int .i64 0, .bool false, .int .i64 0, .slice none 0 0]) := HBR.out.1.kept hk4 (fun e => e)
    have HK4 : Hid (Kept No w w4) := HK3.out.then hk4
    have HF : Hid (s.L.find? (isN ((fc, fi), c)) = none) := hf
    clear hk4 hf
    simp only [zAl]
    go_upto_region 4 with fail
    have h5 : Kept No w4 (w4.alloc (.cells #[.bool false, .int .i64 0, .slice none 0 0, .slice none 0 0] 81)) := (Kept.refl No _).alloc _
    generalize w4.alloc (.cells #[.bool false, .int .i64 0, .slice none 0 0, .slice none 0 0] 81) = w5 at h5 ⊢
    have HBR5 : Hid (Box w5 bR 44 #[.bool false, .int .i64 0, .int .i64 0, .bool false, .int .i64 0, .slice none 0 0]) := HBR4.out.kept h5 (fun e => e)
    have HK5 : Hid (Kept No w w5) := HK4.out.then h5
    clear h5
    go_wp2_with (refine wpList_store_row rfl 44 _ _ rfl bR #[.bool false, .int .i64 0, .int .i64 0, .bool false, .int .i64 0, .slice none 0 0] rfl rfl 44 _ HBR5.out (by kernel_rfl) rfl (by simp [Value.oneCell']) ?_)
    refine bodyPost_ret (Wa.results_row_tmp (by rfl) _ _ bR #[.bool false, .int .i64 0, .int .i64 0, .bool false, .int .i64 0, .slice none 0 0] (by rfl) (run_loadVar_row _ bR 44 44 _ (0, 0) _ (Wa.Box.setRow HBR5.out _) Try.underlying44 rfl (by kernel_rfl))) rfl ?_
    exact .inl ⟨HF.out, rfl, HK5.out.trans (Wa.Kept.setRow _ _ _) (fun _ e => e) (fun j l e => by have e : j = bR := e; have := HBR.out.2; omega)⟩
  · have HBR4 : Hid (Box w4 bR 44 #[.bool false, .int .i64 0, .int .i64 0, .bool false, .int .i64 0, .slice none 0 0]) := HBR.out.1.kept hk4 (fun e => by have := e.1.2; have := HBR.out.2; omega)
    have HBK4 : Hid (Box w4 bK 79 #[.bool fc, .int .i64 fi, .int .i64 c]) := HBK.out.1.kept hk4 (fun e => by have := e.1.2; have := HBK.out.2; omega)
    have HF : Hid (s.L.find? (isN ((fc, fi), c)) = some q ∧ OwnB w4 0 q.da q.dc q.zs ∧ NetM w4 n ⟨s.sent, rmN ((fc, fi), c) s.L, s.came⟩ (fun j => (I j ∧ j < w.heap.size) ∨ w3.heap.size ≤ j)) := ⟨hf, hO4, hN4⟩
    have HK4 : Hid (Kept (W5 w (fun j => I j ∧ j < w.heap.size)) w w4) := W5.trans (I := No) HK3.out.of_no hk4 (fun _ e => e.elim) (fun _ _ e => e)
    clear hk4 hf hO4 hN4
    obtain ⟨xa, xn, xc, rfl⟩ := hpv
    obtain ⟨hqL, hqn⟩ := find_mem HF.out.1
    have HQ : Hid (q ∈ s.L ∧ q.nm = ((fc, fi), c)) := ⟨hqL, hqn⟩
    clear hqL hqn
    obtain ⟨qn, ⟨tc, ti⟩, da, dc, zs, pl⟩ := q
    simp only at HF HQ
    simp only [alV]
    go_upto_region 5 with fail
    have h5 : Kept No w4 (w4.alloc (.cells #[.bool tc, .int .i64 ti, .slice da zs.length dc, .slice xa xn xc] 81)) ∧ Box (w4.alloc (.cells #[.bool tc, .int .i64 ti, .slice da zs.length dc, .slice xa xn xc] 81)) w4.heap.size 81 #[.bool tc, .int .i64 ti, .slice da zs.length dc, .slice xa xn xc] := ⟨(Kept.refl No _).alloc _, Box.new _ _ _⟩
    generalize w4.alloc (.cells #[.bool tc, .int .i64 ti, .slice da zs.length dc, .slice xa xn xc] 81) = w5 at h5 ⊢
    generalize w4.heap.size = bG at h5 ⊢
    have HK5 : Hid (Kept No w4 w5) := h5.1
    have k0 := (HBK4.out.kept h5.1 (fun e => e)).cell 0
    have k1 := (HBK4.out.kept h5.1 (fun e => e)).cell 1
    have k2 := (HBK4.out.kept h5.1 (fun e => e)).cell 2
    have g0 := h5.2.cell 0
    have g1 := h5.2.cell 1
    have g2 := h5.2.cell 2
    have g3 := h5.2.cell 3
    simp only [List.getElem?_toArray, List.getElem?_cons_zero, List.getElem?_cons_succ] at k0 k1 k2 g0 g1 g2 g3
    clear h5
    go_wp2_with fail
    refine Calls.mono (told_any ((fc, fi), c) (tc, ti) da zs.length dc (.slice xa xn xc) zs w5 rfl (HZ.out _ HQ.out.1) (HF.out.2.1.bytes.no HK5.out) rfl) ?_
    rintro e w6 ⟨ra, rc, rfl, hO6, hk6⟩
    have HO6 : Hid (OwnB w6 w5.heap.size ra rc zs ∧ Kept No w5 w6) := ⟨hO6, hk6⟩
    have HBR6 : Hid (Box w6 bR 44 #[.bool false, .int .i64 0, .int .i64 0, .bool false, .int .i64 0, .slice none 0 0]) := (HBR4.out.kept HK5.out (fun e => e)).kept hk6 (fun e => e)
    clear hO6 hk6 k0 k1 k2 g0 g1 g2 g3
    simp only
    go_wp2_with (refine wpList_store_row rfl 44 _ _ rfl bR #[.bool fc, .int .i64 fi, .int .i64 c, .bool tc, .int .i64 ti, .slice ra zs.length rc] rfl rfl 44 _ HBR6.out (by kernel_rfl) rfl (by simp [Value.oneCell']) ?_)
    refine bodyPost_ret (Wa.results_row_tmp (by rfl) _ _ bR #[.bool fc, .int .i64 fi, .int .i64 c, .bool tc, .int .i64 ti, .slice ra zs.length rc] (by rfl) (run_loadVar_row _ bR 44 44 _ (0, 0) _ (Wa.Box.setRow HBR6.out _) Try.underlying44 rfl (by kernel_rfl))) rfl ?_
    have s34 := HK3.out.size
    have s4 := HK4.out.size
    have s5 := HK5.out.size
    have hbR := HBR.out.2
    have hbl : bR < w4.heap.size := HBR4.out.lt
    have hne : ¬ At ra bR := fun e => by have := Own.base HO6.out.1 e; omega
    have KR : Kept (Only bR) w6 (w6.setRow bR #[.bool fc, .int .i64 fi, .int .i64 c, .bool tc, .int .i64 ti, .slice ra zs.length rc]) := Wa.Kept.setRow _ _ _
    refine .inr ⟨_, ra, rc, HF.out.1, ?_, Own.lower (Own.kept HO6.out.1 KR (fun j e f => hne ((show j = bR from f) ▸ e))) (by omega), ?_, ?_⟩
    · rw [show (pkC ⟨qn, (tc, ti), da, dc, zs, pl⟩ ra rc) = #[.bool fc, .int .i64 fi, .int .i64 c, .bool tc, .int .i64 ti, .slice ra zs.length rc] by rw [pkC, HQ.out.2]]
      rfl
    · exact (((W5.mono HK4.out (fun j l e => e.1)).then (HK5.out.of_no.then HO6.out.2.of_no))).trans KR (fun _ e => e) (fun j l e => by have e : j = bR := e; omega)
    · refine (HF.out.2.2.cut.no (HK5.out.then HO6.out.2)).kept KR (fun j e l => ⟨fun f => ?_, ?_, fun f => ?_⟩)
      · have f : j = bR := f
        rcases e.1 with e | e
        · have := e.2; omega
        · have hb := HBR.out.1.lt; omega
      · rcases e.1 with e | e
        · exact .inl e.1
        · exact .inr (by omega)
      · have hb := Own.base HO6.out.1 f
        have := e.2
        omega
end

end Go.Proofs.Ytphiokehcgbldaa
