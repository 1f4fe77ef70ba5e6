import Derived.Test.YtphiokehcgbldaaNg
namespace Go.Proofs.Ytphiokehcgbldaa
open Go.RowKit
set_option linter.unusedVariables false
set_option linter.unusedSimpArgs false

theorem three (w : World) (t1 t2 t3 : TypeId) (c1 c2 c3 : Array Value) : Box (((w.alloc (.cells c1 t1)).alloc (.cells c2 t2)).alloc (.cells c3 t3)) w.heap.size t1 c1 ∧ Box (((w.alloc (.cells c1 t1)).alloc (.cells c2 t2)).alloc (.cells c3 t3)) (w.heap.size + 1) t2 c2 ∧ Box (((w.alloc (.cells c1 t1)).alloc (.cells c2 t2)).alloc (.cells c3 t3)) (w.heap.size + 1 + 1) t3 c3 ∧ Kept No w (((w.alloc (.cells c1 t1)).alloc (.cells c2 t2)).alloc (.cells c3 t3)) := by
  have e1 : (w.alloc (.cells c1 t1)).heap.size = w.heap.size + 1 := by simp
  have e2 : ((w.alloc (.cells c1 t1)).alloc (.cells c2 t2)).heap.size = w.heap.size + 1 + 1 := by simp
  have h2 := (Box.new (w.alloc (.cells c1 t1)) t2 c2).alloc (.cells c3 t3)
  have h3 := Box.new ((w.alloc (.cells c1 t1)).alloc (.cells c2 t2)) t3 c3
  rw [e1] at h2
  rw [e2] at h3
  exact ⟨((Box.new _ _ _).alloc _).alloc _, h2, h3, (((Kept.refl No w).alloc _).alloc _).alloc _⟩
theorem two (w : World) (t1 t2 : TypeId) (c1 c2 : Array Value) : Box ((w.alloc (.cells c1 t1)).alloc (.cells c2 t2)) w.heap.size t1 c1 ∧ Box ((w.alloc (.cells c1 t1)).alloc (.cells c2 t2)) (w.heap.size + 1) t2 c2 ∧ Kept No w ((w.alloc (.cells c1 t1)).alloc (.cells c2 t2)) := by
  have e1 : (w.alloc (.cells c1 t1)).heap.size = w.heap.size + 1 := by simp
  have h2 := Box.new (w.alloc (.cells c1 t1)) t2 c2
  rw [e1] at h2
  exact ⟨(Box.new _ _ _).alloc _, h2, ((Kept.refl No w).alloc _).alloc _⟩
theorem clone_l {da : Option Addr} {l dc : Nat} {zs : List Int} {W : World} (hz : zs.length = l) (hl : l ≤ 140737488355328) (hb : Bytes W da zs) : Calls Try.prog 35 #[.slice da l dc] W fun e W' => ∃ ra rc, e = .returned (.slice ra l rc) ∧ OwnB W' W.heap.size ra rc zs ∧ Kept No W W' := by
  refine (clone_any da l dc zs W hz hl hb).mono ?_
  rintro e W' ⟨a', cap', rfl, h1, h2, _⟩
  exact ⟨a', cap', by rw [hz], h1, h2⟩
/-- A Net in memory. -/
def NetM (w : World) (n : Nat) (s : Ns) (I : Nat → Prop) : Prop :=
  (s = ns0 ∧ Box w n 69 #[.map none, .map none, .map none, .int .i64 0] ∧ I n) ∨ ∃ b1 b2 b3 P, NetB w n s I b1 b2 b3 P
section
variable {S I I' : Nat → Prop} {w w' : World} {n : Nat} {s : Ns}
theorem NetM.kept (h : NetM w n s I) (hk : Kept S w w') (hS : ∀ k, I k → k < w.heap.size → ¬ S k ∧ I' k) : NetM w' n s I' := by
  rcases h with ⟨h1, h2, h3⟩ | ⟨b1, b2, b3, P, h⟩
  · exact .inl ⟨h1, h2.kept hk (hS n h3 h2.lt).1, (hS n h3 h2.lt).2⟩
  · exact .inr ⟨b1, b2, b3, P, h.kept hk hS⟩
theorem NetM.no (h : NetM w n s I) (hk : Kept No w w') : NetM w' n s I := h.kept hk (fun k e _ => ⟨fun f => f, e⟩)
theorem NetM.cut (h : NetM w n s I) : NetM w n s (fun k => I k ∧ k < w.heap.size) := h.kept (Kept.refl No w) (fun k e l => ⟨fun f => f, e, l⟩)
theorem NetM.ok (h : NetM w n s I) : NOk s := by
  rcases h with ⟨h1, h2, h3⟩ | ⟨b1, b2, b3, P, h⟩
  · rw [h1]; exact ns0_ok
  · exact h.ok
end
section
set_option maxRecDepth 100000 in
set_option maxHeartbeats 8000000 in
theorem new_net (w : World) : Calls Try.prog 8 #[] w (fun e w' => e = .returned (.pointer (some ⟨w.heap.size, 0, none⟩)) ∧ NetM w' w.heap.size ns0 (fun k => k = w.heap.size) ∧ Kept No w w') := by
  go_enter Try.func8, Try.ntmps8
  go_wp2
  go_ret
  exact ⟨rfl, .inl ⟨rfl, Box.new _ _ _, rfl⟩, (Kept.refl No w).alloc _⟩
set_option maxRecDepth 100000 in
set_option maxHeartbeats 8000000 in
theorem told_any (k : Nm) (p : Ad) (da : Option Addr) (l dc : Nat) (pv : Value) (zs : List Int) (w : World) (hz : zs.length = l) (hl : l ≤ 140737488355328) (hb : Bytes w da zs) (hpv : pv.oneCell' = true) :
    Calls Try.prog 37 #[.agg #[.bool k.1.1, .int .i64 k.1.2, .int .i64 k.2], .agg #[.bool p.1, .int .i64 p.2, .slice da l dc, pv]] w (fun e w' => ∃ ra rc, e = .returned (.agg #[.bool k.1.1, .int .i64 k.1.2, .int .i64 k.2, .bool p.1, .int .i64 p.2, .slice ra l rc]) ∧ OwnB w' w.heap.size ra rc zs ∧ Kept No w w') := by
  have HB : Hid (Bytes w da zs) := hb
  have HZ : Hid (zs.length = l) := hz
  clear hb hz
  obtain ⟨⟨kc, ki⟩, kn⟩ := k
  obtain ⟨pc, pi⟩ := p
  simp only
  go_enter Try.func37, Try.ntmps37
  go_upto_region 1 with fail
  have h3 := three w 79 81 44 #[.bool kc, .int .i64 ki, .int .i64 kn] #[.bool pc, .int .i64 pi, .slice da l dc, pv] #[.bool false, .int .i64 0, .int .i64 0, .bool false, .int .i64 0, .slice none 0 0]
  generalize ((w.alloc (.cells #[.bool kc, .int .i64 ki, .int .i64 kn] 79)).alloc (.cells #[.bool pc, .int .i64 pi, .slice da l dc, pv] 81)).alloc (.cells #[.bool false, .int .i64 0, .int .i64 0, .bool false, .int .i64 0, .slice none 0 0] 44) = w3 at h3 ⊢
  obtain ⟨hbK, hbA, hbR, hk3⟩ := h3
  have hs1 : w.heap.size ≤ w.heap.size + 1 + 1 := by omega
  generalize w.heap.size + 1 + 1 = bR at hbR hs1 ⊢
  refine t1 _ _ _ bR l dc ((kc, ki), kn) (pc, pi) da pv _ zs w3 _ rfl rfl rfl rfl hbK hbA hbR rfl (fun W hk => clone_l HZ.out hl ((HB.out.no hk3).no hk)) (fun _ _ t _ _ h => by cases t <;> exact h) ?_
  intro wo w1 ra rc hk1 hO hwo hBo
  have HR : Hid (Kept No w3 w1 ∧ OwnB w1 w3.heap.size ra rc zs ∧ wo = w1.setRow bR #[.bool kc, .int .i64 ki, .int .i64 kn, .bool pc, .int .i64 pi, .slice ra l rc] ∧ Box wo bR 44 #[.bool kc, .int .i64 ki, .int .i64 kn, .bool pc, .int .i64 pi, .slice ra l rc]) := ⟨hk1, hO, hwo, hBo⟩
  have HK3 : Hid (Kept No w w3 ∧ Box w3 bR 44 #[.bool false, .int .i64 0, .int .i64 0, .bool false, .int .i64 0, .slice none 0 0]) := ⟨hk3, hbR⟩
  clear hk1 hO hwo hBo hbK hbA hbR hk3
  simp only [Wa.pA, Wa.pB, Wa.p1, Wa.p2, Wa.p3]
  go_wp2
  refine bodyPost_ret (Wa.results_row1 (by rfl) _ _ bR #[.bool kc, .int .i64 ki, .int .i64 kn, .bool pc, .int .i64 pi, .slice ra l rc] (by rfl) (run_loadVar_row wo bR 44 44 _ (0, 0) _ HR.out.2.2.2 Try.underlying44 rfl (by kernel_rfl))) rfl ?_
  have hw := HR.out.2.2.1
  subst hw
  have hne : ¬ At ra bR := Own.neBox HR.out.2.1 (HK3.out.2.kept HR.out.1 (fun e => e)) (by decide)
  exact ⟨ra, rc, rfl, Own.lower (Own.kept HR.out.2.1 (Wa.Kept.setRow _ _ _) (fun j e f => hne ((show j = bR from f) ▸ e))) HK3.out.1.size, (HK3.out.1.then HR.out.1).trans (Wa.Kept.setRow _ _ _) (fun _ e => e) (fun j l e => by have e : j = bR := e; omega)⟩
end

end Go.Proofs.Ytphiokehcgbldaa
