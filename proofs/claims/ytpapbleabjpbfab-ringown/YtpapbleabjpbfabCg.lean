import Derived.Test.YtpapbleabjpbfabBz
namespace Go.Proofs.Ytpapbleabjpbfab
open Go.RowKit
set_option linter.unusedVariables false

set_option maxRecDepth 100000 in
set_option maxHeartbeats 4000000 in
theorem config_any (base r : Nat) (zs : List Int) (f : Int) (p : Nat) (bu bl ro : Int) (ps : List (Int × Int)) (w : World) (hr : RingAt w base r zs f p bu bl ro ps) (h1 : 1 ≤ zs.length) (h64 : zs.length ≤ 64) :
    Calls Try.prog 20 #[.pointer (some ⟨r, 0, none⟩)] w fun e w' => ∃ g c, e = .returned (cfgV (.slice (some ⟨g, 0, none⟩) zs.length c) f p bu bl ro) ∧ Own 3 1 w' w.heap.size (some ⟨g, 0, none⟩) c zs.length (zs.map (Value.int .i64)) ∧ Kept No w w' := by
  have HR : Hid (RingAt w base r zs f p bu bl ro ps) := hr
  clear hr
  obtain ⟨sg, sc, pg, pc, n, m, rfl, hm, hb, ho, hp, hbr⟩ := HR.out
  have HO : Hid (Own 3 1 w base (some ⟨sg, 0, none⟩) sc zs.length (zs.map (Value.int .i64))) := ho
  have r0 := hb.cell 0
  have r1 := hb.cell 1
  have r2 := hb.cell 2
  have r3 := hb.cell 3
  have r4 := hb.cell 4
  have r5 := hb.cell 5
  have HBx : Hid (∀ o, Box (w.alloc o) r 65 _) := fun o => hb.alloc o
  have k0 := fun o => (hb.alloc o).cell 0
  have k1 := fun o => (hb.alloc o).cell 1
  have k2 := fun o => (hb.alloc o).cell 2
  have k3 := fun o => (hb.alloc o).cell 3
  have k4 := fun o => (hb.alloc o).cell 4
  have k5 := fun o => (hb.alloc o).cell 5
  simp only [List.getElem?_toArray, List.getElem?_cons_zero, List.getElem?_cons_succ] at r0 r1 r2 r3 r4 r5 k0 k1 k2 k3 k4 k5
  clear hb ho hp hm hbr
  go_enter Try.func20, Try.ntmps20
  go_wp2_with fail
  obtain ⟨w0, hw0⟩ : ∃ w0, w0 = (w.alloc (.cells #[.slice none 0 0, .int .i64 0, .int .i64 0, .int .i64 0, .int .i64 0, .int .i64 0] 24)).alloc (.cells #[.slice (some ⟨sg, 0, none⟩) zs.length sc, .int .i64 f, .int .i64 p, .int .i64 bu, .int .i64 bl, .int .i64 ro] 24) := ⟨_, rfl⟩
  rw [← hw0]
  obtain ⟨rb, hrb⟩ : ∃ rb, rb = w.heap.size := ⟨_, rfl⟩
  have HR0 : Hid (Box w0 rb 24 #[.slice none 0 0, .int .i64 0, .int .i64 0, .int .i64 0, .int .i64 0, .int .i64 0]) := by rw [hw0, hrb]; exact (Box.new _ _ _).alloc _
  have HC0 : Hid (Box w0 (rb + 1) 24 #[.slice (some ⟨sg, 0, none⟩) zs.length sc, .int .i64 f, .int .i64 p, .int .i64 bu, .int .i64 bl, .int .i64 ro]) := by
    rw [hw0, hrb]; show Box _ _ _ _
    have := Box.new (w.alloc (.cells #[.slice none 0 0, .int .i64 0, .int .i64 0, .int .i64 0, .int .i64 0, .int .i64 0] 24)) 24 #[.slice (some ⟨sg, 0, none⟩) zs.length sc, .int .i64 f, .int .i64 p, .int .i64 bu, .int .i64 bl, .int .i64 ro]
    simpa using this
  have HK0 : Hid (Kept No w w0) := by rw [hw0]; exact ((Kept.refl No w).alloc _).alloc _
  have HRb : Hid (rb = w.heap.size) := hrb
  have HZ0 : Hid (rb + 2 ≤ w0.heap.size) := HC0.out.lt
  rw [← hrb]
  clear hw0 hrb r0 r1 r2 r3 r4 r5 k0 k1 k2 k3 k4 k5 HBx
  refine Calls.mono (clone_any (some ⟨sg, 0, none⟩) sc zs w0 h1 h64 (Own.nums (HO.out.no HK0.out) rfl)) ?_
  rintro e w1 ⟨g, c, rfl, ho1, hk1⟩
  have HO1 : Hid (Own 3 1 w1 w0.heap.size (some ⟨g, 0, none⟩) c zs.length (zs.map (Value.int .i64))) := ho1
  have HR1 : Hid (Box w1 rb 24 #[.slice none 0 0, .int .i64 0, .int .i64 0, .int .i64 0, .int .i64 0, .int .i64 0]) := HR0.out.kept hk1 (fun e => e)
  have HC1 : Hid (Box w1 (rb + 1) 24 #[.slice (some ⟨sg, 0, none⟩) zs.length sc, .int .i64 f, .int .i64 p, .int .i64 bu, .int .i64 bl, .int .i64 ro]) := HC0.out.kept hk1 (fun e => e)
  have HK1 : Hid (Kept No w w1) := HK0.out.then hk1
  clear ho1 hk1 HR0 HC0
  have c0 := HC1.out.cell 0
  have c1 := HC1.out.cell 1
  have c2 := HC1.out.cell 2
  have c3 := HC1.out.cell 3
  have c4 := HC1.out.cell 4
  have c5 := HC1.out.cell 5
  have s0 := HR1.out.cell 0
  have s1 := HR1.out.cell 1
  have s2 := HR1.out.cell 2
  have s3 := HR1.out.cell 3
  have s4 := HR1.out.cell 4
  have s5 := HR1.out.cell 5
  simp only [List.getElem?_toArray, List.getElem?_cons_zero, List.getElem?_cons_succ] at c0 c1 c2 c3 c4 c5 s0 s1 s2 s3 s4 s5
  have f0 := HC1.out.frozen 0
  have r0 := HR1.out.frozen 0
  have r1 := HR1.out.frozen 1
  have r2 := HR1.out.frozen 2
  have r3 := HR1.out.frozen 3
  have r4 := HR1.out.frozen 4
  have r5 := HR1.out.frozen 5
  go_wp2
  refine bodyPost_ret (v := cfgV (.slice (some ⟨g, 0, none⟩) zs.length c) f p bu bl ro) (by simp [results, Try.results20, go_sem, s0, s1, s2, s3, s4, s5]) rfl ⟨g, c, rfl, ?_, ?_⟩
  · refine (Own.kept (S := fun k => k = rb ∨ k = rb + 1) HO1.out ?_ ?_).lower (by have := HRb.out; have := HZ0.out; omega)
    · exact (((((((Kept.refl _ w1).setCell (p := ⟨rb + 1, 0, none⟩) (fun _ => .inr rfl) _).setCell (p := ⟨rb, 0, none⟩) (fun _ => .inl rfl) _).setCell (p := ⟨rb, 1, none⟩) (fun _ => .inl rfl) _).setCell (p := ⟨rb, 2, none⟩) (fun _ => .inl rfl) _).setCell (p := ⟨rb, 3, none⟩) (fun _ => .inl rfl) _).setCell (p := ⟨rb, 4, none⟩) (fun _ => .inl rfl) _).setCell (p := ⟨rb, 5, none⟩) (fun _ => .inl rfl) _
    · intro k hk e
      have := Own.base HO1.out hk
      have := HZ0.out
      omega
  · exact ((((((HK1.out.setCell (p := ⟨rb + 1, 0, none⟩) (fun h => by have := HRb.out; simp at h; omega) _).setCell (p := ⟨rb, 0, none⟩) (fun h => by have := HRb.out; simp at h; omega) _).setCell (p := ⟨rb, 1, none⟩) (fun h => by have := HRb.out; simp at h; omega) _).setCell (p := ⟨rb, 2, none⟩) (fun h => by have := HRb.out; simp at h; omega) _).setCell (p := ⟨rb, 3, none⟩) (fun h => by have := HRb.out; simp at h; omega) _).setCell (p := ⟨rb, 4, none⟩) (fun h => by have := HRb.out; simp at h; omega) _).setCell (p := ⟨rb, 5, none⟩) (fun h => by have := HRb.out; simp at h; omega) _

set_option maxRecDepth 100000 in
set_option maxHeartbeats 4000000 in
theorem sameConfig_any (a b : Option Addr) (ca cb : Nat) (zs : List Int) (f p bu bl ro : Int) (w : World) (hm : zs.length ≤ 64) (ha : Nums .i64 w a zs) (hb : Nums .i64 w b zs) :
    Calls Try.prog 19 #[cfgV (.slice a zs.length ca) f p bu bl ro, cfgV (.slice b zs.length cb) f p bu bl ro] w fun e w' => e = .returned (.bool true) ∧ Kept No w w' := by
  have HA : Hid (Nums .i64 w a zs) := ha
  have HB : Hid (Nums .i64 w b zs) := hb
  clear ha hb
  go_enter Try.func19, Try.ntmps19
  go_wp2_with fail
  obtain ⟨w0, hw0⟩ : ∃ w0, w0 = (w.alloc (.cells #[.slice a zs.length ca, .int .i64 f, .int .i64 p, .int .i64 bu, .int .i64 bl, .int .i64 ro] 24)).alloc (.cells #[.slice b zs.length cb, .int .i64 f, .int .i64 p, .int .i64 bu, .int .i64 bl, .int .i64 ro] 24) := ⟨_, rfl⟩
  rw [← hw0]
  have HK0 : Hid (Kept No w w0) := by rw [hw0]; exact ((Kept.refl No w).alloc _).alloc _
  clear hw0
  refine (sameInts_any _ _ _ _ zs zs _ (by omega) (by omega) (HA.out.no HK0.out) (HB.out.no HK0.out)).mono ?_
  rintro e w1 ⟨rfl, n, rfl⟩
  rw [eqB_refl]
  go_wp2
  go_ret
  exact ⟨rfl, HK0.out.drewN _⟩

end Go.Proofs.Ytpapbleabjpbfab
