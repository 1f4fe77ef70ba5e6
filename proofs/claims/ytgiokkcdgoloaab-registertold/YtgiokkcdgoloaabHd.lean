import Derived.Test.YtgiokkcdgoloaabHc
namespace Go.Proofs.Ytgiokkcdgoloaab
open Go.RowKit
set_option linter.unusedVariables false
set_option linter.unusedSimpArgs false

theorem meth_keepW (cl : Int) (da : Option Addr) (dl dc : Nat) (w : World) : (method 280 96 (.agg #[.int .i64 cl, .slice da dl dc]) "cairn/register.keep").run Try.prog w = .ok (67, .agg #[.int .i64 cl, .slice da dl dc]) w := by kernel_rfl
theorem meth_keepR (sz : Int) (w : World) : (method 280 93 (.agg #[.int .i64 sz]) "cairn/register.keep").run Try.prog w = .ok (66, .agg #[.int .i64 sz]) w := by kernel_rfl

/-- A message is read whole, within a region that draws. -/
def loadS (x : Addr) := loadVar 73 x
theorem loadS_eq (x : Addr) : loadVar 73 x = loadS x := rfl
theorem run_loadS (g : Nat) (d : MD) (w : World) (hb : Box w g 73 d.cells) (hk : MdOk d) : Sem.run Try.prog (loadS ⟨g, 0, none⟩) w = .ok (.agg d.cells) w := load52_run hb (MD.size hk)

def TakeNo (w : World) (m : Nat) (a : Option Addr) (cap : Nat) (x : MS) (t : TypeId) (v : Value) (tb bb ct : Nat) (at' : Option Addr) (X : TS Bk) (fi kn kc : Int) (kz : List Int) (e : Ending) (w' : World) : Prop :=
  ∃ ka kk, e = .returned (.slice none 0 0) ∧ Tal 153 ansB w' tb bb at' ct (takeS X fi ⟨kn, kc, ka, kz.length, kk⟩) ∧ Mach w' m a cap x t v ∧ OwnB w' w.heap.size ka kk kz ∧ Kept (Tb2 tb bb) w w'

section
attribute [local go_sem ↓] loadS_eq

set_option maxRecDepth 100000 in
set_option maxHeartbeats 4000000 in
theorem takeA_noW (m : Nat) (a : Option Addr) (cap : Nat) (x : MS) (av : Value) (tb bb ct : Nat) (at' : Option Addr) (X : TS Bk) (d : MD) (kn kc : Int) (kz : List Int) (w : World) (hM : Mach w m a cap x 150 (.agg #[.iface 96 av, .pointer (some ⟨tb, 0, none⟩)])) (hT : Tal 153 ansB w tb bb at' ct X) (hok : MdOk d) (hhit : hitB x 11 d = true)
    (hmk : ∀ w, (method 280 96 av "cairn/register.keep").run Try.prog w = .ok (67, av) w) (hkp : ∀ wr, Kept No w wr → Calls Try.prog 67 #[av, .agg d.cells] wr (KeepOut wr kn kc kz)) (htb : takeB X d.fi = false) (hd : ∀ k, MB m a k → ¬ Tb2 tb bb k) :
    Calls Try.prog 84 #[.agg #[.iface 96 av, .pointer (some ⟨tb, 0, none⟩)], .pointer (some ⟨m, 0, none⟩), .agg d.cells] w (TakeNo w m a cap x 150 (.agg #[.iface 96 av, .pointer (some ⟨tb, 0, none⟩)]) tb bb ct at' X d.fi kn kc kz) := by
  have HM : Hid (Mach w m a cap x 150 (.agg #[.iface 96 av, .pointer (some ⟨tb, 0, none⟩)])) := hM
  have HT : Hid (Tal 153 ansB w tb bb at' ct X) := hT
  have HOk : Hid (MdOk d) := hok
  have HH : Hid (hitB x 11 d = true) := hhit
  have HKp : Hid (∀ wr, Kept No w wr → Calls Try.prog 67 #[av, .agg d.cells] wr (KeepOut wr kn kc kz)) := hkp
  have HTb : Hid (takeB X d.fi = false) := htb
  have HDj : Hid (∀ k, MB m a k → ¬ Tb2 tb bb k) := hd
  clear hM hT hhit hkp htb hd
  obtain ⟨w1, hw1⟩ : ∃ w1, w1 = (w.alloc (.cells #[.iface 96 av, .pointer (some ⟨tb, 0, none⟩)] 150)).alloc (.cells d.cells 73) := ⟨_, rfl⟩
  obtain ⟨N, hN⟩ : ∃ N, N = w.heap.size := ⟨_, rfl⟩
  have HNN : Hid (N = w.heap.size) := hN
  have HK1 : Hid (Kept No w w1) := by rw [hw1]; exact ((Kept.refl No w).alloc _).alloc _
  have HX0 : Hid (Box w1 N 150 #[.iface 96 av, .pointer (some ⟨tb, 0, none⟩)]) := by rw [hw1, hN]; exact (Box.new _ _ _).alloc _
  have HX1 : Hid (Box w1 (N + 1) 73 d.cells) := by
    have h := Box.new (w.alloc (.cells #[.iface 96 av, .pointer (some ⟨tb, 0, none⟩)] 150)) 73 d.cells
    have e : (w.alloc (.cells #[.iface 96 av, .pointer (some ⟨tb, 0, none⟩)] 150)).heap.size = w.heap.size + 1 := by simp
    rw [e] at h
    rw [hw1, hN]
    exact h
  have HXc : Hid (∀ wr, Kept (Tb2 tb bb) w1 wr → (wr.cell? ⟨N, 0, none⟩ = some (.iface 96 av) ∧ wr.cell? ⟨N, 1, none⟩ = some (.pointer (some ⟨tb, 0, none⟩)) ∧ wr.cell? ⟨N + 1, 2, none⟩ = some (.int .i64 d.fi)) ∧ Box wr (N + 1) 73 d.cells) := fun wr hk => by
    have hlt1 := HT.out.box.lt
    have hlt2 := HT.out.map.lt
    have hn := HNN.out
    have h0 := HX0.out.kept hk (fun e => by rcases e with e | e <;> omega)
    have h1 := HX1.out.kept hk (fun e => by rcases e with e | e <;> omega)
    exact ⟨⟨h0.cell 0, h0.cell 1, md_at h1 2 (by omega)⟩, h1⟩
  go_enter Try.func84, Try.ntmps84
  go_upto_region 1 with (refine wp_boxV rfl 73 _ rfl d.cells rfl (w.heap.size + 1) (by simp) ?_)
  rw [← hw1, ← hN]
  clear hw1 hN
  obtain ⟨⟨x0, x1, x2⟩, x3⟩ := HXc.out w1 (Kept.refl _ _)
  have x4 : Box w1.drew (N + 1) 73 d.cells := x3
  have HKr : Hid (Kept No w1 w1.drew) := (Kept.refl No w1).drew
  have hld : ∀ w', Box w' (N + 1) 73 d.cells → Sem.run Try.prog (loadS ⟨N + 1, 0, none⟩) w' = .ok (.agg d.cells) w' := fun w' hb => run_loadS _ d w' hb hok
  go_region_held3 (fun w' => (w'.cell? ⟨N, 0, none⟩ = some (.iface 96 av) ∧ w'.cell? ⟨N, 1, none⟩ = some (.pointer (some ⟨tb, 0, none⟩)) ∧ w'.cell? ⟨N + 1, 2, none⟩ = some (.int .i64 d.fi)) ∧ Box w' (N + 1) 73 d.cells) (go_keep) (first
    | (go_at_call 86
       refine Calls.mono (answered_any m a cap x _ _ d 11 w1.drew (HM.out.no (HK1.out.then HKr.out))) ?_
       rintro e w2 ⟨rfl, hk2⟩
       rw [HH.out]
       have HK2 : Hid (Kept No w1 w2) := HKr.out.then hk2
       obtain ⟨⟨y0, y1, y2⟩, y3⟩ := HXc.out w2 HK2.out.of_no
       clear hk2)
    | (go_at_call 67
       refine Calls.mono (HKp.out w2 (HK1.out.then HK2.out)) ?_
       rintro e w3 ⟨ka, kk, rfl, hO3, hk3⟩
       have HK3 : Hid (Kept No w1 w3) := HK2.out.then hk3
       have HO3 : Hid (OwnB w3 w2.heap.size ka kk kz) := hO3
       obtain ⟨⟨z0, z1, z2⟩, z3⟩ := HXc.out w3 HK3.out.of_no
       clear hO3 hk3)
    | (go_at_call 83
       refine Calls.mono (take_anyB tb bb ct at' X d.fi ⟨kn, kc, ka, kz.length, kk⟩ w3 (HT.out.no (HK1.out.then HK3.out))) ?_
       rintro e w4 ⟨rfl, hT4, hk4⟩
       rw [HTb.out]
       have HT4 : Hid (Tal 153 ansB w4 tb bb at' ct (takeS X d.fi ⟨kn, kc, ka, kz.length, kk⟩)) := hT4
       have HK4 : Hid (Kept (Tb2 tb bb) w w4) := ((HK1.out.then HK3.out).of_no).then hk4
       have HK14 : Hid (Kept (Tb2 tb bb) w1 w4) := HK3.out.of_no.then hk4
       have HO4 : Hid (OwnB w4 w.heap.size ka kk kz) := by
         have hlt1 := HT.out.box.lt
         have hlt2 := HT.out.map.lt
         have hs := (HK1.out.then HK2.out).size
         exact Own.lower (HO3.out.kept hk4 (fun k hk e => by have := HO3.out.base hk; rcases e with e | e <;> omega)) hs
       obtain ⟨⟨u0, u1, u2⟩, u3⟩ := HXc.out w4 HK14.out
       clear hT4 hk4))
  go_wp2
  go_ret
  have hl := HOk.out
  refine ⟨ka, kk, rfl, HT4.out, HM.out.kept HK4.out HDj.out, Own.lower (HO4.out) (Nat.le_refl _), HK4.out⟩

set_option maxRecDepth 100000 in
set_option maxHeartbeats 4000000 in
theorem takeA_noR (m : Nat) (a : Option Addr) (cap : Nat) (x : MS) (av : Value) (tb bb ct : Nat) (at' : Option Addr) (X : TS Bk) (d : MD) (kn kc : Int) (kz : List Int) (w : World) (hM : Mach w m a cap x 150 (.agg #[.iface 93 av, .pointer (some ⟨tb, 0, none⟩)])) (hT : Tal 153 ansB w tb bb at' ct X) (hok : MdOk d) (hhit : hitB x 11 d = true)
    (hmk : ∀ w, (method 280 93 av "cairn/register.keep").run Try.prog w = .ok (66, av) w) (hkp : ∀ wr, Kept No w wr → Calls Try.prog 66 #[av, .agg d.cells] wr (KeepOut wr kn kc kz)) (htb : takeB X d.fi = false) (hd : ∀ k, MB m a k → ¬ Tb2 tb bb k) :
    Calls Try.prog 84 #[.agg #[.iface 93 av, .pointer (some ⟨tb, 0, none⟩)], .pointer (some ⟨m, 0, none⟩), .agg d.cells] w (TakeNo w m a cap x 150 (.agg #[.iface 93 av, .pointer (some ⟨tb, 0, none⟩)]) tb bb ct at' X d.fi kn kc kz) := by
  have HM : Hid (Mach w m a cap x 150 (.agg #[.iface 93 av, .pointer (some ⟨tb, 0, none⟩)])) := hM
  have HT : Hid (Tal 153 ansB w tb bb at' ct X) := hT
  have HOk : Hid (MdOk d) := hok
  have HH : Hid (hitB x 11 d = true) := hhit
  have HKp : Hid (∀ wr, Kept No w wr → Calls Try.prog 66 #[av, .agg d.cells] wr (KeepOut wr kn kc kz)) := hkp
  have HTb : Hid (takeB X d.fi = false) := htb
  have HDj : Hid (∀ k, MB m a k → ¬ Tb2 tb bb k) := hd
  clear hM hT hhit hkp htb hd
  obtain ⟨w1, hw1⟩ : ∃ w1, w1 = (w.alloc (.cells #[.iface 93 av, .pointer (some ⟨tb, 0, none⟩)] 150)).alloc (.cells d.cells 73) := ⟨_, rfl⟩
  obtain ⟨N, hN⟩ : ∃ N, N = w.heap.size := ⟨_, rfl⟩
  have HNN : Hid (N = w.heap.size) := hN
  have HK1 : Hid (Kept No w w1) := by rw [hw1]; exact ((Kept.refl No w).alloc _).alloc _
  have HX0 : Hid (Box w1 N 150 #[.iface 93 av, .pointer (some ⟨tb, 0, none⟩)]) := by rw [hw1, hN]; exact (Box.new _ _ _).alloc _
  have HX1 : Hid (Box w1 (N + 1) 73 d.cells) := by
    have h := Box.new (w.alloc (.cells #[.iface 93 av, .pointer (some ⟨tb, 0, none⟩)] 150)) 73 d.cells
    have e : (w.alloc (.cells #[.iface 93 av, .pointer (some ⟨tb, 0, none⟩)] 150)).heap.size = w.heap.size + 1 := by simp
    rw [e] at h
    rw [hw1, hN]
    exact h
  have HXc : Hid (∀ wr, Kept (Tb2 tb bb) w1 wr → (wr.cell? ⟨N, 0, none⟩ = some (.iface 93 av) ∧ wr.cell? ⟨N, 1, none⟩ = some (.pointer (some ⟨tb, 0, none⟩)) ∧ wr.cell? ⟨N + 1, 2, none⟩ = some (.int .i64 d.fi)) ∧ Box wr (N + 1) 73 d.cells) := fun wr hk => by
    have hlt1 := HT.out.box.lt
    have hlt2 := HT.out.map.lt
    have hn := HNN.out
    have h0 := HX0.out.kept hk (fun e => by rcases e with e | e <;> omega)
    have h1 := HX1.out.kept hk (fun e => by rcases e with e | e <;> omega)
    exact ⟨⟨h0.cell 0, h0.cell 1, md_at h1 2 (by omega)⟩, h1⟩
  go_enter Try.func84, Try.ntmps84
  go_upto_region 1 with (refine wp_boxV rfl 73 _ rfl d.cells rfl (w.heap.size + 1) (by simp) ?_)
  rw [← hw1, ← hN]
  clear hw1 hN
  obtain ⟨⟨x0, x1, x2⟩, x3⟩ := HXc.out w1 (Kept.refl _ _)
  have x4 : Box w1.drew (N + 1) 73 d.cells := x3
  have HKr : Hid (Kept No w1 w1.drew) := (Kept.refl No w1).drew
  have hld : ∀ w', Box w' (N + 1) 73 d.cells → Sem.run Try.prog (loadS ⟨N + 1, 0, none⟩) w' = .ok (.agg d.cells) w' := fun w' hb => run_loadS _ d w' hb hok
  go_region_held3 (fun w' => (w'.cell? ⟨N, 0, none⟩ = some (.iface 93 av) ∧ w'.cell? ⟨N, 1, none⟩ = some (.pointer (some ⟨tb, 0, none⟩)) ∧ w'.cell? ⟨N + 1, 2, none⟩ = some (.int .i64 d.fi)) ∧ Box w' (N + 1) 73 d.cells) (go_keep) (first
    | (go_at_call 86
       refine Calls.mono (answered_any m a cap x _ _ d 11 w1.drew (HM.out.no (HK1.out.then HKr.out))) ?_
       rintro e w2 ⟨rfl, hk2⟩
       rw [HH.out]
       have HK2 : Hid (Kept No w1 w2) := HKr.out.then hk2
       obtain ⟨⟨y0, y1, y2⟩, y3⟩ := HXc.out w2 HK2.out.of_no
       clear hk2)
    | (go_at_call 66
       refine Calls.mono (HKp.out w2 (HK1.out.then HK2.out)) ?_
       rintro e w3 ⟨ka, kk, rfl, hO3, hk3⟩
       have HK3 : Hid (Kept No w1 w3) := HK2.out.then hk3
       have HO3 : Hid (OwnB w3 w2.heap.size ka kk kz) := hO3
       obtain ⟨⟨z0, z1, z2⟩, z3⟩ := HXc.out w3 HK3.out.of_no
       clear hO3 hk3)
    | (go_at_call 83
       refine Calls.mono (take_anyB tb bb ct at' X d.fi ⟨kn, kc, ka, kz.length, kk⟩ w3 (HT.out.no (HK1.out.then HK3.out))) ?_
       rintro e w4 ⟨rfl, hT4, hk4⟩
       rw [HTb.out]
       have HT4 : Hid (Tal 153 ansB w4 tb bb at' ct (takeS X d.fi ⟨kn, kc, ka, kz.length, kk⟩)) := hT4
       have HK4 : Hid (Kept (Tb2 tb bb) w w4) := ((HK1.out.then HK3.out).of_no).then hk4
       have HK14 : Hid (Kept (Tb2 tb bb) w1 w4) := HK3.out.of_no.then hk4
       have HO4 : Hid (OwnB w4 w.heap.size ka kk kz) := by
         have hlt1 := HT.out.box.lt
         have hlt2 := HT.out.map.lt
         have hs := (HK1.out.then HK2.out).size
         exact Own.lower (HO3.out.kept hk4 (fun k hk e => by have := HO3.out.base hk; rcases e with e | e <;> omega)) hs
       obtain ⟨⟨u0, u1, u2⟩, u3⟩ := HXc.out w4 HK14.out
       clear hT4 hk4))
  go_wp2
  go_ret
  have hl := HOk.out
  refine ⟨ka, kk, rfl, HT4.out, HM.out.kept HK4.out HDj.out, Own.lower (HO4.out) (Nat.le_refl _), HK4.out⟩
end

end Go.Proofs.Ytgiokkcdgoloaab
