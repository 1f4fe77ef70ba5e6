import Derived.Test.YtgdnofacgfjaeabGreatCg
namespace Go.Proofs.YtgdnofacgfjaeabGreat
open Go.RowKit
set_option linter.unusedVariables false

theorem More_all (g lb : Nat) (st : RS) (w : World) (h : Rs w g lb st) :
    Calls Tryz.prog 175 #[.pointer (some ⟨g, 0, none⟩)] w fun e w' => e = .returned (.bool (moreS st)) ∧ w' = w := by
  cases st with
  | ok zs at_ => obtain ⟨la, lc, hr, _⟩ := h; exact More_ok g la lc zs at_ w hr
  | bad p c => exact More_bad g p c w h.1

theorem Err_all (g lb : Nat) (st : RS) (w : World) (h : Rs w g lb st) :
    Calls Tryz.prog 131 #[.pointer (some ⟨g, 0, none⟩)] w fun e w' => e = .returned (.tuple #[.int .i64 (errS st).1, .int .i64 (errS st).2]) ∧ ∃ n, w' = w.drewN n := by
  cases st with
  | ok zs at_ => obtain ⟨la, lc, hr, _⟩ := h; exact Err_any g _ _ 0 0 w hr.cell
  | bad p c => exact Err_any g _ _ p c w h.1

set_option maxRecDepth 1000000 in
set_option maxHeartbeats 2000000 in
theorem End_all (g lb : Nat) (st : RS) (w : World) (h : Rs w g lb st) :
    Calls Tryz.prog 130 #[.pointer (some ⟨g, 0, none⟩)] w fun e w' => e = .returned (.tuple #[]) ∧ Rs w' g lb (endS st) ∧ Kept (Only g) w w' := by
  have hmf : ∀ (fn : Fn) (first cap : Array Value) (w : World), (Instr.makeFunc fn first cap).run Tryz.prog w = .ok (.func fn first cap) w := fun _ _ _ _ => rfl
  have hglt := h.lt
  have HK0 : Hid (Kept No w (w.alloc (Obj.cells #[.pointer (some ⟨g, 0, none⟩)] 137))) := (Kept.refl _ _).alloc _
  have HA0 : Hid ((w.alloc (Obj.cells #[.pointer (some ⟨g, 0, none⟩)] 137)).cell? ⟨w.heap.size, 0, none⟩ = some (.pointer (some ⟨g, 0, none⟩))) := by simp [Hid]
  cases st with
  | bad p c =>
    have HF : Hid (RdF w g p c) := h.1
    have HC : Hid (c ≠ 0) := h.2
    clear h
    go_enter Tryz.func130, Tryz.ntmps130
    go_wp2_with fail
    refine (catch_bad _ g p c _ ((HK0.out.block g hglt (fun e => e)).trans HF.out) HC.out).mono ?_
    rintro e w1 ⟨rfl, hk⟩
    have HK1 : Hid (Kept No w w1) := HK0.out.then hk
    clear hk
    go_wp2
    go_end0
    exact ⟨rfl, ⟨(HK1.out.block g hglt (fun e => e)).trans HF.out, HC.out⟩, HK1.out.of_no⟩
  | ok zs at_ =>
    obtain ⟨la, lc, hr, hb⟩ := h
    have HR : Hid (Rd w g la lc zs at_) := hr
    have HB : Hid (∀ k, At la k → k = lb) := hb
    clear hr hb
    go_enter Tryz.func130, Tryz.ntmps130
    go_wp2_with fail
    refine (catch_any 174 _ (run48 _) g la lc zs at_ (fun W w' => zs = [] ∧ w' = W) (fun c => c = 11 ∧ zs ≠ []) _ (HR.out.no HK0.out) (fun W hk => end1_any w.heap.size g la lc zs at_ W ((HR.out.no HK0.out).no hk) (hk.cell HA0.out (fun e => e)))).mono ?_
    rintro e w1 ⟨rfl, hcase⟩
    rcases hcase with ⟨W, hW, h0, rfl⟩ | ⟨c, ⟨rfl, hne⟩, hF, hk⟩
    · have HP : Hid (Rs w1 g lb (endS (.ok zs at_)) ∧ Kept (Only g) w w1) := by
        have e : endS (.ok zs at_) = .ok zs at_ := by simp only [endS, h0, if_true]
        rw [e]
        exact ⟨⟨la, lc, (HR.out.no HK0.out).no hW, HB.out⟩, (HK0.out.then hW).of_no⟩
      clear hW h0
      go_wp2
      go_end0
      exact ⟨rfl, HP.out⟩
    · have HP : Hid (Rs w1 g lb (endS (.ok zs at_)) ∧ Kept (Only g) w w1) := by
        have e : endS (.ok zs at_) = .bad at_ 11 := by simp only [endS, hne, if_false]
        rw [e]
        exact ⟨⟨hF, by omega⟩, HK0.out.of_no.then hk⟩
      clear hF hk hne
      go_wp2
      go_end0
      exact ⟨rfl, HP.out⟩

set_option maxRecDepth 1000000 in
set_option maxHeartbeats 1000000 in
theorem Read_any (xa : Option Addr) (xn xc : Nat) (ys : List Int) (w : World) (h : Sl w xa xn xc ys) :
    Calls Tryz.prog 80 #[.slice xa xn xc] w fun e w' => ∃ g lb, e = .returned (.pointer (some ⟨g, 0, none⟩)) ∧ w.heap.size ≤ g ∧ w.heap.size ≤ lb ∧ Rs w' g lb (.ok ys 0) ∧ Kept No w w' ∧ g < w'.heap.size ∧ (lb < w'.heap.size) := by
  have HS : Hid (Sl w xa xn xc ys) := h
  have hbd := h.bd
  clear h
  go_enter Tryz.func80, Tryz.ntmps80
  go_wp2_with fail
  refine (clone_any xa xn xc ys w HS.out.len HS.out.bytes (fun e => ⟨?_, HS.out.nil e⟩) (by omega)).mono ?_
  · have h1 := HS.out.nil e; have h2 := HS.out.le; omega
  rintro e w1 ⟨a1, c1, rfl, hO1, hK1, -⟩
  have HF : Hid (∃ lb, w.heap.size ≤ lb ∧ lb < (w1.alloc (Obj.cells #[.slice a1 xn c1, .int .i64 0, .int .i64 0, .int .i64 0] 190)).heap.size ∧ Rs (w1.alloc (Obj.cells #[.slice a1 xn c1, .int .i64 0, .int .i64 0, .int .i64 0] 190)) w1.heap.size lb (.ok ys 0)) := by
    have hs : Sl w1 a1 ys.length c1 ys := hO1.sl rfl HS.out.u8 (by rw [HS.out.len]; exact hbd)
    have hs' := hs.no ((Kept.refl No w1).alloc (Obj.cells #[.slice a1 xn c1, .int .i64 0, .int .i64 0, .int .i64 0] 190))
    have hR : Rd (w1.alloc (Obj.cells #[.slice a1 xn c1, .int .i64 0, .int .i64 0, .int .i64 0] 190)) w1.heap.size a1 c1 ys 0 :=
      ⟨by rw [HS.out.len]; exact heap_new _ _, hs', by rw [HS.out.len]; omega⟩
    have hz := hK1.size
    rcases hO1.cases with ⟨rfl, _, _⟩ | ⟨g, rfl, hb, hl, _⟩
    · exact ⟨w1.heap.size, by omega, by rw [World.heap_size_alloc1]; omega, none, c1, hR, fun k hk => absurd hk At.none⟩
    · exact ⟨g, hb, by rw [World.heap_size_alloc1]; omega, _, c1, hR, fun k hk => at_some hk⟩
  have HK : Hid (Kept No w w1) := hK1
  clear hO1 hK1
  go_wp2
  go_ret
  obtain ⟨lb, h1, h2, h3⟩ := HF.out
  exact ⟨w1.heap.size, lb, rfl, HK.out.size, h1, h3, HK.out.alloc _, by rw [World.heap_size_alloc1]; omega, h2⟩

end Go.Proofs.YtgdnofacgfjaeabGreat
