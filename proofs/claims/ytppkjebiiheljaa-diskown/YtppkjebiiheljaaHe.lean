import Derived.Test.YtppkjebiiheljaaRw
namespace Go.Proofs.Ytppkjebiiheljaa
open Go.RowKit
set_option linter.unusedVariables false
set_option linter.unusedSimpArgs false

set_option maxRecDepth 100000 in
set_option maxHeartbeats 2000000 in
theorem held_any (d b r gs : Nat) (F : Nat → Prop) (x : DS) (w : World) (hd : Dsk w d b x) (h : RD w r gs F x) :
    Calls Try.prog 22 #[.pointer (some ⟨d, 0, none⟩), .pointer (some ⟨r, 0, none⟩)] w fun e w' => e = .returned (.bool true) ∧ Kept No w w' := by
  obtain ⟨arm, lf, tn, vs, h⟩ := h
  have HD : Hid (Dsk w d b x) := hd
  have HR : Hid (Rdk w r gs F x arm lf tn vs) := h
  have HDd : Hid (Dsk w.drew d b x) := hd.no ((Kept.refl No w).drew)
  have HRd : Hid (Rdk w.drew r gs F x arm lf tn vs) := h.kept ((Kept.refl No w).drew) (fun e => e) (fun e => e) (fun _ _ _ e => e)
  obtain ⟨c0, c1, c2, c3, c4, c5, c6⟩ := h.cells
  clear h hd c1 c3 c4
  go_enter Try.func22, Try.ntmps22
  go_wp2
  go_region_held3 (fun w' => w'.cell? ⟨r, 0, none⟩ = some (.slice (some ⟨gs, 0, none⟩) x.N x.N) ∧ w'.cell? ⟨r, 2, none⟩ = some (.bool x.fl) ∧ w'.cell? ⟨r, 5, none⟩ = some (.int .i64 x.rd) ∧ w'.cell? ⟨r, 6, none⟩ = some (.int .i64 x.wr)) (go_keep) (first
    | (go_at_call 16
       refine Calls.mono (sectors_any d b x w.drew HDd.out) ?_
       rintro e w' ⟨rfl, hw'⟩
       rw [hw']
       clear hw' w')
    | (go_at_call 15
       refine Calls.mono (fallen_any d b x w.drew HDd.out) ?_
       rintro e w' ⟨rfl, hw'⟩
       rw [hw']
       clear hw' w')
    | (go_at_call 17
       refine Calls.mono (counts_any d b x w.drew HDd.out) ?_
       rintro e w1 ⟨rfl, hk1⟩
       have HK1 : Hid (Kept No w w1) := ((Kept.refl No w).drew : Kept No w w.drew).then hk1
       obtain ⟨p0, p1, p2, p3, p4, p5, p6⟩ := (HRd.out.kept hk1 (fun e => e) (fun e => e) (fun _ _ _ e => e)).cells
       clear hk1 p1 p3 p4))
  go_wp2
  go_ret
  exact ⟨rfl, HK1.out⟩

end Go.Proofs.Ytppkjebiiheljaa
