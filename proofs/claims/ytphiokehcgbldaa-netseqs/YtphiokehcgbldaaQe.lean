import Derived.Test.YtphiokehcgbldaaQd
namespace Go.Proofs.Ytphiokehcgbldaa
open Go.RowKit Go.Shelf
set_option linter.unusedVariables false
set_option linter.unusedSimpArgs false

def Tp.at (y : Tp) (p : Nat) : Tp := ⟨{ y.q with pl := p }, y.a, y.c⟩
def DbOut (w : World) (r : Nat) (ys : List Tp) (ss : List Ad) (la sa : Option Addr) (sc base p : Nat) (k : Nm) (e : Ending) (w' : World) : Prop :=
  (plc k ys = none ∧ e = .returned (.int .i64 150) ∧ Kept No w w') ∨
  (∃ i y la' lc', plc k ys = some i ∧ ys[i]? = some y ∧ e = .returned (.int .i64 0) ∧ RfM w' r (rfAdd ys (y.at p)) ss la' lc' sa sc base ∧ Kept (RfB r la sa) w w' ∧ ∀ j, At la' j → At la j ∨ w.heap.size ≤ j)
set_option maxRecDepth 100000 in
set_option maxHeartbeats 8000000 in
theorem doubleR_any {r lc sc base : Nat} {ys : List Tp} {ss : List Ad} {la sa : Option Addr} (p : Nat) (fc : Bool) (fi c : Int) (w : World) (h : RfM w r ys ss la lc sa sc base) (hm : ys.length ≤ 10000000000) (hbase : base ≤ w.heap.size) :
    Calls Try.prog 31 #[.pointer (some ⟨r, 0, none⟩), .agg #[.bool fc, .int .i64 fi], .int .i64 c] w (DbOut w r ys ss la sa sc base p ((fc, fi), c)) := by
  have HR : Hid (RfM w r ys ss la lc sa sc base) := h
  clear h
  go_enter Try.func31, Try.ntmps31
  go_upto_region 1 with fail
  obtain ⟨bA, hbA⟩ : ∃ b, b = w.heap.size := ⟨_, rfl⟩
  obtain ⟨w1, hw1⟩ : ∃ w1, w1 = w.alloc (.cells #[.bool fc, .int .i64 fi] 34) := ⟨_, rfl⟩
  rw [← hbA, ← hw1]
  have h2 : Box w1 bA 34 #[.bool fc, .int .i64 fi] := by rw [hw1, hbA]; exact Box.new _ _ _
  have H1 : Hid (Kept No w w1) := by rw [hw1]; exact (Kept.refl No w).alloc _
  have b0 : w1.cell? ⟨bA, 0, none⟩ = some (.bool fc) := h2.cell 0
  have b1 : w1.cell? ⟨bA, 1, none⟩ = some (.int .i64 fi) := h2.cell 1
  clear h2 hbA hw1
  cases hp : plc ((fc, fi), c) ys with
  | none =>
    have HP : Hid (plc ((fc, fi), c) ys = none) := hp
    clear hp
    go_wp2_with (go_at_call 42; refine (placeR_any fc fi c w1 (HR.out.no H1.out) (by omega)).mono ?_; rintro e w2 ⟨rfl, hk2⟩; rw [HP.out]; simp only [plI]; have H2 : Hid (Kept No w w2) := H1.out.then hk2; clear hk2)
    go_ret
    exact .inl ⟨HP.out, rfl, H2.out⟩
  | some i =>
    obtain ⟨y, hy, hyn, _⟩ := plc_find _ ys i hp
    have hil : i < ys.length := (List.getElem?_eq_some_iff.1 hy).1
    have HP : Hid (plc ((fc, fi), c) ys = some i ∧ ys[i]? = some y) := ⟨hp, hy⟩
    obtain ⟨pg, ela, hlc, _⟩ := HR.out.cap hy
    subst ela
    clear hp hy hyn
    obtain ⟨m, hme⟩ : ∃ m, ys.length = m := ⟨_, rfl⟩
    have HM : Hid (ys.length = m) := hme
    rw [hme] at hm hil hlc
    clear hme
    go_upto_region 4 with (go_at_call 42; refine (placeR_any fc fi c w1 (HR.out.no H1.out) (by have := HM.out; omega)).mono ?_; rintro e w2 ⟨rfl, hk2⟩; rw [HP.out.1]; simp only [plI]; have H2 : Hid (Kept No w w2) := H1.out.then hk2; clear hk2)
    clear b0 b1
    have HR2 : Hid (RfM w2 r ys ss (some ⟨pg, 0, none⟩) lc sa sc base) := HR.out.no H2.out
    obtain ⟨pg', e', _, hpk, _⟩ := HR2.out.cap HP.out.2
    cases e'
    obtain ⟨⟨⟨⟨yc, yi⟩, yn⟩, ⟨ytc, yti⟩, yda, ydc, yz, ypl⟩, ya, ycc⟩ := y
    obtain ⟨y0, y1, y2, y3, y4, y5⟩ := hpk
    simp only at y0 y1 y2 y3 y4 y5
    have r0 : w2.cell? ⟨r, 0, none⟩ = some (.slice (some ⟨pg, 0, none⟩) m lc) := by have := HR2.out.cells.1; rw [HM.out] at this; exact this
    have hil' : (i : Int) < (m : Int) := by omega
    go_upto_region 5 with fail
    obtain ⟨bP, hbP⟩ : ∃ b, b = w2.heap.size := ⟨_, rfl⟩
    obtain ⟨w3, hw3⟩ : ∃ w3, w3 = w2.alloc (.cells #[.bool yc, .int .i64 yi, .int .i64 yn, .bool ytc, .int .i64 yti, .slice ya yz.length ycc] 44) := ⟨_, rfl⟩
    rw [← hw3, ← hbP]
    have hk23 : Kept No w2 w3 := by rw [hw3]; exact (Kept.refl No w2).alloc _
    have H3 : Hid (Box w3 bP 44 #[.bool yc, .int .i64 yi, .int .i64 yn, .bool ytc, .int .i64 yti, .slice ya yz.length ycc] ∧ Kept No w w3 ∧ w.heap.size ≤ bP ∧ RfM w3 r ys ss (some ⟨pg, 0, none⟩) lc sa sc base) := by
      refine ⟨by rw [hw3, hbP]; exact Box.new _ _ _, H2.out.then hk23, by rw [hbP]; exact H2.out.size, HR2.out.no hk23⟩
    clear hw3 hbP hk23 y0 y1 y2 y3 y4 y5 r0 H2 HR2
    have p0 : w3.cell? ⟨bP, 0, none⟩ = some (.bool yc) := H3.out.1.cell 0
    have p1 : w3.cell? ⟨bP, 1, none⟩ = some (.int .i64 yi) := H3.out.1.cell 1
    have p3' : w3.cell? ⟨bP, 3, none⟩ = some (.bool ytc) := H3.out.1.cell 3
    have p4 : w3.cell? ⟨bP, 4, none⟩ = some (.int .i64 yti) := H3.out.1.cell 4
    obtain ⟨cn, hcn⟩ : ∃ cn, cnP (ys.map Tp.q) ((yc, yi), (ytc, yti)) = cn := ⟨_, rfl⟩
    have HCn : Hid (cnP (ys.map Tp.q) ((yc, yi), (ytc, yti)) = cn) := hcn
    have hnb : cn ≤ 10000000000 := by
      rw [← hcn]; refine Nat.le_trans (List.length_filter_le _ _) ?_; rw [List.length_map, HM.out]; exact hm
    clear hcn
    by_cases hlt : cn < 64
    · have hlt' : (cn : Int) < 64 := by omega
      go_upto_region 6 with (go_at_call 32; refine (pairR_any yc ytc yi yti w3 H3.out.2.2.2 (by have := HM.out; omega)).mono ?_; rintro e w4 ⟨rfl, hk4⟩; rw [HCn.out]; have H4 : Hid (Kept No w3 w4) := hk4; clear hk4)
      clear p0 p1 p3' p4
      refine q6 _ r bP ys.length lc base yc ytc yi yn yti ya yz.length ycc (some ⟨pg, 0, none⟩) (.slice sa ss.length sc) (ys.flatMap pkL) w4 _ rfl rfl rfl (H3.out.1.kept H4.out (fun e => e)) (H3.out.2.2.2.no H4.out).box (H3.out.2.2.2.no H4.out).row (by have := HM.out; omega) (Nat.le_trans hbase (H3.out.2.1.then H4.out).size) (fun e => by have := Own.ltA HR.out.row e; have := H3.out.2.2.1; omega) (fun _ _ t _ _ h => by cases t <;> exact h) ?_
      intro w6 G6 g6 cap6 hO6 hB6 hk6 hg6 hP6
      have hs4 := (H3.out.2.1.then H4.out).size
      have H6 : Hid (RfM w6 r (ys ++ [Tp.at ⟨⟨((yc, yi), yn), (ytc, yti), yda, ydc, yz, ypl⟩, ya, ycc⟩ p]) ss (some ⟨g6, 0, none⟩) cap6 sa sc base ∧ Kept (RfB r (some ⟨pg, 0, none⟩) sa) w w6 ∧ (At (some ⟨pg, 0, none⟩) g6 ∨ w.heap.size ≤ g6)) := by
        refine ⟨(H3.out.2.2.2.no H4.out).came hO6 hB6 hk6, (H3.out.2.1.then H4.out).of_no.then (hk6.mono (fun k _ e => ?_)), hg6.imp id (fun e => Nat.le_trans hs4 e)⟩
        rcases e with e | e
        · exact .inl e
        · exact .inr (.inl e)
      clear hO6 hB6 hk6 hg6 hP6 hs4
      simp only [Wa.pA, Wa.pB, Wa.p1, Wa.p2, Wa.p3]
      go_wp2
      go_ret
      refine .inr ⟨i, _, some ⟨g6, 0, none⟩, cap6, HP.out.1, HP.out.2, rfl, ?_, H6.out.2.1, fun j e => ?_⟩
      · rw [rfAdd, if_neg (by show ¬ 64 ≤ cnP (ys.map Tp.q) ((yc, yi), (ytc, yti)); rw [HCn.out]; omega)]; exact H6.out.1
      · obtain ⟨ad, e, e'⟩ := e
        cases e
        have e' : g6 = j := e'
        rcases H6.out.2.2 with f | f
        · rw [e'] at f; exact .inl f
        · exact .inr (by omega)
    · have hlt' : ¬ (cn : Int) < 64 := by omega
      go_wp2_with (go_at_call 32; refine (pairR_any yc ytc yi yti w3 H3.out.2.2.2 (by have := HM.out; omega)).mono ?_; rintro e w4 ⟨rfl, hk4⟩; rw [HCn.out]; have H4 : Hid (Kept No w3 w4) := hk4; clear hk4)
      go_ret
      refine .inr ⟨i, _, some ⟨pg, 0, none⟩, lc, HP.out.1, HP.out.2, rfl, ?_, (H3.out.2.1.then H4.out).of_no, fun j e => .inl e⟩
      rw [rfAdd, if_pos (by show 64 ≤ cnP (ys.map Tp.q) ((yc, yi), (ytc, yti)); rw [HCn.out]; omega)]; exact H3.out.2.2.2.no H4.out
end Go.Proofs.Ytphiokehcgbldaa
