import Derived.Test.YtgiokkcdgoloaabHe
namespace Go.Proofs.Ytgiokkcdgoloaab
open Go.RowKit
set_option linter.unusedVariables false
set_option linter.unusedSimpArgs false

section
attribute [local go_sem ↓] loadS_eq

set_option maxRecDepth 100000 in
set_option maxHeartbeats 4000000 in
theorem takeL_pass (m : Nat) (a : Option Addr) (cap : Nat) (x : MS) (t : TypeId) (v : Value) (n c : Int) (pa : Option Addr) (l k : Nat) (err sn sc : Int) (da : Option Addr) (dl dc : Nat) (ub bb ct : Nat) (at' : Option Addr) (X : TS Unit) (d : MD) (w : World) (hM : Mach w m a cap x t v) (hT : Tal 117 ansU w ub bb at' ct X) (hok : MdOk d) (hhit : hitB x 12 d = false) :
    Calls Try.prog 96 #[layV n c pa l k err sn sc da dl dc ub, .pointer (some ⟨m, 0, none⟩), .agg d.cells] w (fun e w' => e = .returned (.slice none 0 0) ∧ Kept No w w') := by
  have HM : Hid (Mach w m a cap x t v) := hM
  have HT : Hid (Tal 117 ansU w ub bb at' ct X) := hT
  have HOk : Hid (MdOk d) := hok
  have HH : Hid (hitB x 12 d = false) := hhit
  clear hM hT hhit
  obtain ⟨w1, hw1⟩ : ∃ w1, w1 = (w.alloc (.cells #[.int .i64 n, .int .i64 c, .slice pa l k, .int .i64 err, .string ⟨#[]⟩, .int .i64 0, .int .i64 0, .int .i64 0, .slice none 0 0, .slice da dl dc, .int .i64 0, .int .i64 sn, .int .i64 sc, .int .i64 0, .pointer (some ⟨ub, 0, none⟩)] 163)).alloc (.cells d.cells 73) := ⟨_, rfl⟩
  obtain ⟨N, hN⟩ : ∃ N, N = w.heap.size := ⟨_, rfl⟩
  have HNN : Hid (N = w.heap.size) := hN
  have HK1 : Hid (Kept No w w1) := by rw [hw1]; exact ((Kept.refl No w).alloc _).alloc _
  have HX0 : Hid (Box w1 N 163 #[.int .i64 n, .int .i64 c, .slice pa l k, .int .i64 err, .string ⟨#[]⟩, .int .i64 0, .int .i64 0, .int .i64 0, .slice none 0 0, .slice da dl dc, .int .i64 0, .int .i64 sn, .int .i64 sc, .int .i64 0, .pointer (some ⟨ub, 0, none⟩)]) := by rw [hw1, hN]; exact (Box.new _ _ _).alloc _
  have HX1 : Hid (Box w1 (N + 1) 73 d.cells) := by
    have h := Box.new (w.alloc (.cells #[.int .i64 n, .int .i64 c, .slice pa l k, .int .i64 err, .string ⟨#[]⟩, .int .i64 0, .int .i64 0, .int .i64 0, .slice none 0 0, .slice da dl dc, .int .i64 0, .int .i64 sn, .int .i64 sc, .int .i64 0, .pointer (some ⟨ub, 0, none⟩)] 163)) 73 d.cells
    have e : (w.alloc (.cells #[.int .i64 n, .int .i64 c, .slice pa l k, .int .i64 err, .string ⟨#[]⟩, .int .i64 0, .int .i64 0, .int .i64 0, .slice none 0 0, .slice da dl dc, .int .i64 0, .int .i64 sn, .int .i64 sc, .int .i64 0, .pointer (some ⟨ub, 0, none⟩)] 163)).heap.size = w.heap.size + 1 := by simp
    rw [e] at h
    rw [hw1, hN]
    exact h
  have HXc : Hid (∀ wr, Kept (Tb2 ub bb) w1 wr → (wr.cell? ⟨N, 14, none⟩ = some (.pointer (some ⟨ub, 0, none⟩)) ∧ wr.cell? ⟨N + 1, 2, none⟩ = some (.int .i64 d.fi)) ∧ Box wr (N + 1) 73 d.cells ∧ Box wr N 163 #[.int .i64 n, .int .i64 c, .slice pa l k, .int .i64 err, .string ⟨#[]⟩, .int .i64 0, .int .i64 0, .int .i64 0, .slice none 0 0, .slice da dl dc, .int .i64 0, .int .i64 sn, .int .i64 sc, .int .i64 0, .pointer (some ⟨ub, 0, none⟩)]) := fun wr hk => by
    have hlt1 := HT.out.box.lt
    have hlt2 := HT.out.map.lt
    have hn := HNN.out
    have h0 := HX0.out.kept hk (fun e => by rcases e with e | e <;> omega)
    have h1 := HX1.out.kept hk (fun e => by rcases e with e | e <;> omega)
    exact ⟨⟨h0.cell 14, md_at h1 2 (by omega)⟩, h1, h0⟩
  unfold layV
  go_enter Try.func96, Try.ntmps96
  go_upto_region 1 with (refine wp_boxV rfl 73 _ rfl d.cells rfl (w.heap.size + 1) (by simp) ?_)
  rw [← hw1, ← hN]
  clear hw1 hN
  obtain ⟨⟨x0, x1⟩, x3, _⟩ := HXc.out w1 (Kept.refl _ _)
  have HB1 : Hid (Box w1 (N + 1) 73 d.cells) := x3
  clear x3
  go_wp2_with (first
    | (refine wp_loadM rfl _ rfl (N + 1) d.cells rfl (MD.size HOk.out) HB1.out ?_)
    | (go_at_call 86
       refine Calls.mono (answered_any m a cap x _ _ d 12 w1 (HM.out.no HK1.out)) ?_
       rintro e w2 ⟨rfl, hk2⟩
       rw [HH.out]
       have HK2 : Hid (Kept No w1 w2) := hk2
       obtain ⟨⟨y0, y1⟩, y2, _⟩ := HXc.out w2 HK2.out.of_no
       clear hk2))
  go_ret
  exact ⟨rfl, HK1.out.then HK2.out⟩

set_option maxRecDepth 100000 in
set_option maxHeartbeats 4000000 in
theorem takeL_no (m : Nat) (a : Option Addr) (cap : Nat) (x : MS) (t : TypeId) (v : Value) (n c : Int) (pa : Option Addr) (l k : Nat) (err sn sc : Int) (da : Option Addr) (dl dc : Nat) (ub bb ct : Nat) (at' : Option Addr) (X : TS Unit) (d : MD) (w : World) (hM : Mach w m a cap x t v) (hT : Tal 117 ansU w ub bb at' ct X) (hok : MdOk d) (hhit : hitB x 12 d = true) (htb : takeB X d.fi = false) :
    Calls Try.prog 96 #[layV n c pa l k err sn sc da dl dc ub, .pointer (some ⟨m, 0, none⟩), .agg d.cells] w (fun e w' => e = .returned (.slice none 0 0) ∧ Tal 117 ansU w' ub bb at' ct (takeS X d.fi ()) ∧ Kept (Tb2 ub bb) w w') := by
  have HTb : Hid (takeB X d.fi = false) := htb
  clear htb
  have HM : Hid (Mach w m a cap x t v) := hM
  have HT : Hid (Tal 117 ansU w ub bb at' ct X) := hT
  have HOk : Hid (MdOk d) := hok
  have HH : Hid (hitB x 12 d = true) := hhit
  clear hM hT hhit
  obtain ⟨w1, hw1⟩ : ∃ w1, w1 = (w.alloc (.cells #[.int .i64 n, .int .i64 c, .slice pa l k, .int .i64 err, .string ⟨#[]⟩, .int .i64 0, .int .i64 0, .int .i64 0, .slice none 0 0, .slice da dl dc, .int .i64 0, .int .i64 sn, .int .i64 sc, .int .i64 0, .pointer (some ⟨ub, 0, none⟩)] 163)).alloc (.cells d.cells 73) := ⟨_, rfl⟩
  obtain ⟨N, hN⟩ : ∃ N, N = w.heap.size := ⟨_, rfl⟩
  have HNN : Hid (N = w.heap.size) := hN
  have HK1 : Hid (Kept No w w1) := by rw [hw1]; exact ((Kept.refl No w).alloc _).alloc _
  have HX0 : Hid (Box w1 N 163 #[.int .i64 n, .int .i64 c, .slice pa l k, .int .i64 err, .string ⟨#[]⟩, .int .i64 0, .int .i64 0, .int .i64 0, .slice none 0 0, .slice da dl dc, .int .i64 0, .int .i64 sn, .int .i64 sc, .int .i64 0, .pointer (some ⟨ub, 0, none⟩)]) := by rw [hw1, hN]; exact (Box.new _ _ _).alloc _
  have HX1 : Hid (Box w1 (N + 1) 73 d.cells) := by
    have h := Box.new (w.alloc (.cells #[.int .i64 n, .int .i64 c, .slice pa l k, .int .i64 err, .string ⟨#[]⟩, .int .i64 0, .int .i64 0, .int .i64 0, .slice none 0 0, .slice da dl dc, .int .i64 0, .int .i64 sn, .int .i64 sc, .int .i64 0, .pointer (some ⟨ub, 0, none⟩)] 163)) 73 d.cells
    have e : (w.alloc (.cells #[.int .i64 n, .int .i64 c, .slice pa l k, .int .i64 err, .string ⟨#[]⟩, .int .i64 0, .int .i64 0, .int .i64 0, .slice none 0 0, .slice da dl dc, .int .i64 0, .int .i64 sn, .int .i64 sc, .int .i64 0, .pointer (some ⟨ub, 0, none⟩)] 163)).heap.size = w.heap.size + 1 := by simp
    rw [e] at h
    rw [hw1, hN]
    exact h
  have HXc : Hid (∀ wr, Kept (Tb2 ub bb) w1 wr → (wr.cell? ⟨N, 14, none⟩ = some (.pointer (some ⟨ub, 0, none⟩)) ∧ wr.cell? ⟨N + 1, 2, none⟩ = some (.int .i64 d.fi)) ∧ Box wr (N + 1) 73 d.cells ∧ Box wr N 163 #[.int .i64 n, .int .i64 c, .slice pa l k, .int .i64 err, .string ⟨#[]⟩, .int .i64 0, .int .i64 0, .int .i64 0, .slice none 0 0, .slice da dl dc, .int .i64 0, .int .i64 sn, .int .i64 sc, .int .i64 0, .pointer (some ⟨ub, 0, none⟩)]) := fun wr hk => by
    have hlt1 := HT.out.box.lt
    have hlt2 := HT.out.map.lt
    have hn := HNN.out
    have h0 := HX0.out.kept hk (fun e => by rcases e with e | e <;> omega)
    have h1 := HX1.out.kept hk (fun e => by rcases e with e | e <;> omega)
    exact ⟨⟨h0.cell 14, md_at h1 2 (by omega)⟩, h1, h0⟩
  unfold layV
  go_enter Try.func96, Try.ntmps96
  go_upto_region 1 with (refine wp_boxV rfl 73 _ rfl d.cells rfl (w.heap.size + 1) (by simp) ?_)
  rw [← hw1, ← hN]
  clear hw1 hN
  obtain ⟨⟨x0, x1⟩, x3, _⟩ := HXc.out w1 (Kept.refl _ _)
  have HB1 : Hid (Box w1 (N + 1) 73 d.cells) := x3
  clear x3
  go_wp2_with (first
    | (refine wp_loadM rfl _ rfl (N + 1) d.cells rfl (MD.size HOk.out) HB1.out ?_)
    | (go_at_call 86
       refine Calls.mono (answered_any m a cap x _ _ d 12 w1 (HM.out.no HK1.out)) ?_
       rintro e w2 ⟨rfl, hk2⟩
       rw [HH.out]
       have HK2 : Hid (Kept No w1 w2) := hk2
       obtain ⟨⟨y0, y1⟩, y2, _⟩ := HXc.out w2 HK2.out.of_no
       clear hk2)
    | (go_at_call 69
       refine Calls.mono (take_anyU ub bb ct at' X d.fi () w2 (HT.out.no (HK1.out.then HK2.out))) ?_
       rintro e w4 ⟨rfl, hT4, hk4⟩
       rw [HTb.out]
       have HT4 : Hid (Tal 117 ansU w4 ub bb at' ct (takeS X d.fi ())) := hT4
       have HK4 : Hid (Kept (Tb2 ub bb) w w4) := ((HK1.out.then HK2.out).of_no).then hk4
       have HK14 : Hid (Kept (Tb2 ub bb) w1 w4) := HK2.out.of_no.then hk4
       obtain ⟨⟨u0, u1⟩, u2, u3⟩ := HXc.out w4 HK14.out
       have HU : Hid (Box w4 N 163 #[.int .i64 n, .int .i64 c, .slice pa l k, .int .i64 err, .string ⟨#[]⟩, .int .i64 0, .int .i64 0, .int .i64 0, .slice none 0 0, .slice da dl dc, .int .i64 0, .int .i64 sn, .int .i64 sc, .int .i64 0, .pointer (some ⟨ub, 0, none⟩)]) := u3
       clear hT4 hk4 u3))
  go_ret
  exact ⟨rfl, HT4.out, HK4.out⟩

set_option maxRecDepth 100000 in
set_option maxHeartbeats 4000000 in
theorem takeL_end (m : Nat) (a : Option Addr) (cap : Nat) (x : MS) (t : TypeId) (v : Value) (n c : Int) (pa : Option Addr) (l k : Nat) (err sn sc : Int) (da : Option Addr) (dl dc : Nat) (ub bb ct : Nat) (at' : Option Addr) (X : TS Unit) (d : MD) (w : World) (hM : Mach w m a cap x t v) (hT : Tal 117 ansU w ub bb at' ct X) (hok : MdOk d) (hhit : hitB x 12 d = true) (htb : takeB X d.fi = true) (hd : ∀ k, MB m a k → ¬ Tb2 ub bb k) :
    Calls Try.prog 96 #[layV n c pa l k err sn sc da dl dc ub, .pointer (some ⟨m, 0, none⟩), .agg d.cells] w (fun e w' => e = .returned (.slice none 0 0) ∧ Mach w' m a cap x 145 (endV err sn sc da dl dc) ∧ Tal 117 ansU w' ub bb at' ct (takeS X d.fi ()) ∧ Kept (fun k => k = m ∨ Tb2 ub bb k) w w') := by
  have HTb : Hid (takeB X d.fi = true) := htb
  have HDj : Hid (∀ k, MB m a k → ¬ Tb2 ub bb k) := hd
  clear htb hd
  have HM : Hid (Mach w m a cap x t v) := hM
  have HT : Hid (Tal 117 ansU w ub bb at' ct X) := hT
  have HOk : Hid (MdOk d) := hok
  have HH : Hid (hitB x 12 d = true) := hhit
  clear hM hT hhit
  obtain ⟨w1, hw1⟩ : ∃ w1, w1 = (w.alloc (.cells #[.int .i64 n, .int .i64 c, .slice pa l k, .int .i64 err, .string ⟨#[]⟩, .int .i64 0, .int .i64 0, .int .i64 0, .slice none 0 0, .slice da dl dc, .int .i64 0, .int .i64 sn, .int .i64 sc, .int .i64 0, .pointer (some ⟨ub, 0, none⟩)] 163)).alloc (.cells d.cells 73) := ⟨_, rfl⟩
  obtain ⟨N, hN⟩ : ∃ N, N = w.heap.size := ⟨_, rfl⟩
  have HNN : Hid (N = w.heap.size) := hN
  have HK1 : Hid (Kept No w w1) := by rw [hw1]; exact ((Kept.refl No w).alloc _).alloc _
  have HX0 : Hid (Box w1 N 163 #[.int .i64 n, .int .i64 c, .slice pa l k, .int .i64 err, .string ⟨#[]⟩, .int .i64 0, .int .i64 0, .int .i64 0, .slice none 0 0, .slice da dl dc, .int .i64 0, .int .i64 sn, .int .i64 sc, .int .i64 0, .pointer (some ⟨ub, 0, none⟩)]) := by rw [hw1, hN]; exact (Box.new _ _ _).alloc _
  have HX1 : Hid (Box w1 (N + 1) 73 d.cells) := by
    have h := Box.new (w.alloc (.cells #[.int .i64 n, .int .i64 c, .slice pa l k, .int .i64 err, .string ⟨#[]⟩, .int .i64 0, .int .i64 0, .int .i64 0, .slice none 0 0, .slice da dl dc, .int .i64 0, .int .i64 sn, .int .i64 sc, .int .i64 0, .pointer (some ⟨ub, 0, none⟩)] 163)) 73 d.cells
    have e : (w.alloc (.cells #[.int .i64 n, .int .i64 c, .slice pa l k, .int .i64 err, .string ⟨#[]⟩, .int .i64 0, .int .i64 0, .int .i64 0, .slice none 0 0, .slice da dl dc, .int .i64 0, .int .i64 sn, .int .i64 sc, .int .i64 0, .pointer (some ⟨ub, 0, none⟩)] 163)).heap.size = w.heap.size + 1 := by simp
    rw [e] at h
    rw [hw1, hN]
    exact h
  have HXc : Hid (∀ wr, Kept (Tb2 ub bb) w1 wr → (wr.cell? ⟨N, 14, none⟩ = some (.pointer (some ⟨ub, 0, none⟩)) ∧ wr.cell? ⟨N + 1, 2, none⟩ = some (.int .i64 d.fi)) ∧ Box wr (N + 1) 73 d.cells ∧ Box wr N 163 #[.int .i64 n, .int .i64 c, .slice pa l k, .int .i64 err, .string ⟨#[]⟩, .int .i64 0, .int .i64 0, .int .i64 0, .slice none 0 0, .slice da dl dc, .int .i64 0, .int .i64 sn, .int .i64 sc, .int .i64 0, .pointer (some ⟨ub, 0, none⟩)]) := fun wr hk => by
    have hlt1 := HT.out.box.lt
    have hlt2 := HT.out.map.lt
    have hn := HNN.out
    have h0 := HX0.out.kept hk (fun e => by rcases e with e | e <;> omega)
    have h1 := HX1.out.kept hk (fun e => by rcases e with e | e <;> omega)
    exact ⟨⟨h0.cell 14, md_at h1 2 (by omega)⟩, h1, h0⟩
  unfold layV
  go_enter Try.func96, Try.ntmps96
  go_upto_region 1 with (refine wp_boxV rfl 73 _ rfl d.cells rfl (w.heap.size + 1) (by simp) ?_)
  rw [← hw1, ← hN]
  clear hw1 hN
  obtain ⟨⟨x0, x1⟩, x3, _⟩ := HXc.out w1 (Kept.refl _ _)
  have HB1 : Hid (Box w1 (N + 1) 73 d.cells) := x3
  clear x3
  go_wp2_with (first
    | (refine wp_loadM rfl _ rfl (N + 1) d.cells rfl (MD.size HOk.out) HB1.out ?_)
    | (go_at_call 86
       refine Calls.mono (answered_any m a cap x _ _ d 12 w1 (HM.out.no HK1.out)) ?_
       rintro e w2 ⟨rfl, hk2⟩
       rw [HH.out]
       have HK2 : Hid (Kept No w1 w2) := hk2
       obtain ⟨⟨y0, y1⟩, y2, _⟩ := HXc.out w2 HK2.out.of_no
       clear hk2)
    | (go_at_call 69
       refine Calls.mono (take_anyU ub bb ct at' X d.fi () w2 (HT.out.no (HK1.out.then HK2.out))) ?_
       rintro e w4 ⟨rfl, hT4, hk4⟩
       rw [HTb.out]
       have HT4 : Hid (Tal 117 ansU w4 ub bb at' ct (takeS X d.fi ())) := hT4
       have HK4 : Hid (Kept (Tb2 ub bb) w w4) := ((HK1.out.then HK2.out).of_no).then hk4
       have HK14 : Hid (Kept (Tb2 ub bb) w1 w4) := HK2.out.of_no.then hk4
       obtain ⟨⟨u0, u1⟩, u2, u3⟩ := HXc.out w4 HK14.out
       have HU : Hid (Box w4 N 163 #[.int .i64 n, .int .i64 c, .slice pa l k, .int .i64 err, .string ⟨#[]⟩, .int .i64 0, .int .i64 0, .int .i64 0, .slice none 0 0, .slice da dl dc, .int .i64 0, .int .i64 sn, .int .i64 sc, .int .i64 0, .pointer (some ⟨ub, 0, none⟩)]) := u3
       have HM4 : Hid (Mach w4 m a cap x t v) := HM.out.kept HK4.out HDj.out
       have c3 := HU.out.cell 3
       have c4 := HU.out.cell 4
       have c5 := HU.out.cell 5
       have c6 := HU.out.cell 6
       have c7 := HU.out.cell 7
       have c8 := HU.out.cell 8
       have c9 := HU.out.cell 9
       have c10 := HU.out.cell 10
       have c11 := HU.out.cell 11
       have c12 := HU.out.cell 12
       have c13 := HU.out.cell 13
       simp only [List.getElem?_toArray, List.getElem?_cons_zero, List.getElem?_cons_succ] at c3 c4 c5 c6 c7 c8 c9 c10 c11 c12 c13
       clear hT4 hk4 u3 x0 x1 y0 y1 u0 u1)
    | (go_at_call 75
       refine Calls.mono (enterE_any m a cap x _ _ err sn sc da dl dc w4 HM4.out) ?_
       rintro e w9 ⟨rfl, hM9, hk9⟩
       have HM9 : Hid (Mach w9 m a cap x 145 (endV err sn sc da dl dc)) := hM9
       have HK9 : Hid (Kept (Only m) w4 w9) := hk9
       clear hM9 hk9))
  go_ret
  refine ⟨rfl, HM9.out, HT4.out.kept HK9.out (fun k hk e => ?_), (HK4.out.mono (fun i _ e => .inr e)).then (HK9.out.mono (fun i _ e => .inl e))⟩
  have e : k = m := e
  subst e
  rcases hk with h | h | h
  · exact HDj.out k (.inl rfl) (.inl h)
  · exact HDj.out k (.inl rfl) (.inr h)
  · exact box_row HM4.out.box (by decide) HT4.out.row h rfl
end

end Go.Proofs.Ytgiokkcdgoloaab
