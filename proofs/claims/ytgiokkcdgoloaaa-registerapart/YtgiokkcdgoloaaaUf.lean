import Derived.Test.YtgiokkcdgoloaaaUe
namespace Go.Proofs.Ytgiokkcdgoloaaa.Md
open Go.RowKit
set_option linter.unusedVariables false
set_option linter.unusedSimpArgs false

theorem made_any {H : Nat → Prop} (wr : Bool) (cl op : Int) (ky : Ky) (sa : Option Addr) (n sk : Nat) (rd sz : Int) (da : Option Addr) (dl dk : Nat) (gs zs : List Int) (w : World) (hg : RdI w ⟨sa, n, sk⟩ gs) (hg0 : sa = none → sk = 0) (hn : n ≤ 100) (hb : RdB w ⟨da, dl, dk⟩ zs) (hl : dl ≤ 140737488351232) (hoff : zs ≠ [] → ∀ k, At da k → k < w.heap.size ∧ H k) :
    Calls Try.prog 10 #[.agg (Aq.cells ⟨wr, cl, op, ky, ⟨sa, n, sk⟩, rd, sz, ⟨da, dl, dk⟩⟩)] w (MadO H w (newS wr cl op ky gs rd sz zs) (newR wr cl op ky gs rd sz ⟨da, dl, dk⟩)) := by
  cases wr with
  | true => exact made_t cl op ky sa n sk rd sz da dl dk gs zs w hg hg0 hn hb hl hoff
  | false => exact made_f cl op ky sa n sk rd sz da dl dk gs zs w hg hg0 hn hb hl hoff
theorem At.eq {b off k : Nat} (h : At (some ⟨b, off, none⟩) k) : k = b := by
  obtain ⟨ad, e, rfl⟩ := h
  cases e
  rfl
theorem rdB_lt {w : World} {l : Sl} {z : List Int} (h : RdB w l z) : z ≠ [] → ∀ k, At l.a k → k < w.heap.size := fun hne k e => by
  obtain ⟨b, off, ha, hc⟩ := h.row 0 (List.length_pos_iff.2 hne)
  rw [ha] at e
  rw [At.eq e]
  exact World.block_lt_of_cell? _ _ hc
theorem rows_lt {n : Nat} {w : World} {a : Option Addr} {xs : List (List Value)} (h : RowsAt n w a xs) (h1 : ∀ x ∈ xs, x ≠ []) : xs ≠ [] → ∀ k, At a k → k < w.heap.size := fun hne k e => by
  cases xs with
  | nil => exact absurd rfl hne
  | cons it r =>
    obtain ⟨b, off, ha, hc⟩ := h 0 it rfl
    rw [ha] at e
    rw [At.eq e]
    cases it with
    | nil => exact absurd rfl (h1 [] (by simp))
    | cons v _ => exact World.block_lt_of_cell? _ _ (hc 0 v rfl)
theorem MgIn.ok {w w1 : World} {d : Mg} {zs : List Int} {es : List En} {ls : List La} {cs : List Cm} (h : MgIn w d zs es ls cs) (hk : Kept No w w1) (h63 : -9223372036854775808 ≤ d.st.n) : MgOk w1 w1 d zs es ls cs := by
  have hs := hk.size
  refine ⟨h.no hk, fun hne k e => ?_, fun hne k e => ?_, fun hne k e => ?_, fun hne k e => ?_, h63⟩
  · have := rdB_lt h.b hne k e; omega
  · have := rows_lt h.e.row (by intro x hx; obtain ⟨y, _, rfl⟩ := List.mem_map.1 hx; exact List.cons_ne_nil _ _) (by simpa using hne) k e; omega
  · have := rows_lt h.l.row (by intro x hx; obtain ⟨y, _, rfl⟩ := List.mem_map.1 hx; exact List.cons_ne_nil _ _) (by simpa using hne) k e; omega
  · have := rows_lt h.c.row (by intro x hx; obtain ⟨y, _, rfl⟩ := List.mem_map.1 hx; exact List.cons_ne_nil _ _) (by simpa using hne) k e; omega
/-- Steps that came in. -/
structure RdS (w : World) (t : Sl) (xs : List Stp) : Prop where
  row : RowsAt 31 w t.a (xs.map Stp.cs)
  len : xs.length = t.l
  each : ∀ x ∈ xs, ∃ (bs : List Int) (es : List En) (ls : List La) (cs : List Cm), MgIn w x.m bs es ls cs ∧ -9223372036854775808 ≤ x.m.st.n
theorem RdS.at {w : World} {t : Sl} {xs : List Stp} (h : RdS w t xs) {i : Nat} (hi : i < t.l) : ∃ tb tq a bs es ls cs, t.a = some ⟨tb, tq, none⟩ ∧ (∀ (j : Nat) v, (Stp.cs a)[j]? = some v → w.cell? ⟨tb, tq + i * 31 + j, none⟩ = some v) ∧ MgIn w a.m bs es ls cs ∧ -9223372036854775808 ≤ a.m.st.n := by
  have hx : xs[i]? = some (xs[i]'(by rw [h.len]; exact hi)) := List.getElem?_eq_getElem _
  obtain ⟨b, off, e, hc⟩ := h.row i _ (by rw [List.getElem?_map, hx]; rfl)
  obtain ⟨bs, es, ls, cs, h1, h2⟩ := h.each _ (List.mem_of_getElem? hx)
  exact ⟨b, off, _, bs, es, ls, cs, e, hc, h1, h2⟩
theorem E28 : Try.prog.underlying 28 = some (.slice (Try.prog.elem 28)) := by kernel_rfl
theorem F28 : (Try.prog.info? (Try.prog.elem 28)).map (·.size) = some 31 := by kernel_rfl
end Go.Proofs.Ytgiokkcdgoloaaa.Md
namespace Go.Proofs.Ytgiokkcdgoloaaa.Md
open Go.RowKit
set_option linter.unusedVariables false
set_option linter.unusedSimpArgs false

/-- A pair of machines in memory, with all that it has made (T). -/
def Pr (w W : World) (T : Nat → Prop) (m r : Nat) (g : Sl) : Prop := ∃ I LV s x, Wq w W I m r g LV s x ∧ RelW (fun k => k < w.heap.size ∨ T k) W I (Jx r g LV) s x ∧ (∀ k, I k ∨ Jx r g LV k → T k) ∧ ∀ k, T k → w.heap.size ≤ k ∧ k < W.heap.size
section
variable {w W W' : World} {T S : Nat → Prop} {m r : Nat} {g : Sl}
theorem Pr.no (h : Pr w W T m r g) (hk : Kept No W W') : Pr w W' T m r g := by
  obtain ⟨I, LV, s, x, h1, h2, h3, h4⟩ := h
  have hs := hk.size
  exact ⟨I, LV, s, x, h1.no hk, h2.no hk, h3, fun k e => ⟨(h4 k e).1, by have := (h4 k e).2; omega⟩⟩
theorem Pr.off (h : Pr w W T m r g) (hk : Kept S W W') (hS : ∀ k, S k → w.heap.size ≤ k ∧ ¬ T k) : Pr w W' T m r g := by
  obtain ⟨I, LV, s, x, h1, h2, h3, h4⟩ := h
  have hs := hk.size
  refine ⟨I, LV, s, x, h1.off hk (fun k e => ⟨(hS k e).1, fun f => (hS k e).2 (h3 k (.inl f)), fun f => (hS k e).2 (h3 k (.inr f))⟩), h2.off hk (fun k e f => ?_), h3, fun k e => ⟨(h4 k e).1, by have := (h4 k e).2; omega⟩⟩
  rcases e with e | e
  · have := (hS k f).1; omega
  · exact (hS k f).2 e
theorem Pr.in (h : Pr w W T m r g) : ∀ k, T k → w.heap.size ≤ k ∧ k < W.heap.size := by
  obtain ⟨I, LV, s, x, h1, h2, h3, h4⟩ := h
  exact h4
theorem Pr.kp (h : Pr w W T m r g) : Kept (fun k => w.heap.size ≤ k) w W := by
  obtain ⟨I, LV, s, x, h1, h2, h3, h4⟩ := h
  exact h1.kp
theorem Pr.step (h : Pr w W T m r g) (k : Int) (d : Mg) (zs : List Int) (es : List En) (ls : List La) (cs : List Cm) (hd : MgOk w W d zs es ls cs) :
    Calls Try.prog 12 #[.agg #[.iface 115 (.pointer (some ⟨m, 0, none⟩)), .pointer (some ⟨r, 0, none⟩)], .agg (Stp.cells ⟨k, d⟩)] W (fun e W' => e = .returned (.bool true) ∧ ∃ T', Pr w W' T' m r g ∧ Kept T W W' ∧ ∀ k, T' k → T k ∨ W.heap.size ≤ k) := by
  obtain ⟨I, LV, s, x, h1, h2, h3, h4⟩ := h
  refine (step_any (H := fun k => k < w.heap.size ∨ T k ∨ W.heap.size ≤ k) w I m r g LV s x k d zs es ls cs W h1 (h2.wide (fun k _ e => e.imp id .inl)) hd (fun k e => e.elim .inl (fun f => .inr (.inr f)))).mono ?_
  rintro e W' ⟨I', LV', s', x', rfl, q1, q2, q3, q4⟩
  have hs := q3.size
  have h0 := h1.kp.size
  refine ⟨rfl, fun k => T k ∨ (W.heap.size ≤ k ∧ k < W'.heap.size), ⟨I', LV', s', x', q1, q2.wide (fun k l e => ?_), fun k e => ?_, fun k e => ?_⟩, q3.mono (fun k _ e => h3 k e), fun k e => e.imp id (·.1)⟩
  · rcases e with e | e | e
    · exact .inl e
    · exact .inr (.inl e)
    · exact .inr (.inr ⟨e, l⟩)
  · rcases q4 k e with f | f
    · exact .inl (h3 k f)
    · exact .inr ⟨f, e.elim (fun e => (q1.ia k e).2.1) (fun e => q1.ref.lt e)⟩
  · rcases e with e | e
    · have := h4 k e; omega
    · omega
theorem Pr.look (h : Pr w W T m r g) : Calls Try.prog 11 #[.agg #[.iface 115 (.pointer (some ⟨m, 0, none⟩)), .pointer (some ⟨r, 0, none⟩)]] W (fun e w' => e = .returned (.bool true) ∧ Kept No W w') := by
  obtain ⟨I, LV, s, x, h1, h2, h3, h4⟩ := h
  exact look_any w I m r g LV s x W h1 h2
end
theorem Wq.base {w w1 W : World} {I : Nat → Prop} {m r : Nat} {g : Sl} {LV : Option (Nat × Nat)} {s : RM} {x : Rx} (h : Wq w1 W I m r g LV s x) (hk : Kept No w w1) : Wq w W I m r g LV s x := by
  have hs := hk.size
  refine ⟨h.mch, h.ref, fun k e => ⟨by have := (h.ia k e).1; omega, (h.ia k e).2⟩, fun k e => by have := h.jb k e; omega, hk.of_no.trans h.kp (fun _ e => e) (fun k l e => ?_), h.lv⟩
  have : w1.heap.size ≤ k := e
  show w.heap.size ≤ k
  omega
theorem Pr.made (wr : Bool) (cl op : Int) (ky : Ky) (sa : Option Addr) (n sk : Nat) (rd sz : Int) (da : Option Addr) (dl dk : Nat) (gs zs : List Int) (w w1 : World) (hk : Kept No w w1) (hg : RdI w ⟨sa, n, sk⟩ gs) (hg0 : sa = none → sk = 0) (hn : n ≤ 100) (hb : RdB w ⟨da, dl, dk⟩ zs) (hl : dl ≤ 140737488351232) :
    Calls Try.prog 10 #[.agg (Aq.cells ⟨wr, cl, op, ky, ⟨sa, n, sk⟩, rd, sz, ⟨da, dl, dk⟩⟩)] w1 (fun e W' => ∃ m r g T, e = .returned (.tuple #[.agg #[.iface 115 (.pointer (some ⟨m, 0, none⟩)), .pointer (some ⟨r, 0, none⟩)], .bool true]) ∧ Pr w W' T m r g ∧ (∀ k, T k → w1.heap.size ≤ k) ∧ Kept No w1 W') := by
  have hoff := rdB_lt hb
  have hs := hk.size
  refine (made_any (H := fun k => k < w.heap.size) wr cl op ky sa n sk rd sz da dl dk gs zs w1 ⟨Nums.kept hg.row hk (fun _ _ _ e => e), hg.len⟩ hg0 hn (hb.no hk) hl (fun hne k e => ⟨by have := hoff hne k e; omega, hoff hne k e⟩)).mono ?_
  rintro e W' ⟨m, r, g, I, rfl, q1, q2⟩
  refine ⟨m, r, g, fun k => I k ∨ Jx r g none k, rfl, ⟨I, none, _, _, q1.base hk, q2.wide (fun k _ e => .inl e), fun k e => e, fun k e => ?_⟩, fun k e => e.elim (fun e => (q1.ia k e).1) (fun e => q1.jb k e), q1.kp.mono (fun k l e => by have : w1.heap.size ≤ k := e; omega)⟩
  rcases e with e | e
  · have := q1.ia k e; omega
  · have := q1.jb k e; have := q1.ref.lt e; omega

end Go.Proofs.Ytgiokkcdgoloaaa.Md
