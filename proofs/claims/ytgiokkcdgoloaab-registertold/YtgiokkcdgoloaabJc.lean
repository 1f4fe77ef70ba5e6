import Derived.Test.YtgiokkcdgoloaabIe
namespace Go.Proofs.Ytgiokkcdgoloaab
open Go.RowKit
set_option linter.unusedVariables false
set_option linter.unusedSimpArgs false
namespace Wa
theorem size52 : (Try.prog.info? 73).map (·.size) = some 30 := by kernel_rfl
theorem run_store52 {w : World} {g : Nat} {d0 d : MD} (hb : Box w g 73 d0.cells) (h0 : MdOk d0) (hd : MdOk d) : (storeVar 73 ⟨g, 0, none⟩ (.agg d.cells)).run Try.prog w = .ok () (w.setRow g d.cells) :=
  run_storeVar_row w g 73 73 d0.cells d.cells hb (by rw [MD.size hd]; exact size52) (by rw [MD.size hd, MD.size h0]) (MD.one hd)
theorem load41 {w : World} {g : Nat} {a b : Value} (h : Box w g 29 #[a, b]) : (loadVar 29 ⟨g, 0, none⟩).run Try.prog w = .ok (.agg #[a, b]) w :=
  run_loadVar_row w g 29 29 _ (0, 0) _ h Try.underlying29 rfl (by kernel_rfl)
section
variable {ops : Array Oper} {o : Oper} {a : Act} {w w' : World} {Q : Exit → Act → World → Prop} {md : Region.Mode} {S : World → Prop} {fuel : Nat} {listed : Array Bool}
theorem step_appB {i : Nat} (hi : ops[i]? = some o) (hw : Region.wanted o (yielded ops a.tmps) = true) (s x : Operand) (ho : o.op = .call { callee := Callee.builtin Builtin.append, args := #[s, x], argTypes := #[22, 22] }) (b : Nat) (hs : a.eval s = .slice (some ⟨b, 0, none⟩) 0 0) (hown : w.ownsRow b 5 1 (.slice (some ⟨b, 0, none⟩) 0 0) 0 []) (xa : Option Addr) (n c : Nat) (zs : List Int) (hx : a.eval x = .slice xa n c) (hz : zs.length = n) (hb : Bytes w xa zs) (hnil : xa = none → c = 0) (hn : n ≤ 140737488355328) (hbs : b ≤ w.heap.size)
    (h : ∀ a' c' w', OwnB w' b a' c' zs → Kept (Only b) w w' → S w' ∧ (S w' → wpAnyH Try.prog md ops Q S fuel (listed.setIfInBounds i true) (a.put o.dst (.slice a' n c')) w')) : StepH md ops Q S fuel listed a w i := by
  obtain ⟨a', c', w', hrun, hO, hk⟩ := exec_appB s x ho b hs hown xa n c zs hx hz hb hnil hn hbs
  obtain ⟨h1, h2⟩ := h a' c' w' hO hk
  exact step_run hi hw hrun h1 h2
end
theorem pick1 {i a : Nat} (h : i ∈ [a]) : i = a := by simpa using h
end Wa
theorem Own.notBox {t t' : TypeId} {c : Nat} {w : World} {base : Nat} {a : Option Addr} {cap n : Nat} {vs : List Value} (h : Own t c w base a cap n vs) {g : Nat} {cs : Array Value} (hb : Box w g t' cs) (ht : t ≠ t') : ¬ At a g := fun e => by
  obtain ⟨cur, e1⟩ := Gx.own_type h e
  have e2 : w.heap[g]? = some (.cells cs t' (0, 0)) := hb
  exact Gx.typ_ne e1 e2 ht

theorem own1 (W : World) (v : Value) (base : Nat) (hb : base ≤ W.heap.size) : Own 22 1 (W.alloc (.cells #[v] 22)) base (some ⟨W.heap.size, 0, none⟩) 1 1 [v] :=
  ⟨by simp, .inr ⟨W.heap.size, 1, #[v], rfl, hb, heap_alloc_new W _, Nat.le_refl _, by unfold maxLen; decide, by simp, by simp⟩⟩
/-- append(all, more...) -/
theorem wp_appQ {ops : Array Oper} {rest : List Oper} {o : Oper} {a : Act} {w : World} {Q : Exit → Act → World → Prop} (hgd : o.guard = Option.none) (s x : Operand) (ho : o.op = .call { callee := .builtin .append, args := #[s, x], argTypes := #[24, 24] })
    (base : Nat) (sa : Option Addr) (sn sc : Nat) (K : List Gx.Ent) (hs : a.eval s = .slice sa sn sc) (hsn : K.length = sn) (hown : Gx.Rw w base sa sc K) (b : Nat) (xa : Option Addr) (xn xc : Nat) (K' : List Gx.Ent) (hx : a.eval x = .slice xa xn xc) (hxn : K'.length = xn) (hox : Own 22 1 w b xa xc xn (K'.map Gx.entV)) (hlen : sn + xn ≤ 2000000) (h0 : 0 < sn ∨ 0 < xn) (hbase : base ≤ w.heap.size)
    (h : ∀ a' c' w', Hid (Gx.Rw w' base a' c' (K ++ K')) → Hid ((a' = sa ∧ c' = sc ∧ Kept (At sa) w w') ∨ ((∀ k, At a' k → w.heap.size ≤ k) ∧ Kept No w w')) → wpList Try.prog ops Q rest (a.put o.dst (.slice a' (sn + xn) c')) w') :
    wpList Try.prog ops Q (o :: rest) a w := by
  subst hsn hxn
  have one : ∀ u ∈ K'.map Gx.entV, u.oneCell' = true := fun u hu => by obtain ⟨e, _, rfl⟩ := List.mem_map.1 hu; rfl
  have fin : ∀ {a' c' w'}, w'.ownsRow base 22 1 (.slice a' (K.length + K'.length) c') (K.length + K'.length) (K.map Gx.entV ++ K'.map Gx.entV) → Gx.Rw w' base a' c' (K ++ K') := fun {a' c' w'} h => by
    unfold Gx.Rw
    rw [List.length_append, List.map_append]
    exact h
  rcases hox.2 with ⟨hv, hn0⟩ | ⟨g, cap', cur, hv, hb, hg, hl, hm, hcs, htk⟩
  · simp only [Value.slice.injEq] at hv
    obtain ⟨e1, e2, e3⟩ := hv
    have hK : K' = [] := List.eq_nil_of_length_eq_zero e2
    subst hK e1 e3
    have hpos : 0 < K.length := by rcases h0 with h0 | h0; exact h0; exact absurd h0 (by simp)
    obtain ⟨e, he⟩ : ∃ e, K[0]? = some e := ⟨_, List.getElem?_eq_getElem hpos⟩
    obtain ⟨g, rfl, -⟩ := hown.at he
    obtain ⟨i0, hi, hz0, hz1, hz2⟩ := info_parts Gx.Try.info22x
    have hcap : K.length ≤ sc := by
      rcases hown.2 with ⟨hv, _⟩ | ⟨g', cap', cur, hv, hb, hg, hl, hm, _⟩
      · simp at hv
      · simp only [Value.slice.injEq] at hv
        obtain ⟨-, -, rfl⟩ := hv
        omega
    refine wpList_append_fits_any _ hgd s x 24 ho base 22 i0 1 Gx.Try.und24x hi hz1 g K.length sc (K.map Gx.entV) hs hown none 0 0 [] hx rfl (fun _ => ⟨rfl, rfl⟩) (fun ad e => by cases e) (fun u hu => by simp at hu) (by omega) ?_
    intro w' hown' hgrow
    exact h _ _ w' (fin (by simpa using hown')) (.inl ⟨rfl, rfl, (Kept.refl _ _).grown hgrow (fun k e _ => by cases e; exact ⟨_, rfl, rfl⟩)⟩)
  · simp only [Value.slice.injEq] at hv
    obtain ⟨rfl, -, rfl⟩ := hv
    refine Gx.wp_appN w 24 22 (.slice none 0 0) 1 24 Gx.Try.und24x Gx.Try.info22x rfl (by decide) hgd s x ho base sa _ sc (K.map Gx.entV) hs hown ⟨g, 0, none⟩ _ _ (K'.map Gx.entV) hx (by simp) ?_ one (by omega) (by omega) hbase ?_
    · intro j u hu
      have hox' : w.ownsRow b 22 1 (.slice (some ⟨g, 0, none⟩) K'.length _) K'.length (K'.map Gx.entV) := hox
      exact hox'.cells (by rfl) j u hu
    · intro a' c' w' HO HC
      exact h a' c' w' (fin HO.out) HC

/-- A result laid down. -/
def alR (W : World) (cs : Array Value) : World := (al90 W).setRow W.heap.size cs
theorem alR_run (W : World) (sn sc : Int) (da : Option Addr) (n dc : Nat) : Sem.run Try.prog (storeR ⟨W.heap.size, 0, none⟩ (.agg (resC 0 sn sc da n dc))) (al90 W) = .ok () (alR W (resC 0 sn sc da n dc)) := run_storeR' (Is90.new W) _ rfl (resC_one _ _ _ _ _ _)
theorem alR_kept (W : World) (cs : Array Value) : Kept No W (alR W cs) :=
  ((Kept.refl No W).alloc _).trans (Kept.setRow _ _ _) (fun _ e => e) (fun j l e => by have e : j = W.heap.size := e; omega)
theorem alR_cell (W : World) (sn sc : Int) (da : Option Addr) (n dc : Nat) : (alR W (resC 0 sn sc da n dc)).cell? ⟨W.heap.size, 6, none⟩ = some (.slice da n dc) := by
  have h : Box (alR W (resC 0 sn sc da n dc)) W.heap.size 39 (resC 0 sn sc da n dc) := Box.setRow (Box.new _ _ _) _
  exact h.cell 6
theorem alR_size (W : World) (cs : Array Value) : W.heap.size ≤ (alR W cs).heap.size := (alR_kept W cs).size

end Go.Proofs.Ytgiokkcdgoloaab
