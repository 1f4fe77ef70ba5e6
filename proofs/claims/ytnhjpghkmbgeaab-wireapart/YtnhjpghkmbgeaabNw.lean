import Derived.Test.YtnhjpghkmbgeaabPu
namespace Go.Proofs.Ytnhjpghkmbgeaab
open Go.RowKit
set_option linter.unusedVariables false

theorem Try.info42 : (Try.prog.info? 42).map (fun i => (i.zero, i.size, i.bytes)) = some (some (.agg #[.int .i64 0, .int .i64 0, .slice none 0 0]), 3, 40) := by kernel_rfl

def Item.cells (x : Item) : List Value := [.int .i64 x.k, .int .i64 x.n, .slice x.a x.m x.c]
def cellsOf : List Item → List Value
  | [] => []
  | x :: r => x.cells ++ cellsOf r
theorem cellsOf_len (xs : List Item) : (cellsOf xs).length = xs.length * 3 := by
  induction xs with
  | nil => rfl
  | cons x r ih => simp [cellsOf, Item.cells, ih]; omega
theorem cellsOf_app (xs ys : List Item) : cellsOf (xs ++ ys) = cellsOf xs ++ cellsOf ys := by
  induction xs with
  | nil => rfl
  | cons x r ih => simp [cellsOf, ih]
theorem cellsOf_at (xs : List Item) (i : Nat) (x : Item) (h : xs[i]? = some x) (r : Nat) (hr : r < 3) : (cellsOf xs)[i * 3 + r]? = x.cells[r]? := by
  induction xs generalizing i with
  | nil => simp at h
  | cons y l ih =>
    cases i with
    | zero =>
      simp at h; subst h
      rw [Nat.zero_mul, Nat.zero_add, cellsOf, List.getElem?_append_left (by simpa [Item.cells] using hr)]
    | succ i =>
      have := ih i (by simpa using h)
      rw [cellsOf, List.getElem?_append_right (by simp [Item.cells]; omega)]
      rw [show (i + 1) * 3 + r - y.cells.length = i * 3 + r from by simp [Item.cells]; omega]
      exact this
theorem cells_one (xs : List Item) : ∀ u ∈ cellsOf xs, u.oneCell' = true := by
  induction xs with
  | nil => intro u hu; simp [cellsOf] at hu
  | cons x r ih =>
    intro u hu
    simp only [cellsOf, List.mem_append] at hu
    rcases hu with hu | hu
    · simp [Item.cells] at hu
      rcases hu with rfl | rfl | rfl <;> rfl
    · exact ih u hu

/-- A row of things that the call itself has made. -/
def OwnI (w : World) (base : Nat) (a : Option Addr) (c : Nat) (xs : List Item) : Prop := w.ownsRow base 42 3 (.slice a xs.length c) xs.length (cellsOf xs)

theorem OwnI.its {w : World} {base : Nat} {a : Option Addr} {c : Nat} {xs : List Item} (h : OwnI w base a c xs) : Its w a xs := by
  intro i x hx
  obtain ⟨hi, _⟩ := List.getElem?_eq_some_iff.1 hx
  rcases h.2 with ⟨hv, h0⟩ | ⟨g, cap', cur, hv, hb, hg, _⟩
  · omega
  · simp only [Value.slice.injEq] at hv
    obtain ⟨rfl, -, rfl⟩ := hv
    refine ⟨g, 0, rfl, ?_, ?_, ?_⟩
    · rw [Nat.zero_add, World.ownsRow.cellAt h _ (by omega)]; have := cellsOf_at xs i x hx 0 (by omega); rw [Nat.add_zero] at this; rw [this]; rfl
    · rw [Nat.zero_add, World.ownsRow.cellAt h _ (by omega), cellsOf_at xs i x hx 1 (by omega)]; rfl
    · rw [Nat.zero_add, World.ownsRow.cellAt h _ (by omega), cellsOf_at xs i x hx 2 (by omega)]; rfl

theorem own_type {w : World} {base : Nat} {e : TypeId} {size : Nat} {a : Option Addr} {n c : Nat} {xs : List Value} (h : w.ownsRow base e size (.slice a n c) n xs) {k : Nat} (hk : At a k) : ∃ cur, w.heap[k]? = some (.cells cur e (0, 0)) := by
  obtain ⟨ad, rfl, rfl⟩ := hk
  rcases h.2 with ⟨hv, _⟩ | ⟨g, cap', cur, hv, hb, hg, _⟩
  · simp only [Value.slice.injEq] at hv; cases hv.1
  · simp only [Value.slice.injEq, Option.some.injEq] at hv; rw [hv.1]; exact ⟨cur, hg⟩

theorem Ws.type {w : World} {base g : Nat} {a : Option Addr} {c : Nat} {st : Option (List Int)} (h : Ws w base g a c st) {k : Nat} (hk : WrAt g a k) : ∃ cur t, w.heap[k]? = some (.cells cur t (0, 0)) ∧ t ≠ 42 := by
  obtain ⟨zs, bad, hw⟩ := h.wr
  rcases hk with rfl | hk
  · exact ⟨_, _, hw.cell, by decide⟩
  · obtain ⟨cur, hc⟩ := own_type hw.own hk
    exact ⟨cur, 5, hc, by decide⟩

theorem OwnI.apart {w : World} {base base' g : Nat} {a na : Option Addr} {c nc : Nat} {st : Option (List Int)} {xs : List Item} (h : Ws w base g a c st) (hi : OwnI w base' na nc xs) {k : Nat} (hk : WrAt g a k) (hk' : At na k) : False := by
  obtain ⟨cur, t, h1, h2⟩ := h.type hk
  obtain ⟨cur', h3⟩ := own_type hi hk'
  rw [h1] at h3
  cases h3
  exact h2 rfl

theorem OwnI.kept {S : Nat → Prop} {w w' : World} {base : Nat} {a : Option Addr} {c : Nat} {xs : List Item} (h : OwnI w base a c xs) (hk : Kept S w w') (hS : ∀ k, At a k → ¬ S k) : OwnI w' base a c xs := by
  refine ⟨h.1, ?_⟩
  rcases h.2 with hn | ⟨g, cap', cur, hv, hb, hg, rest⟩
  · exact .inl hn
  · refine .inr ⟨g, cap', cur, hv, hb, ?_, rest⟩
    rw [hk.block g (Array.getElem?_eq_some_iff.1 hg).1 (hS g ?_)]
    · exact hg
    · simp only [Value.slice.injEq] at hv
      exact ⟨_, hv.1, rfl⟩
theorem OwnI.no {w w' : World} {base : Nat} {a : Option Addr} {c : Nat} {xs : List Item} (h : OwnI w base a c xs) (hk : Kept No w w') : OwnI w' base a c xs := h.kept hk (fun _ _ e => e)
theorem OwnI.nil (w : World) (base : Nat) : OwnI w base none 0 [] := World.ownsRow_nil _ _ _ _

/-- append(now, x). -/
theorem wp_appI {P : Program} (w : World) {ops : Array Oper} {rest : List Oper} {o : Oper} {a : Act} {Q : Exit → Act → World → Prop}
    (h22 : P.underlying 34 = some (.slice 42)) (h27 : (P.info? 42).map (fun i => (i.zero, i.size, i.bytes)) = some (some (.agg #[.int .i64 0, .int .i64 0, .slice none 0 0]), 3, 40))
    (hgd : o.guard = Option.none) (s x : Operand) (ho : o.op = .call { callee := .builtin .append, args := #[s, x], argTypes := #[34, 34] })
    (base : Nat) (sa : Option Addr) (sn sc : Nat) (xs : List Item) (hs : a.eval s = .slice sa sn sc) (hsn : xs.length = sn) (hown : OwnI w base sa sc xs)
    (xb : Nat) (xc : Nat) (y : Item) (hx : a.eval x = .slice (some ⟨xb, 0, Option.none⟩) 1 xc) (h0 : w.cell? ⟨xb, 0, Option.none⟩ = some (.int .i64 y.k)) (h1 : w.cell? ⟨xb, 1, Option.none⟩ = some (.int .i64 y.n)) (h2 : w.cell? ⟨xb, 2, Option.none⟩ = some (.slice y.a y.m y.c))
    (hlen : sn ≤ 1000000) (hbase : base ≤ w.heap.size)
    (h : ∀ a' c' w', Hid (OwnI w' base a' c' (xs ++ [y])) → Hid (Kept (At sa) w w') → Hid ((a' = sa ∧ c' = sc) ∨ ∀ k, At a' k → w.heap.size ≤ k) → wpList P ops Q rest (a.put o.dst (.slice a' (sn + 1) c')) w') :
    wpList P ops Q (o :: rest) a w := by
  subst hsn
  refine wp_appG w 34 42 _ 3 40 h22 h27 rfl (by decide) hgd s x ho base sa _ sc (cellsOf xs) hs hown (some ⟨xb, 0, Option.none⟩) 1 xc y.cells hx rfl (fun e => by cases e) ?_ ?_ (by omega) (by omega) hbase ?_
  · intro ad e j u hu
    cases e
    rw [addr_add, Nat.zero_add]
    match j, hu with
    | 0, hu => simp [Item.cells] at hu; subst hu; exact h0
    | 1, hu => simp [Item.cells] at hu; subst hu; exact h1
    | 2, hu => simp [Item.cells] at hu; subst hu; exact h2
    | j + 3, hu => simp [Item.cells] at hu
  · have := cells_one [y]; simpa [cellsOf] using this
  · intro a' c' w' HO HK HF
    refine h a' c' w' ?_ HK HF
    show OwnI w' base a' c' (xs ++ [y])
    unfold OwnI
    rw [cellsOf_app, List.length_append]
    have : cellsOf [y] = y.cells := by simp [cellsOf]
    rw [this]
    exact HO

end Go.Proofs.Ytnhjpghkmbgeaab
