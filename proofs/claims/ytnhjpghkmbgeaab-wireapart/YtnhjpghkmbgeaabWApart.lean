import Derived.Test.YtnhjpghkmbgeaabAp
import Derived.Deep.CutBlock
import Derived.Deep.DeepCutAuto
import Derived.Deep.RegionHeld3
import Derived.StillTailTactics
import Derived.Deep.RegionLaw
namespace Go.Proofs.Ytnhjpghkmbgeaab
open Go.RowKit
set_option linter.unusedVariables false
namespace ap

/-- Numbers in a row. -/
def Ints (w : World) (a : Option Addr) (ts : List Int) : Prop := ∀ (i : Nat) v, ts[i]? = some v → ∃ b off, a = some ⟨b, off, none⟩ ∧ w.cell? ⟨b, off + i, none⟩ = some (.int .i64 v)
theorem Ints.no {w w' : World} {a : Option Addr} {ts : List Int} (h : Ints w a ts) (hk : Kept No w w') : Ints w' a ts := by
  intro i v hv
  obtain ⟨b, off, e, hc⟩ := h i v hv
  exact ⟨b, off, e, hk.cell hc (fun e => e)⟩

theorem laid {w2 w3 : World} {cs : Array Value} {t : TypeId} (hk : Kept No (w2.alloc (Obj.cells cs t)).drew w3) : w3.heap[w2.heap.size]? = some (.cells cs t (0, 0)) ∧ Kept No w2 w3 :=
  ⟨(hk.block w2.heap.size (by show w2.heap.size < (w2.alloc (Obj.cells cs t)).heap.size; rw [World.heap_size_alloc1]; omega) (fun e => e)).trans (heap_new w2 _), (((Kept.refl No w2).alloc _).drew).then hk⟩
theorem laid3 {w2 w3 : World} {g : Nat} {u0 u1 u2 v0 v1 v2 : Value} {t : TypeId} (h : w3.heap[g]? = some (.cells #[u0, u1, u2] t (0, 0))) (hk : Kept No w2 w3) (hg : w2.heap.size ≤ g) :
    (((w3.setCell ⟨g, 0, none⟩ v0).setCell ⟨g, 1, none⟩ v1).setCell ⟨g, 2, none⟩ v2).heap[g]? = some (.cells #[v0, v1, v2] t (0, 0)) ∧ Kept No w2 (((w3.setCell ⟨g, 0, none⟩ v0).setCell ⟨g, 1, none⟩ v1).setCell ⟨g, 2, none⟩ v2) := by
  have h1 := heap_setCell_same w3 g 0 _ t v0 h
  have h2 := heap_setCell_same _ g 1 _ t v1 h1
  have h3 := heap_setCell_same _ g 2 _ t v2 h2
  exact ⟨h3, ((hk.setCell (p := ⟨g, 0, none⟩) (fun e => absurd e (by simp only; omega)) _).setCell (p := ⟨g, 1, none⟩) (fun e => absurd e (by simp only; omega)) _).setCell (p := ⟨g, 2, none⟩) (fun e => absurd e (by simp only; omega)) _⟩
theorem row3 {w3 : World} {g : Nat} {v0 v1 v2 : Value} {t : TypeId} (h : w3.heap[g]? = some (.cells #[v0, v1, v2] t (0, 0))) : (w3.cell? ⟨g, 0, none⟩ = some v0 ∧ w3.cell? ⟨g, 1, none⟩ = some v1 ∧ w3.cell? ⟨g, 2, none⟩ = some v2) ∧ w3.frozen? ⟨g, 0, none⟩ = false ∧ w3.frozen? ⟨g, 1, none⟩ = false ∧ w3.frozen? ⟨g, 2, none⟩ = false :=
  ⟨⟨by rw [cell_of_row w3 _ 0 _ t (0, 0) h]; rfl, by rw [cell_of_row w3 _ 1 _ t (0, 0) h]; rfl, by rw [cell_of_row w3 _ 2 _ t (0, 0) h]; rfl⟩, frozen_of_row w3 _ 0 _ t h, frozen_of_row w3 _ 1 _ t h, frozen_of_row w3 _ 2 _ t h⟩

/-- At the head of a round. -/
def Hd (w wr : World) (la : Nat → Option Addr) (ln lc : Nat → Nat) (j : Nat) (p : Nat → Nat) (Y : Nat → List Item) (a : Nat → Option Addr) (c : Nat → Nat) (na : Nat → Option Addr) (nc : Nat → Nat) : Prop :=
  Ap w wr la ln lc p Y Y a c na nc ∧ ∀ k, k < 2 → Its4 w (Y k) ∧ (Y k).length ≤ j ∧ p k ≤ ln k
theorem Hd.no {w wr w' : World} {la : Nat → Option Addr} {ln lc : Nat → Nat} {j : Nat} {p : Nat → Nat} {Y : Nat → List Item} {a : Nat → Option Addr} {c : Nat → Nat} {na : Nat → Option Addr} {nc : Nat → Nat} (h : Hd w wr la ln lc j p Y a c na nc) (hk : Kept No wr w') : Hd w w' la ln lc j p Y a c na nc := ⟨h.1.no hk, h.2⟩
def HdE (w wr : World) (la : Nat → Option Addr) (ln lc : Nat → Nat) (j : Nat) : Prop := ∃ p Y a c na nc, Hd w wr la ln lc j p Y a c na nc

/-- append(now[k], x) within a region that draws. -/
theorem step_now {ops : Array Oper} {o : Oper} {a : Act} {w : World} {K : Act → World → Prop} {Q : Exit → Act → World → Prop} {E : Prop}
    (hg : o.guard = Option.none) (s x : Operand) (hop : o.op = Op.call { callee := Callee.builtin Builtin.append, args := #[s, x], argTypes := #[34, 34] })
    (base : Nat) (sa : Option Addr) (sc : Nat) (Y : List Item) (hs : a.eval s = .slice sa Y.length sc) (hown : OwnI w base sa sc Y) (y : Item)
    (ad : Addr) (c : Nat) (hx : a.eval x = .slice (some ad) 1 c) (hnews : ∀ (j : Nat) u, y.cells[j]? = some u → w.cell? (ad.add j) = some u) (hlen : Y.length ≤ 1000000) (hbase : base ≤ w.heap.size)
    (hK : ∀ a' c' w', Hid (OwnI w' base a' c' (Y ++ [y])) → Hid (Kept (At sa) w w' ∧ Moved w sa a') → K (a.put o.dst (.slice a' (Y.length + 1) c')) w') :
    if Region.wanted o (yielded ops a.tmps) = true then Oper.wp Try.prog o a w K Q else E := by
  have hw : Region.wanted o (yielded ops a.tmps) = true := by simp [Region.wanted, hg]
  rw [if_pos hw]
  obtain ⟨i0, hi, hz0, hz1, hz2⟩ := info_parts Try.info42
  obtain ⟨v', w', hrun, r1, r2, _, r4⟩ := run_append_own_at (P := Try.prog) w base 34 o.type 42 i0 _ 3 40 Try.underlying34 hi hz0 hz1 hz2 rfl (by decide) (.slice sa Y.length sc) Y.length (cellsOf Y) hown ad 1 c y.cells rfl hnews (by have := cells_one [y]; simpa [cellsOf] using this) (by unfold maxLen; omega) (by omega) hbase
  obtain ⟨a', c', rfl⟩ := own_slice r1
  have ho : OwnI w' base a' c' (Y ++ [y]) := by
    unfold OwnI
    rw [cellsOf_app, List.length_append]
    have : cellsOf [y] = y.cells := by simp [cellsOf]
    rw [this]
    exact r1
  unfold Oper.wp
  simp [execOp, hop, resolve, invoke, builtin, hs, hx, hrun, Result.andThen]
  refine hK a' c' w' ho ⟨(Kept.refl _ _).grown r2 (fun k e _ => ?_), fun b hb => ?_⟩
  · cases sa with
    | none => simp [Value.ownBlock] at e
    | some ad' => simp [Value.ownBlock] at e; exact ⟨ad', rfl, e⟩
  · obtain ⟨ad2, rfl, rfl⟩ := hb
    rcases r4 with e | e
    · left
      cases sa with
      | none => simp [Value.ownBlock] at e
      | some ad' => simp [Value.ownBlock] at e; exact ⟨ad', rfl, e.symm⟩
    · right
      simp [Value.ownBlock] at e
      omega
theorem item_cells {w : World} {g : Nat} {y : Item} (h0 : w.cell? ⟨g, 0, none⟩ = some (.int .i64 y.k)) (h1 : w.cell? ⟨g, 1, none⟩ = some (.int .i64 y.n)) (h2 : w.cell? ⟨g, 2, none⟩ = some (.slice y.a y.m y.c)) : ∀ (j : Nat) u, y.cells[j]? = some u → w.cell? ((⟨g, 0, none⟩ : Addr).add j) = some u := by
  intro j u hu
  rw [addr_add, Nat.zero_add]
  match j, hu with
  | 0, hu => simp [Item.cells] at hu; subst hu; exact h0
  | 1, hu => simp [Item.cells] at hu; subst hu; exact h1
  | 2, hu => simp [Item.cells] at hu; subst hu; exact h2
  | j + 3, hu => simp [Item.cells] at hu

theorem put_k {w wr : World} {la : Nat → Option Addr} {ln lc p : Nat → Nat} {Z Y : Nat → List Item} {a : Nat → Option Addr} {c : Nat → Nat} {na : Nat → Option Addr} {nc : Nat → Nat} (h : Ap w wr la ln lc p Z Y a c na nc) {k : Nat} (hk : k < 2) (hZ : Its4 w (Z k)) (hl : (Z k).length ≤ 400) {x : Item} (hx : ItOk w x) (hr : ItR x) (hm : x.m ≤ 65536) :
    Calls Try.prog 15 #[.pointer (some ⟨w.heap.size, k * 2, none⟩), .agg #[.int .i64 x.k, .int .i64 x.n, .slice x.a x.m x.c]] wr fun e w' => e = .returned (.bool true) ∧ Kept (WrAt w.heap.size (a k)) wr w' ∧ ∃ a' c', Ap w w' la ln lc p (upd Z k (Z k ++ [x])) Y (upd a k a') (upd c k c') na nc := by
  have hw := h.wrk hk
  have hlen := hZ.len hl
  have hs : Ws (hole k hk (.slice (a (1 - k)) (flat (Z (1 - k))).length (c (1 - k))) (.bool false)) wr w.heap.size w.heap.size (a k) (c k) (some (flat (Z k))) := hw
  refine (put_any (H := hole k hk (.slice (a (1 - k)) (flat (Z (1 - k))).length (c (1 - k))) (.bool false)) w.heap.size w.heap.size (a k) (c k) (some (flat (Z k))) x.k x.n x.a x.m x.c x.zs wr hs (hx.no h.kept).sl hx.lo hx.hi (fun h0 b hb e => ?_) hr.1 (by show (flat (Z k)).length + 10 + x.m ≤ _; omega) h.kept.size).mono (fun e w' ⟨h1, a', c', h2, h3, h4⟩ => ⟨h1, h3, a', c', ?_⟩)
  · have e1 := sl_lt hx.sl h0 hb
    have e2 := hw.base e
    omega
  · have e : putIt (some (flat (Z k))) ⟨x.k, x.n, x.a, x.m, x.c, x.zs⟩ = some (flat (Z k ++ [x])) := by
      rw [putIt_some _ hr.2, flat_app]; simp [flat]
    rw [e] at h2
    exact h.put hk h2 h3 h4

/-- The two readers beside it all: where each stands (jx). -/
structure RI (w wr : World) (la : Nat → Option Addr) (ln lc p : Nat → Nat) (Y : Nat → List Item) (a : Nat → Option Addr) (c : Nat → Nat) (na : Nat → Option Addr) (nc : Nat → Nat) (g lb jx : Nat → Nat) : Prop where
  ap : Ap w wr la ln lc p Y Y a c na nc
  r : ∀ k, k < 2 → ∃ at_, Rs wr (g k) (lb k) (.ok (flat ((Y k).drop (jx k))) at_)
  lt : ∀ k, k < 2 → lb k < wr.heap.size
  ne : ∀ k, k < 2 → g (1 - k) ≠ g k ∧ lb (1 - k) ≠ g k ∧ w.heap.size + 3 < g k
section
variable {w wr w' : World} {la : Nat → Option Addr} {ln lc p : Nat → Nat} {Z Y : Nat → List Item} {a : Nat → Option Addr} {c : Nat → Nat} {na : Nat → Option Addr} {nc g lb jx : Nat → Nat}
theorem RI.no (h : RI w wr la ln lc p Y a c na nc g lb jx) (hk : Kept No wr w') : RI w w' la ln lc p Y a c na nc g lb jx :=
  ⟨h.ap.no hk, fun k hk2 => by obtain ⟨at_, h1⟩ := h.r k hk2; exact ⟨at_, h1.no hk⟩, fun k hk2 => by have := h.lt k hk2; have := hk.size; omega, h.ne⟩
theorem RI.read (h : RI w wr la ln lc p Y a c na nc g lb jx) {k : Nat} (hk : k < 2) {at_ : Nat} (hr : Rs w' (g k) (lb k) (.ok (flat ((Y k).drop (jx k + 1))) at_)) (hkp : Kept (Only (g k)) wr w') : RI w w' la ln lc p Y a c na nc g lb (upd jx k (jx k + 1)) := by
  obtain ⟨at0, h0⟩ := h.r k hk
  refine ⟨h.ap.off hkp (fun b hb e => ?_), fun q hq => ?_, fun q hq => by have := h.lt q hq; have := hkp.size; omega, h.ne⟩
  · have e' : b = g k := e
    subst e'
    obtain ⟨c1, h1⟩ := h0.typ
    exact ⟨(h.ne k hk).2.2, c1, 66, h1, by decide, by decide⟩
  · by_cases e : q = k
    · subst e; rw [upd_same]; exact ⟨at_, hr⟩
    · rw [upd_ne _ _ _ e]
      obtain ⟨at1, h1⟩ := h.r q hq
      have eq : q = 1 - k := by omega
      subst eq
      exact ⟨at1, h1.kept hkp (h.ne k hk).1 (h.ne k hk).2.1⟩
theorem read_k (h : RI w wr la ln lc p Y a c na nc g lb jx) {k : Nat} (hk : k < 2) {x : Item} (hx : (Y k)[jx k]? = some x) (hI : Its4 w (Y k)) :
    Calls Try.prog 19 #[.pointer (some ⟨g k, 0, none⟩), .int .i64 x.k] wr fun e w' => ∃ n' a' m' c', e = .returned (.agg #[.int .i64 x.k, .int .i64 n', .slice a' m' c']) ∧ RI w w' la ln lc p Y a c na nc g lb (upd jx k (jx k + 1)) ∧
      ∀ W, Kept No w' W → Calls Try.prog 18 #[.agg #[.int .i64 x.k, .int .i64 n', .slice a' m' c'], .agg #[.int .i64 x.k, .int .i64 x.n, .slice x.a x.m x.c]] W fun e w'' => e = .returned (.bool true) ∧ Kept No W w'' := by
  have hm := List.mem_of_getElem? hx
  have hok := hI.ok x hm
  have hr := hI.r x hm
  obtain ⟨at_, h0⟩ := h.r k hk
  have hd : flat ((Y k).drop (jx k)) = putOf x ++ flat ((Y k).drop (jx k + 1)) := by
    obtain ⟨hj, e⟩ := List.getElem?_eq_some_iff.1 hx
    unfold flat; rw [List.drop_eq_getElem_cons hj, List.flatMap_cons, e]
  rw [hd] at h0
  refine (read_all (g k) (lb k) _ x.k wr h0 (h.lt k hk) hr.1).mono ?_
  rintro e w' ⟨a', m', c', rfl, hs, ha, hr', hk'⟩
  rw [readS_put hr hok] at hs hr' ⊢
  simp only at hs hr' ⊢
  refine ⟨_, a', m', c', rfl, h.read hk hr' hk', fun W hW => ?_⟩
  refine sameItem_any x.k _ x.n a' x.a m' x.m c' x.c x.zs W (fun h2 => if_pos h2) (fun h2 => ?_)
  rw [if_neg (by omega)] at hs
  refine ⟨hs.no hW, ?_⟩
  have hsl := (hok.no h.ap.kept).sl
  exact (hsl.kept2 hk' (fun h0 i hi e => by
    have e' : i = g k := e
    have := sl_lt hok.sl h0 hi
    have := (h.ne k hk).2.2
    omega)).no hW
theorem done_k (h : Ap w wr la ln lc p Z Y a c na nc) {k : Nat} (hk : k < 2) {o : Nat} (ho : o = k * 2) {n : Nat} (hn : (flat (Z k)).length = n) (hl : n ≤ 140737488355328) :
    Calls Try.prog 16 #[.pointer (some ⟨w.heap.size, o, none⟩)] wr fun e w' => ∃ a' c', e = .returned (.tuple #[.slice a' n c', .int .i64 0]) ∧ OwnS w' wr.heap.size a' c' (flat (Z k)) ∧ Kept No wr w' := by
  subst hn ho
  have hs : Ws (hole k hk (.slice (a (1 - k)) (flat (Z (1 - k))).length (c (1 - k))) (.bool false)) wr w.heap.size w.heap.size (a k) (c k) (some (flat (Z k))) := h.wrk hk
  exact (Done_all (H := hole k hk (.slice (a (1 - k)) (flat (Z (1 - k))).length (c (1 - k))) (.bool false)) w.heap.size w.heap.size (a k) (c k) (some (flat (Z k))) wr hs hl).mono (fun e w' ⟨a', n', c', h1, h2, h3, h4⟩ => ⟨a', c', by rw [h1]; simp only [doneOf] at h2 ⊢; rw [h2], h3, h4⟩)
/-- An item of now[k] in memory. -/
theorem RI.cells (h : RI w wr la ln lc p Y a c na nc g lb jx) {k : Nat} (hk : k < 2) {j : Nat} {x : Item} (hx : (Y k)[j]? = some x) {nb off : Nat} (hna : na k = some ⟨nb, off, none⟩) :
    wr.cell? ⟨w.heap.size + 1, k, none⟩ = some (.slice (some ⟨nb, off, none⟩) (Y k).length (nc k)) ∧ wr.cell? ⟨nb, off + j * 3, none⟩ = some (.int .i64 x.k) ∧ wr.cell? ⟨nb, off + j * 3 + 1, none⟩ = some (.int .i64 x.n) ∧ wr.cell? ⟨nb, off + j * 3 + 2, none⟩ = some (.slice x.a x.m x.c) := by
  have h1 := h.ap.cN hk
  rw [hna] at h1
  have h2 := (h.ap.on k hk).its j x hx
  rw [hna] at h2
  obtain ⟨b', o', e, h3⟩ := h2
  cases e
  exact ⟨h1, h3⟩
theorem RI.skip (h : RI w wr la ln lc p Y a c na nc g lb jx) {k : Nat} (hk : k < 2) (hl : (Y k).length ≤ jx k) : RI w wr la ln lc p Y a c na nc g lb (upd jx k (jx k + 1)) := by
  refine ⟨h.ap, fun q hq => ?_, h.lt, h.ne⟩
  by_cases e : q = k
  · subst e
    rw [upd_same]
    obtain ⟨at_, h1⟩ := h.r q hk
    rw [List.drop_eq_nil_of_le hl] at h1
    rw [List.drop_eq_nil_of_le (by omega)]
    exact ⟨at_, h1⟩
  · rw [upd_ne _ _ _ e]; exact h.r q hq
theorem OwnI.some' {w : World} {base : Nat} {na : Option Addr} {nc : Nat} {Y : List Item} (h : OwnI w base na nc Y) (h0 : 0 < Y.length) : ∃ nb, na = some ⟨nb, 0, none⟩ := by
  rcases h.2 with ⟨hv, hn⟩ | ⟨g, cap', cur, hv, _⟩
  · omega
  · simp only [Value.slice.injEq] at hv
    exact ⟨g, hv.1⟩
end

set_option maxRecDepth 100000 in
set_option maxHeartbeats 8000000 in
theorem walk (la : Nat → Option Addr) (ln lc : Nat → Nat) (X : Nat → List Item) (ta : Option Addr) (tn tc : Nat) (ts : List Int) (w : World) (hX : ∀ k, k < 2 → (X k).length = ln k ∧ ln k ≤ 140737488355328 ∧ Its w (la k) (X k) ∧ ∀ x ∈ X k, ItOk w x) (htn : ts.length = tn) (htb : tn ≤ 140737488355328) (hts : Ints w ta ts) :
    Calls Try.prog 5 #[.slice (la 0) (ln 0) (lc 0), .slice (la 1) (ln 1) (lc 1), .slice ta tn tc] w fun e w' => e = .returned (.bool true) ∧ Kept No w w' := by
  have HX : Hid (∀ k, k < 2 → (X k).length = ln k ∧ ln k ≤ 140737488355328 ∧ Its w (la k) (X k) ∧ ∀ x ∈ X k, ItOk w x) := hX
  have HT : Hid (Ints w ta ts ∧ ts.length = tn) := ⟨hts, htn⟩
  obtain ⟨l0, hl0⟩ : ∃ l, l = Value.slice (la 0) (ln 0) (lc 0) := ⟨_, rfl⟩
  clear hX htn hts hl0 l0
  go_enter Try.func5, Try.ntmps5
  go_upto_block 0 with fail
  go_cut [] (fun wx => Hid (HdE w wx la ln lc 400))
  case first =>
    go_wp2_with fail
    go_loopw [11] (fun i wr => ∃ j : Nat, j ≤ 400 ∧ i = .int .i64 (j : Int) ∧ Hid (HdE w wr la ln lc j)) (fun i _ => 400 - (intOf i).toNat)
    case atStart =>
      refine ⟨0, Nat.zero_le _, rfl, fun _ => 0, fun _ => [], fun _ => none, fun _ => 0, fun _ => none, fun _ => 0, ⟨?_, ?_, ?_, ?_, fun k hk => OwnS.nil _ _, fun k hk => OwnI.nil _ _, fun b h => absurd h At.none, fun b h => absurd h At.none, ?_⟩, fun k hk => ⟨Its4.nil w, Nat.le_refl _, Nat.zero_le _⟩⟩
      · rw [Below.heap_alloc _ _ _ (by simp; omega), Below.heap_alloc _ _ _ (by simp; omega), Below.heap_alloc _ _ _ (by simp)]; exact heap_new _ _
      · rw [Below.heap_alloc _ _ _ (by simp), Below.heap_alloc _ _ _ (by simp)]; exact heap_new1 _ _ _
      · rw [Below.heap_alloc _ _ _ (by simp)]
        have := heap_new ((w.alloc (Obj.cells #[.slice none 0 0, .bool false, .slice none 0 0, .bool false] 38)).alloc (Obj.cells #[.slice none 0 0, .slice none 0 0] 39)) (Obj.cells #[.slice (la 0) (ln 0) (lc 0), .slice (la 1) (ln 1) (lc 1)] 39)
        simpa using this
      · have := heap_new (((w.alloc (Obj.cells #[.slice none 0 0, .bool false, .slice none 0 0, .bool false] 38)).alloc (Obj.cells #[.slice none 0 0, .slice none 0 0] 39)).alloc (Obj.cells #[.slice (la 0) (ln 0) (lc 0), .slice (la 1) (ln 1) (lc 1)] 39)) (Obj.cells #[.int .i64 0, .int .i64 0] 40)
        simpa using this
      · exact ((((Kept.refl _ _).alloc _).alloc _).alloc _).alloc _
    case round =>
      obtain ⟨j, hj, rfl, HH⟩ := hrel
      by_cases hlt : j < 400
      · have i1 : (j : Int) < 400 := by omega
        obtain ⟨p, Y, a, c, na, nc, hh⟩ := HH.out
        have HP : Hid (Hd w wr la ln lc j p Y a c na nc) := hh
        clear hh HH
        go_upto_if 31 with fail
        go_cut [12] (fun v wx => ∃ k : Nat, k < 2 ∧ v = .int .i64 (k : Int) ∧ Hid (Hd w wx la ln lc j p Y a c na nc))
        case first =>
          by_cases ht : 0 < tn
          · have t1 : (0 : Int) < (tn : Int) := by omega
            obtain ⟨v, hv⟩ : ∃ v, ts[j % tn]? = some v := ⟨ts[j % tn]'(by rw [HT.out.2]; exact Nat.mod_lt _ ht), by rw [List.getElem?_eq_getElem]⟩
            obtain ⟨tb, toff, rfl, hc⟩ := (HT.out.1.no HP.out.1.kept) _ v hv
            obtain ⟨ix, hix⟩ : ∃ ix, ix = j % tn := ⟨_, rfl⟩
            have hixl : ix < tn := by rw [hix]; exact Nat.mod_lt _ ht
            have hixe : ((j : Int)).tmod (tn : Int) = (ix : Int) := by rw [hix]; rfl
            rw [← hix] at hc
            have tne : ¬ tn = 0 := by omega
            clear hv hix
            go_wp2_with fail
            have hr := round_any v 2 wr (by omega) (by omega)
            have hr2 := roundOf_lt v 2 (by omega)
            generalize roundOf v 2 = k0 at hr hr2
            refine hr.mono ?_
            rintro e w1 ⟨rfl, rfl⟩
            clear hr
            go_wp2
            go_meet
            case rel => exact ⟨k0, hr2, rfl, HP⟩
          · have t1 : ¬ (0 : Int) < (tn : Int) := by omega
            go_wp2
            go_meet
            case rel => exact ⟨0, by omega, rfl, HP⟩
        case rest =>
          clear HP
          obtain ⟨k0, hk0, rfl, HP⟩ := hcut
          have b0 : (0 : Int) ≤ (k0 : Int) := by omega
          have b1 : (k0 : Int) < 2 := by omega
          have cL : wc.cell? ⟨w.heap.size + 1 + 1, k0, none⟩ = some (.slice (la k0) (ln k0) (lc k0)) := HP.out.1.cL hk0
          have cA : wc.cell? ⟨w.heap.size + 1 + 1 + 1, k0, none⟩ = some (.int .i64 (p k0 : Int)) := HP.out.1.cA hk0
          go_wp2
          go_quiet (fail)
          go_upto_if 47 with fail
          go_cut [12] (fun v wx => ∃ k : Nat, k < 2 ∧ v = .int .i64 (k : Int) ∧ Hid (Hd w wx la ln lc j p Y a c na nc) ∧ Hid (p k < ln k ∨ ∀ q, q < 2 → ln q ≤ p q))
          case first =>
            have HPn : Hid (Hd w (wc.drewN nq) la ln lc j p Y a c na nc) := HP.out.no ((Kept.refl No _).drewN _)
            by_cases hp : p k0 < ln k0
            · have t2 : ¬ ln k0 ≤ p k0 := by omega
              go_wp2
              go_meet
              case rel => exact ⟨k0, hk0, rfl, HPn, .inl hp⟩
            · have t2 : ln k0 ≤ p k0 := by omega
              have HD : Hid (p (1 - k0) < ln (1 - k0) ∨ ∀ q, q < 2 → ln q ≤ p q) := by
                by_cases h2 : p (1 - k0) < ln (1 - k0)
                · exact .inl h2
                · refine .inr (fun q hq => ?_)
                  have : q = k0 ∨ q = 1 - k0 := by omega
                  rcases this with rfl | rfl <;> omega
              go_wp2
              go_meet
              case rel => exact ⟨1 - k0, by omega, by go_num, HPn, HD⟩
          case rest =>
            clear HP hk0 b0 b1 cL cA
            obtain ⟨k, hk, rfl, HP, HD⟩ := hcut
            have b0 : (0 : Int) ≤ (k : Int) := by omega
            have b1 : (k : Int) < 2 := by omega
            by_cases hp : p k < ln k
            · have t2 : ¬ ln k ≤ p k := by omega
              obtain ⟨hxl, hxb, hxi, hxo⟩ := HX.out k hk
              obtain ⟨x, hxk⟩ : ∃ x, (X k)[p k]? = some x := ⟨(X k)[p k]'(by rw [hxl]; exact hp), by rw [List.getElem?_eq_getElem]⟩
              have HIx0 : Hid (ItOk w x) := hxo x (List.mem_of_getElem? hxk)
              have HIx : Hid (ItOk w (rightIt x)) := rightIt_ok HIx0.out
              have HIr : Hid (ItR (rightIt x)) := rightIt_r x
              obtain ⟨b, off, hla, -⟩ := hxi (p k) x hxk
              have HCL : Hid (∀ W, Hd w W la ln lc j p Y a c na nc → W.cell? ⟨w.heap.size + 1 + 1, k, none⟩ = some (.slice (some ⟨b, off, none⟩) (ln k) (lc k)) ∧ W.cell? ⟨w.heap.size + 1 + 1 + 1, k, none⟩ = some (.int .i64 (p k : Int)) ∧ W.cell? ⟨b, off + p k * 3, none⟩ = some (.int .i64 x.k) ∧ W.cell? ⟨b, off + p k * 3 + 1, none⟩ = some (.int .i64 x.n) ∧ W.cell? ⟨b, off + p k * 3 + 2, none⟩ = some (.slice x.a x.m x.c)) := by
                intro W hW
                obtain ⟨b', off', hla', h0, h1, h2⟩ := (hxi.no hW.1.kept) (p k) x hxk
                rw [hla] at hla'
                cases hla'
                have := hW.1.cL hk
                rw [hla] at this
                exact ⟨this, hW.1.cA hk, h0, h1, h2⟩
              have hln : (ln k : Int) ≤ 140737488355328 := by omega
              have hpk : (p k : Int) < (ln k : Int) := by omega
              clear hxl hxb hxi hxo hxk hla HD
              obtain ⟨xk, xn, xa, xm, xc, zs⟩ := x
              simp only at HCL
              obtain ⟨q1, q2, q3, q4, q5⟩ := HCL.out _ HP.out
              go_wp2
              go_quiet (fail)
              go_upto_region 14 with fail
              generalize hw2 : wc.drewN nq = w2
              have HP2 : Hid (Hd w w2 la ln lc j p Y a c na nc) := by rw [← hw2]; exact HP.out.no ((Kept.refl No _).drewN _)
              clear hw2 q1 q2 q3 q4 q5 HP
              have HPd : Hid (Hd w w2.drew la ln lc j p Y a c na nc) := HP2.out.no ((Kept.refl No _).drew)
              obtain ⟨q1, q2, q3, q4, q5⟩ := HCL.out _ HP2.out
              simp only [rightIt] at HIx HIr
              have HRt : Hid (∀ W, Calls Try.prog 14 #[.agg #[.int .i64 xk, .int .i64 xn, .slice xa xm xc]] W fun e w' => e = .returned (.agg #[.int .i64 (rightK xk), .int .i64 (rightN xk xn), .slice xa xm xc]) ∧ Kept No W w') := fun W => right_any xk xn xa xm xc W HIx0.out.lo HIx0.out.hi
              generalize rightK xk = rk at HRt HIx HIr
              generalize rightN xk xn = xN at HRt HIx HIr
              obtain ⟨gz, hgz⟩ : ∃ gz, gz = w2.heap.size := ⟨_, rfl⟩
              have n1 : w2.heap.size ≠ w.heap.size + 1 + 1 := by have := HP2.out.1.lt; omega
              have n2 : w2.heap.size ≠ w.heap.size + 1 + 1 + 1 := by have := HP2.out.1.lt; omega
              have n3 : w2.heap.size ≠ b := by have := World.block_lt_of_cell? w2 _ q3; simp only at this; omega
              clear hgz gz
              go_cut [13] (fun v wx => ∃ gx : Nat, v = .pointer (some ⟨gx, 0, none⟩) ∧ Hid (wx.heap[gx]? = some (.cells #[.int .i64 rk, .int .i64 xN, .slice xa xm xc] 42 (0, 0)) ∧ Kept No w2 wx ∧ w2.heap.size ≤ gx))
              case first =>
                go_region_held3 (fun w' => w'.cell? ⟨w.heap.size + 1 + 1, k, none⟩ = some (.slice (some ⟨b, off, none⟩) (ln k) (lc k)) ∧ w'.cell? ⟨w.heap.size + 1 + 1 + 1, k, none⟩ = some (.int .i64 (p k : Int)) ∧ w'.cell? ⟨b, off + p k * 3, none⟩ = some (.int .i64 xk) ∧ w'.cell? ⟨b, off + p k * 3 + 1, none⟩ = some (.int .i64 xn) ∧ w'.cell? ⟨b, off + p k * 3 + 2, none⟩ = some (.slice xa xm xc)) (go_keep) (first
                | (go_at_call 14
                   refine Calls.mono (HRt.out (World.drew (w2.alloc (Obj.cells #[.int .i64 0, .int .i64 0, .slice none 0 0] 42)))) ?_
                   rintro e w3 ⟨rfl, hk3⟩
                   obtain ⟨hgx, hk23⟩ := laid hk3
                   obtain ⟨⟨g0, g1, g2⟩, f0, f1, f2⟩ := row3 hgx
                   have HR : Hid (∀ v0 v1 v2 : Value, (((w3.setCell ⟨w2.heap.size, 0, none⟩ v0).setCell ⟨w2.heap.size, 1, none⟩ v1).setCell ⟨w2.heap.size, 2, none⟩ v2).heap[w2.heap.size]? = some (.cells #[v0, v1, v2] 42 (0, 0)) ∧ Kept No w2 (((w3.setCell ⟨w2.heap.size, 0, none⟩ v0).setCell ⟨w2.heap.size, 1, none⟩ v1).setCell ⟨w2.heap.size, 2, none⟩ v2)) := fun v0 v1 v2 => laid3 hgx hk23 (Nat.le_refl _)
                   obtain ⟨r1, r2, r3, r4, r5⟩ := HCL.out _ (HP2.out.no hk23)
                   have HGE : Hid (w2.heap.size ≤ w2.heap.size) := Nat.le_refl _
                   clear hgx hk23 hk3)
                | (go_at_call 14
                   refine Calls.mono (HRt.out w2.drew) ?_
                   rintro e w3 ⟨rfl, hk3⟩
                   have hk23 : Kept No w2 w3 := ((Kept.refl No w2).drew).then hk3
                   obtain ⟨r1, r2, r3, r4, r5⟩ := HCL.out _ (HP2.out.no hk23)
                   have HR : Hid (∀ v0 v1 v2 : Value, (w3.alloc (Obj.cells #[v0, v1, v2] 42)).heap[w3.heap.size]? = some (.cells #[v0, v1, v2] 42 (0, 0)) ∧ Kept No w2 (w3.alloc (Obj.cells #[v0, v1, v2] 42))) := fun v0 v1 v2 => ⟨heap_new w3 _, hk23.alloc _⟩
                   have HGE : Hid (w2.heap.size ≤ w3.heap.size) := hk23.size
                   clear hk23 hk3))
                all_goals go_wp2
                all_goals go_meet
                all_goals exact ⟨_, rfl, (HR.out _ _ _).1, (HR.out _ _ _).2, HGE.out⟩
              case rest =>
                obtain ⟨gx, rfl, HGX⟩ := hcut
                have HP4 : Hid (Hd w wc la ln lc j p Y a c na nc) := HP2.out.no HGX.out.2.1
                have hgx : w.heap.size + 3 < gx := by have e1 := HP2.out.1.lt; have e2 := HGX.out.2.2; omega
                clear q1 q2 q3 q4 q5 HPd n1 n2 n3 HRt
                obtain ⟨q1, q2, q3, q4, q5⟩ := HCL.out _ HP4.out
                clear q1 q3 q4 q5
                have q6 : wc.frozen? ⟨w.heap.size + 1 + 1 + 1, k, none⟩ = false := HP4.out.1.fA k
                obtain ⟨w5, hw5⟩ : ∃ w5, w5 = wc.setCell ⟨w.heap.size + 1 + 1 + 1, k, none⟩ (.int .i64 ((p k : Int) + 1)) := ⟨_, rfl⟩
                have HA5 : Hid (Ap w w5 la ln lc (upd p k (p k + 1)) Y Y a c na nc) := by rw [hw5]; exact HP4.out.1.next hk (by omega)
                have HB5 : Hid (w5.heap[gx]? = some (.cells #[.int .i64 rk, .int .i64 xN, .slice xa xm xc] 42 (0, 0))) := by
                  rw [hw5]
                  exact (((Kept.refl (Only (w.heap.size + 3)) wc).setCell (p := ⟨w.heap.size + 3, k, none⟩) (fun _ => (rfl : w.heap.size + 3 = w.heap.size + 3)) _).block gx (Array.getElem?_eq_some_iff.1 HGX.out.1).1 (fun e => by have e' : gx = w.heap.size + 3 := e; omega)).trans HGX.out.1
                have HY : Hid (∀ k, k < 2 → Its4 w (Y k) ∧ (Y k).length ≤ j ∧ p k ≤ ln k) := HP4.out.2
                obtain ⟨⟨x0, x1, x2⟩, -⟩ := row3 HB5.out
                clear HGX HP4 HP2 HCL
                by_cases hm : (xm : Int) ≤ 65536
                · rw [hw5] at x0 x1 x2
                  go_upto_region 17 with fail
                  rw [← hw5] at x0 x1 x2 ⊢
                  clear hw5 q2 q6
                  have HAd : Hid (Ap w w5.drew la ln lc (upd p k (p k + 1)) Y Y a c na nc) := HA5.out.no ((Kept.refl No _).drew)
                  have hBd : w5.drew.heap[gx]? = some (.cells #[.int .i64 rk, .int .i64 xN, .slice xa xm xc] 42 (0, 0)) := HB5.out
                  have HPut : Hid _ := put_k HAd.out hk (HY.out k hk).1 (by have := (HY.out k hk).2.1; omega) (x := ⟨rk, xN, xa, xm, xc, zs⟩) HIx.out HIr.out (by show xm ≤ 65536; omega)
                  simp only at HPut
                  have HBd : Hid (∀ W, Kept (WrAt w.heap.size (a k)) w5.drew W → W.heap[gx]? = some (.cells #[.int .i64 rk, .int .i64 xN, .slice xa xm xc] 42 (0, 0))) := fun W hW => (hW.block gx (Array.getElem?_eq_some_iff.1 hBd).1 (fun e => by
                    rcases e with e | e
                    · omega
                    · obtain ⟨c9, h9⟩ := (HAd.out.ow k hk).typ e
                      exact typ_ne h9 hBd (by decide))).trans hBd
                  clear hBd
                  go_region_held3 (fun w' => w'.cell? ⟨gx, 0, none⟩ = some (.int .i64 rk) ∧ w'.cell? ⟨gx, 1, none⟩ = some (.int .i64 xN) ∧ w'.cell? ⟨gx, 2, none⟩ = some (.slice xa xm xc)) (go_keep) (first
                    | (go_at_call 15
                       refine Calls.mono HPut.out ?_
                       rintro e w6 ⟨rfl, hk6, a6, c6, hA6⟩
                       have HA6 : Hid (Ap w w6 la ln lc (upd p k (p k + 1)) (upd Y k (Y k ++ [⟨rk, xN, xa, xm, xc, zs⟩])) Y (upd a k a6) (upd c k c6) na nc) := hA6
                       have HB6 : Hid (w6.heap[gx]? = some (.cells #[.int .i64 rk, .int .i64 xN, .slice xa xm xc] 42 (0, 0))) := HBd.out _ hk6
                       obtain ⟨⟨y0, y1, y2⟩, -⟩ := row3 HB6.out
                       clear hk6 hA6))
                  clear x0 x1 x2 HPut HBd HAd HA5 HB5
                  have z0 : w6.cell? ⟨w.heap.size + 1, k, none⟩ = some (.slice (na k) (Y k).length (nc k)) := HA6.out.cN hk
                  have z1 : w6.frozen? ⟨w.heap.size + 1, k, none⟩ = false := HA6.out.fN k
                  go_upto_region 19 with fail
                  have z0a : ∀ o, (w6.alloc o).cell? ⟨w.heap.size + 1, k, none⟩ = some (.slice (na k) (Y k).length (nc k)) := fun o => (HA6.out.no ((Kept.refl No w6).alloc o)).cN hk
                  have HAA : Hid (Ap w (w6.alloc (Obj.cells #[.int .i64 rk, .int .i64 xN, .slice xa xm xc] 42)).drew la ln lc (upd p k (p k + 1)) (upd Y k (Y k ++ [⟨rk, xN, xa, xm, xc, zs⟩])) Y (upd a k a6) (upd c k c6) na nc) := HA6.out.no (((Kept.refl No w6).alloc _).drew)
                  have HLA : Hid (w.heap.size ≤ (w6.alloc (Obj.cells #[.int .i64 rk, .int .i64 xN, .slice xa xm xc] 42)).drew.heap.size) := HAA.out.kept.size
                  have hYl : (Y k).length ≤ 400 := by have := (HY.out k hk).2.1; omega
                  have HZ : Hid (∀ W a' c', OwnI W w.heap.size a' c' (Y k ++ [⟨rk, xN, xa, xm, xc, zs⟩]) → Kept (At (na k)) (w6.alloc (Obj.cells #[.int .i64 rk, .int .i64 xN, .slice xa xm xc] 42)).drew W ∧ Moved (w6.alloc (Obj.cells #[.int .i64 rk, .int .i64 xN, .slice xa xm xc] 42)).drew (na k) a' →
                      (W.cell? ⟨w.heap.size + 1, k, none⟩ = some (.slice (na k) (Y k).length (nc k)) ∧ W.frozen? ⟨w.heap.size + 1, k, none⟩ = false) ∧ HdE w (W.setCell ⟨w.heap.size + 1, k, none⟩ (.slice a' ((Y k).length + 1) c')) la ln lc (j + 1)) := by
                    intro W a' c' ho ⟨hk', hm'⟩
                    have hN : W.heap[w.heap.size + 1]? = some (.cells #[.slice (na 0) (Y 0).length (nc 0), .slice (na 1) (Y 1).length (nc 1)] 39 (0, 0)) := (hk'.block _ (by have := HAA.out.lt; omega) (fun e => by
                      obtain ⟨c9, h9⟩ := own_type (HAA.out.on k hk) e
                      exact typ_ne h9 HAA.out.N (by decide))).trans HAA.out.N
                    refine ⟨⟨by rw [cell_of_row W _ k _ 39 (0, 0) hN]; rcases two k hk with rfl | rfl <;> rfl, frozen_of_row W _ k _ 39 hN⟩, _, _, _, _, _, _, HAA.out.now hk (by simp) ho hk' hm', fun q hq => ?_⟩
                    by_cases e : q = k
                    · subst e
                      rw [upd_same, upd_same]
                      have h1 := HY.out q hq
                      exact ⟨h1.1.add HIx.out HIr.out (by show xm ≤ 65536; omega), by rw [List.length_append]; have := h1.2.1; simp; omega, by omega⟩
                    · rw [upd_ne _ _ _ e, upd_ne _ _ _ e]
                      have h1 := HY.out q hq
                      exact ⟨h1.1, by omega, h1.2.2⟩
                  go_region_law (refine step_now rfl (.tmp 85) (.tmp 87) rfl w.heap.size (na k) (nc k) (Y k) (by simp [Act.eval]) (HAA.out.on k hk) ⟨rk, xN, xa, xm, xc, zs⟩ ⟨w6.heap.size, 0, none⟩ 1 (by simp [Act.eval]) (item_cells (by simp) (by simp) (by simp)) (by omega) HLA.out ?_; intro a7 c7 w7 HO7 HK7; have HC7 : Hid _ := HZ.out _ _ _ HO7.out HK7.out; have z7 := HC7.out.1.1; have f7 := HC7.out.1.2)
                  all_goals (
                    have HE7 : Hid (HdE w (w7.setCell ⟨w.heap.size + 1, k, none⟩ (.slice a7 ((Y k).length + 1) c7)) la ln lc (j + 1)) := HC7.out.2
                    clear HC7 HO7 HK7 HZ HAA HLA HA6 HB6 y0 y1 y2 z0 z1 z0a
                    go_wp2
                    go_roundw
                    case rel => exact ⟨j + 1, by omega, by go_num, HE7⟩
                    case measure => simp [intOf]; omega)
                · have HE : Hid (HdE w w5 la ln lc (j + 1)) := by
                    refine ⟨_, Y, a, c, na, nc, HA5.out, fun q hq => ⟨(HY.out q hq).1, by have := (HY.out q hq).2.1; omega, ?_⟩⟩
                    by_cases e : q = k
                    · subst e; rw [upd_same]; omega
                    · rw [upd_ne _ _ _ e]; exact (HY.out q hq).2.2
                  rw [hw5] at x0 x1 x2
                  go_wp2
                  rw [← hw5]
                  go_roundw
                  case rel => exact ⟨j + 1, by omega, by go_num, HE⟩
                  case measure => simp [intOf]; omega
            · have t2 : ln k ≤ p k := by omega
              have HE : Hid (∀ n, HdE w (wc.drewN n) la ln lc 400) := by
                intro n
                exact ⟨p, Y, a, c, na, nc, (HP.out.1.no ((Kept.refl No _).drewN n)), fun q hq => ⟨(HP.out.2 q hq).1, by have := (HP.out.2 q hq).2.1; omega, (HP.out.2 q hq).2.2⟩⟩
              have cL : wc.cell? ⟨w.heap.size + 1 + 1, k, none⟩ = some (.slice (la k) (ln k) (lc k)) := HP.out.1.cL hk
              have cA : wc.cell? ⟨w.heap.size + 1 + 1 + 1, k, none⟩ = some (.int .i64 (p k : Int)) := HP.out.1.cA hk
              go_wp2
              go_quiet (fail)
              go_wp2
              go_meet
              case rel => exact HE.out _
      · have i1 : ¬ (j : Int) < 400 := by omega
        obtain rfl : j = 400 := by omega
        go_wp2
        go_meet
        case rel => exact HH
  case rest =>
    obtain ⟨p, Y, a, c, na, nc, hh⟩ := hcut.out
    have HA : Hid (Ap w wc la ln lc p Y Y a c na nc) := hh.1
    have HY : Hid (∀ k, k < 2 → Its4 w (Y k) ∧ (Y k).length ≤ 400) := fun k hk => ⟨(hh.2 k hk).1, (hh.2 k hk).2.1⟩
    clear hh hcut
    go_wp2_with fail
    obtain ⟨n0, hn0⟩ : ∃ n, (flat (Y 0)).length = n := ⟨_, rfl⟩
    obtain ⟨n1, hn1⟩ : ∃ n, (flat (Y 1)).length = n := ⟨_, rfl⟩
    have HN : Hid ((flat (Y 0)).length = n0 ∧ (flat (Y 1)).length = n1 ∧ n0 ≤ 26218400 ∧ n1 ≤ 26218400) := ⟨hn0, hn1, by rw [← hn0]; exact (HY.out 0 (by omega)).1.len (HY.out 0 (by omega)).2, by rw [← hn1]; exact (HY.out 1 (by omega)).1.len (HY.out 1 (by omega)).2⟩
    have HU : Hid (U8 (flat (Y 0)) ∧ U8 (flat (Y 1))) := ⟨flat_u8 _ (HY.out 0 (by omega)).1.ok, flat_u8 _ (HY.out 1 (by omega)).1.ok⟩
    clear hn0 hn1
    refine (done_k HA.out (k := 0) (by omega) rfl HN.out.1 (by have := HN.out.2.2.1; omega)).mono ?_
    rintro e w1 ⟨a1, c1, rfl, hO1, hK1⟩
    have HA1 : Hid (Ap w w1 la ln lc p Y Y a c na nc) := HA.out.no hK1
    have HO1 : Hid (Sl w1 a1 n0 c1 (flat (Y 0))) := hO1.sl HN.out.1 HU.out.1 (by have := HN.out.2.2.1; omega)
    clear hO1 hK1 HA
    go_wp2_with fail
    refine (done_k HA1.out (k := 1) (by omega) rfl HN.out.2.1 (by have := HN.out.2.2.2; omega)).mono ?_
    rintro e w2 ⟨a2, c2, rfl, hO2, hK2⟩
    have HA2 : Hid (Ap w w2 la ln lc p Y Y a c na nc) := HA1.out.no hK2
    have HO2 : Hid (Sl w2 a2 n1 c2 (flat (Y 1))) := hO2.sl HN.out.2.1 HU.out.2 (by have := HN.out.2.2.2; omega)
    have HO12 : Hid (Sl w2 a1 n0 c1 (flat (Y 0))) := HO1.out.no hK2
    clear hO2 hK2 HA1 HO1
    go_wp2_with fail
    refine (Read_2 a1 n0 c1 (flat (Y 0)) w2 HO12.out).mono ?_
    rintro e w3 ⟨g0, lb0, rfl, hg0, hlb0, hr0, hK3, hgl0, hll0, hL0⟩
    have HA3 : Hid (Ap w w3 la ln lc p Y Y a c na nc) := HA2.out.no hK3
    have HO3 : Hid (Sl w3 a2 n1 c2 (flat (Y 1))) := HO2.out.no hK3
    have HR3 : Hid (Rs w3 g0 lb0 (.ok (flat (Y 0)) 0) ∧ w2.heap.size ≤ g0 ∧ w2.heap.size ≤ lb0 ∧ g0 < w3.heap.size ∧ lb0 < w3.heap.size) := ⟨hr0, hg0, hlb0, hgl0, hll0⟩
    have HLT : Hid (w.heap.size + 3 < w2.heap.size) := HA2.out.lt
    clear hg0 hlb0 hr0 hK3 hgl0 hll0 hL0 HA2 HO2 HO12
    go_wp2_with fail
    refine (Read_2 a2 n1 c2 (flat (Y 1)) w3 HO3.out).mono ?_
    rintro e w4 ⟨g1, lb1, rfl, hg1, hlb1, hr1, hK4, hgl1, hll1, hL1⟩
    have HRI : Hid (RI w w4 la ln lc p Y a c na nc (fun k => if k = 0 then g0 else g1) (fun k => if k = 0 then lb0 else lb1) (fun _ => 0)) := by
      have h5 := HR3.out
      have h6 := HLT.out
      have h7 := hK4.size
      refine ⟨HA3.out.no hK4, fun k hk => ?_, fun k hk => ?_, fun k hk => ?_⟩
      · rcases two k hk with rfl | rfl
        · exact ⟨0, by simpa using h5.1.no hK4⟩
        · exact ⟨0, by simpa using hr1⟩
      · rcases two k hk with rfl | rfl <;> simp <;> omega
      · rcases two k hk with rfl | rfl <;> simp <;> omega
    clear hg1 hlb1 hr1 hK4 hgl1 hll1 hL1 HA3 HO3 HR3 HLT
    obtain ⟨G, L, hG0, hG1, HRJ⟩ : ∃ G L : Nat → Nat, G 0 = g0 ∧ G 1 = g1 ∧ Hid (RI w w4 la ln lc p Y a c na nc G L (fun _ => 0)) := ⟨_, _, rfl, rfl, HRI⟩
    clear HRI
    subst hG0 hG1
    go_wp2
    go_loopw [20] (fun i wr => ∃ j : Nat, j ≤ 400 ∧ i = .int .i64 (j : Int) ∧ Hid (∃ jx, RI w wr la ln lc p Y a c na nc G L jx ∧ jx 0 = j ∧ jx 1 = j)) (fun i _ => 400 - (intOf i).toNat)
    case atStart => exact ⟨0, Nat.zero_le _, rfl, _, HRJ.out, rfl, rfl⟩
    case round =>
      clear HRJ
      obtain ⟨j, hj, rfl, HR⟩ := hrel
      obtain ⟨jx0, hR, hj0, hj1⟩ := HR.out
      have H0 : Hid (RI w wr la ln lc p Y a c na nc G L jx0) := hR
      have HJ0 : Hid (jx0 0 = j) := hj0
      have HJ1a : Hid (jx0 1 = j) := hj1
      clear hR hj0 hj1 HR
      have hY0 := (HY.out 0 (by omega)).2
      have hY1 := (HY.out 1 (by omega)).2
      have e0 : wr.cell? ⟨w.heap.size + 1, 0, none⟩ = some (.slice (na 0) (Y 0).length (nc 0)) := H0.out.ap.cN (by omega)
      have e1 : wr.cell? ⟨w.heap.size + 1, 1, none⟩ = some (.slice (na 1) (Y 1).length (nc 1)) := H0.out.ap.cN (by omega)
      by_cases h0 : j < (Y 0).length
      · have p0 : (j : Int) < ((Y 0).length : Int) := by omega
        by_cases h1 : j < (Y 1).length
        · go_upto_region 29 with fail
          clear e0 e1
          obtain ⟨x0, hx0⟩ : ∃ x, (Y 0)[j]? = some x := ⟨(Y 0)[j]'(by omega), by rw [List.getElem?_eq_getElem]⟩
          obtain ⟨nb0, hna0⟩ := OwnI.some' (H0.out.ap.on 0 (by omega)) (by omega)
          have HC0 : Hid (∀ W jy, RI w W la ln lc p Y a c na nc G L jy → W.cell? ⟨w.heap.size + 1, 0, none⟩ = some (.slice (some ⟨nb0, 0, none⟩) (Y 0).length (nc 0)) ∧ W.cell? ⟨nb0, j * 3, none⟩ = some (.int .i64 x0.k) ∧ W.cell? ⟨nb0, j * 3 + 1, none⟩ = some (.int .i64 x0.n) ∧ W.cell? ⟨nb0, j * 3 + 2, none⟩ = some (.slice x0.a x0.m x0.c)) := fun W jy hW => by
            have := hW.cells (k := 0) (by omega) hx0 hna0
            simpa using this
          have HD0 : Hid (RI w wr.drew la ln lc p Y a c na nc G L jx0) := H0.out.no ((Kept.refl No _).drew)
          have HRd0 : Hid _ := read_k HD0.out (k := 0) (by omega) (x := x0) (by rw [HJ0.out]; exact hx0) (HY.out 0 (by omega)).1
          have hlk0 : (j : Int) < ((Y 0).length : Int) := by omega
          obtain ⟨s00, s01, s02, s03⟩ := HC0.out _ _ H0.out
          have TA0 : Hid (1 = 1) := rfl
          clear hx0 hna0
          go_region_held3 (fun w' => w'.cell? ⟨w.heap.size + 1, 0, none⟩ = some (.slice (some ⟨nb0, 0, none⟩) (Y 0).length (nc 0)) ∧ w'.cell? ⟨nb0, j * 3, none⟩ = some (.int .i64 x0.k) ∧ w'.cell? ⟨nb0, j * 3 + 1, none⟩ = some (.int .i64 x0.n) ∧ w'.cell? ⟨nb0, j * 3 + 2, none⟩ = some (.slice x0.a x0.m x0.c)) (go_keep) (first
            | (go_at_call 19
               have hguard := TA0
               clear hguard
               refine Calls.mono HRd0.out ?_
               rintro e wm0 ⟨nm0, am0, mm0, cm0, rfl, hRm, hSm⟩
               have HRm0 : Hid (RI w wm0 la ln lc p Y a c na nc G L (upd jx0 0 (jx0 0 + 1))) := hRm
               have HSm0 : Hid _ := hSm
               obtain ⟨t00, t01, t02, t03⟩ := HC0.out _ _ hRm
               have TB0 : Hid (1 = 1) := rfl
               clear hRm hSm TA0)
            | (go_at_call 18
               have hguard := TB0
               clear hguard
               refine Calls.mono (HSm0.out _ (Kept.refl _ _)) ?_
               rintro e w5 ⟨rfl, hkm⟩
               have H1 : Hid (RI w w5 la ln lc p Y a c na nc G L (upd jx0 0 (jx0 0 + 1))) := HRm0.out.no hkm
               obtain ⟨v00, v01, v02, v03⟩ := HC0.out _ _ H1.out
               clear hkm TB0))
          clear s00 s01 s02 s03 t00 t01 t02 t03 v00 v01 v02 v03 HC0 HD0 HRd0 HRm0 HSm0
          obtain ⟨jx1, hjx⟩ : ∃ jx1, jx1 = upd jx0 0 (jx0 0 + 1) := ⟨_, rfl⟩
          rw [← hjx] at H1
          have HJ1 : Hid (jx1 1 = j) := by rw [hjx, upd_ne _ _ _ (by omega)]; exact HJ1a.out
          have HJ2 : Hid (jx1 0 = j + 1) := by rw [hjx, upd_same, HJ0.out]; exact (rfl : j + 1 = j + 1)
          clear hjx H0 HJ0 HJ1a
          go_upto_region 31 with fail
          obtain ⟨x1, hx1⟩ : ∃ x, (Y 1)[j]? = some x := ⟨(Y 1)[j]'(by omega), by rw [List.getElem?_eq_getElem]⟩
          obtain ⟨nb1, hna1⟩ := OwnI.some' (H1.out.ap.on 1 (by omega)) (by omega)
          have HC1 : Hid (∀ W jy, RI w W la ln lc p Y a c na nc G L jy → W.cell? ⟨w.heap.size + 1, 1, none⟩ = some (.slice (some ⟨nb1, 0, none⟩) (Y 1).length (nc 1)) ∧ W.cell? ⟨nb1, j * 3, none⟩ = some (.int .i64 x1.k) ∧ W.cell? ⟨nb1, j * 3 + 1, none⟩ = some (.int .i64 x1.n) ∧ W.cell? ⟨nb1, j * 3 + 2, none⟩ = some (.slice x1.a x1.m x1.c)) := fun W jy hW => by
            have := hW.cells (k := 1) (by omega) hx1 hna1
            simpa using this
          have HD1 : Hid (RI w w5.drew la ln lc p Y a c na nc G L jx1) := H1.out.no ((Kept.refl No _).drew)
          have HRd1 : Hid _ := read_k HD1.out (k := 1) (by omega) (x := x1) (by rw [HJ1.out]; exact hx1) (HY.out 1 (by omega)).1
          have hlk1 : (j : Int) < ((Y 1).length : Int) := by omega
          obtain ⟨s10, s11, s12, s13⟩ := HC1.out _ _ H1.out
          have TA1 : Hid (1 = 1) := rfl
          clear hx1 hna1
          go_region_held3 (fun w' => w'.cell? ⟨w.heap.size + 1, 1, none⟩ = some (.slice (some ⟨nb1, 0, none⟩) (Y 1).length (nc 1)) ∧ w'.cell? ⟨nb1, j * 3, none⟩ = some (.int .i64 x1.k) ∧ w'.cell? ⟨nb1, j * 3 + 1, none⟩ = some (.int .i64 x1.n) ∧ w'.cell? ⟨nb1, j * 3 + 2, none⟩ = some (.slice x1.a x1.m x1.c)) (go_keep) (first
            | (go_at_call 19
               have hguard := TA1
               clear hguard
               refine Calls.mono HRd1.out ?_
               rintro e wm1 ⟨nm1, am1, mm1, cm1, rfl, hRm, hSm⟩
               have HRm1 : Hid (RI w wm1 la ln lc p Y a c na nc G L (upd jx1 1 (jx1 1 + 1))) := hRm
               have HSm1 : Hid _ := hSm
               obtain ⟨t10, t11, t12, t13⟩ := HC1.out _ _ hRm
               have TB1 : Hid (1 = 1) := rfl
               clear hRm hSm TA1)
            | (go_at_call 18
               have hguard := TB1
               clear hguard
               refine Calls.mono (HSm1.out _ (Kept.refl _ _)) ?_
               rintro e w6 ⟨rfl, hkm⟩
               have H2 : Hid (RI w w6 la ln lc p Y a c na nc G L (upd jx1 1 (jx1 1 + 1))) := HRm1.out.no hkm
               obtain ⟨v10, v11, v12, v13⟩ := HC1.out _ _ H2.out
               clear hkm TB1))
          clear s10 s11 s12 s13 t10 t11 t12 t13 v10 v11 v12 v13 HC1 HD1 HRd1 HRm1 HSm1
          have HE : Hid (∃ jx, RI w w6 la ln lc p Y a c na nc G L jx ∧ jx 0 = j + 1 ∧ jx 1 = j + 1) := ⟨_, H2.out, by rw [upd_ne _ _ _ (by omega)]; exact HJ2.out, by rw [upd_same, HJ1.out]⟩
          clear H1 H2 HJ1 HJ2
          go_wp2
          go_roundw
          case rel => exact ⟨j + 1, by omega, by go_num, HE⟩
          case measure => simp [intOf]; omega
        · go_upto_region 29 with fail
          clear e0 e1
          obtain ⟨x0, hx0⟩ : ∃ x, (Y 0)[j]? = some x := ⟨(Y 0)[j]'(by omega), by rw [List.getElem?_eq_getElem]⟩
          obtain ⟨nb0, hna0⟩ := OwnI.some' (H0.out.ap.on 0 (by omega)) (by omega)
          have HC0 : Hid (∀ W jy, RI w W la ln lc p Y a c na nc G L jy → W.cell? ⟨w.heap.size + 1, 0, none⟩ = some (.slice (some ⟨nb0, 0, none⟩) (Y 0).length (nc 0)) ∧ W.cell? ⟨nb0, j * 3, none⟩ = some (.int .i64 x0.k) ∧ W.cell? ⟨nb0, j * 3 + 1, none⟩ = some (.int .i64 x0.n) ∧ W.cell? ⟨nb0, j * 3 + 2, none⟩ = some (.slice x0.a x0.m x0.c)) := fun W jy hW => by
            have := hW.cells (k := 0) (by omega) hx0 hna0
            simpa using this
          have HD0 : Hid (RI w wr.drew la ln lc p Y a c na nc G L jx0) := H0.out.no ((Kept.refl No _).drew)
          have HRd0 : Hid _ := read_k HD0.out (k := 0) (by omega) (x := x0) (by rw [HJ0.out]; exact hx0) (HY.out 0 (by omega)).1
          have hlk0 : (j : Int) < ((Y 0).length : Int) := by omega
          obtain ⟨s00, s01, s02, s03⟩ := HC0.out _ _ H0.out
          have TA0 : Hid (1 = 1) := rfl
          clear hx0 hna0
          go_region_held3 (fun w' => w'.cell? ⟨w.heap.size + 1, 0, none⟩ = some (.slice (some ⟨nb0, 0, none⟩) (Y 0).length (nc 0)) ∧ w'.cell? ⟨nb0, j * 3, none⟩ = some (.int .i64 x0.k) ∧ w'.cell? ⟨nb0, j * 3 + 1, none⟩ = some (.int .i64 x0.n) ∧ w'.cell? ⟨nb0, j * 3 + 2, none⟩ = some (.slice x0.a x0.m x0.c)) (go_keep) (first
            | (go_at_call 19
               have hguard := TA0
               clear hguard
               refine Calls.mono HRd0.out ?_
               rintro e wm0 ⟨nm0, am0, mm0, cm0, rfl, hRm, hSm⟩
               have HRm0 : Hid (RI w wm0 la ln lc p Y a c na nc G L (upd jx0 0 (jx0 0 + 1))) := hRm
               have HSm0 : Hid _ := hSm
               obtain ⟨t00, t01, t02, t03⟩ := HC0.out _ _ hRm
               have TB0 : Hid (1 = 1) := rfl
               clear hRm hSm TA0)
            | (go_at_call 18
               have hguard := TB0
               clear hguard
               refine Calls.mono (HSm0.out _ (Kept.refl _ _)) ?_
               rintro e w5 ⟨rfl, hkm⟩
               have H1 : Hid (RI w w5 la ln lc p Y a c na nc G L (upd jx0 0 (jx0 0 + 1))) := HRm0.out.no hkm
               obtain ⟨v00, v01, v02, v03⟩ := HC0.out _ _ H1.out
               clear hkm TB0))
          clear s00 s01 s02 s03 t00 t01 t02 t03 v00 v01 v02 v03 HC0 HD0 HRd0 HRm0 HSm0
          obtain ⟨jx1, hjx⟩ : ∃ jx1, jx1 = upd jx0 0 (jx0 0 + 1) := ⟨_, rfl⟩
          rw [← hjx] at H1
          have HJ1 : Hid (jx1 1 = j) := by rw [hjx, upd_ne _ _ _ (by omega)]; exact HJ1a.out
          have HJ2 : Hid (jx1 0 = j + 1) := by rw [hjx, upd_same, HJ0.out]; exact (rfl : j + 1 = j + 1)
          clear hjx H0 HJ0 HJ1a
          go_upto_region 31 with fail
          have hlk1 : ¬ (j : Int) < ((Y 1).length : Int) := by omega
          have s10 : w5.cell? ⟨w.heap.size + 1, 1, none⟩ = some (.slice (na 1) (Y 1).length (nc 1)) := H1.out.ap.cN (by omega)
          go_quiet (fail)
          obtain ⟨w6, hq1⟩ : ∃ W, W = w5.drewN nq := ⟨_, rfl⟩
          have H2 : Hid (RI w w6 la ln lc p Y a c na nc G L (upd jx1 1 (jx1 1 + 1))) := by rw [hq1]; exact (H1.out.skip (by omega) (by rw [HJ1.out]; omega)).no ((Kept.refl No _).drewN _)
          rw [← hq1]
          clear hq1 s10 nq
          have HE : Hid (∃ jx, RI w w6 la ln lc p Y a c na nc G L jx ∧ jx 0 = j + 1 ∧ jx 1 = j + 1) := ⟨_, H2.out, by rw [upd_ne _ _ _ (by omega)]; exact HJ2.out, by rw [upd_same, HJ1.out]⟩
          clear H1 H2 HJ1 HJ2
          go_wp2
          go_roundw
          case rel => exact ⟨j + 1, by omega, by go_num, HE⟩
          case measure => simp [intOf]; omega
      · have p0 : ¬ (j : Int) < ((Y 0).length : Int) := by omega
        by_cases h1 : j < (Y 1).length
        · have p1 : (j : Int) < ((Y 1).length : Int) := by omega
          go_upto_region 29 with fail
          clear e0 e1
          have hlk0 : ¬ (j : Int) < ((Y 0).length : Int) := by omega
          have s00 : wr.cell? ⟨w.heap.size + 1, 0, none⟩ = some (.slice (na 0) (Y 0).length (nc 0)) := H0.out.ap.cN (by omega)
          go_quiet (fail)
          obtain ⟨w5, hq0⟩ : ∃ W, W = wr.drewN nq := ⟨_, rfl⟩
          have H1 : Hid (RI w w5 la ln lc p Y a c na nc G L (upd jx0 0 (jx0 0 + 1))) := by rw [hq0]; exact (H0.out.skip (by omega) (by rw [HJ0.out]; omega)).no ((Kept.refl No _).drewN _)
          rw [← hq0]
          clear hq0 s00 nq
          obtain ⟨jx1, hjx⟩ : ∃ jx1, jx1 = upd jx0 0 (jx0 0 + 1) := ⟨_, rfl⟩
          rw [← hjx] at H1
          have HJ1 : Hid (jx1 1 = j) := by rw [hjx, upd_ne _ _ _ (by omega)]; exact HJ1a.out
          have HJ2 : Hid (jx1 0 = j + 1) := by rw [hjx, upd_same, HJ0.out]; exact (rfl : j + 1 = j + 1)
          clear hjx H0 HJ0 HJ1a
          go_upto_region 31 with fail
          obtain ⟨x1, hx1⟩ : ∃ x, (Y 1)[j]? = some x := ⟨(Y 1)[j]'(by omega), by rw [List.getElem?_eq_getElem]⟩
          obtain ⟨nb1, hna1⟩ := OwnI.some' (H1.out.ap.on 1 (by omega)) (by omega)
          have HC1 : Hid (∀ W jy, RI w W la ln lc p Y a c na nc G L jy → W.cell? ⟨w.heap.size + 1, 1, none⟩ = some (.slice (some ⟨nb1, 0, none⟩) (Y 1).length (nc 1)) ∧ W.cell? ⟨nb1, j * 3, none⟩ = some (.int .i64 x1.k) ∧ W.cell? ⟨nb1, j * 3 + 1, none⟩ = some (.int .i64 x1.n) ∧ W.cell? ⟨nb1, j * 3 + 2, none⟩ = some (.slice x1.a x1.m x1.c)) := fun W jy hW => by
            have := hW.cells (k := 1) (by omega) hx1 hna1
            simpa using this
          have HD1 : Hid (RI w w5.drew la ln lc p Y a c na nc G L jx1) := H1.out.no ((Kept.refl No _).drew)
          have HRd1 : Hid _ := read_k HD1.out (k := 1) (by omega) (x := x1) (by rw [HJ1.out]; exact hx1) (HY.out 1 (by omega)).1
          have hlk1 : (j : Int) < ((Y 1).length : Int) := by omega
          obtain ⟨s10, s11, s12, s13⟩ := HC1.out _ _ H1.out
          have TA1 : Hid (1 = 1) := rfl
          clear hx1 hna1
          go_region_held3 (fun w' => w'.cell? ⟨w.heap.size + 1, 1, none⟩ = some (.slice (some ⟨nb1, 0, none⟩) (Y 1).length (nc 1)) ∧ w'.cell? ⟨nb1, j * 3, none⟩ = some (.int .i64 x1.k) ∧ w'.cell? ⟨nb1, j * 3 + 1, none⟩ = some (.int .i64 x1.n) ∧ w'.cell? ⟨nb1, j * 3 + 2, none⟩ = some (.slice x1.a x1.m x1.c)) (go_keep) (first
            | (go_at_call 19
               have hguard := TA1
               clear hguard
               refine Calls.mono HRd1.out ?_
               rintro e wm1 ⟨nm1, am1, mm1, cm1, rfl, hRm, hSm⟩
               have HRm1 : Hid (RI w wm1 la ln lc p Y a c na nc G L (upd jx1 1 (jx1 1 + 1))) := hRm
               have HSm1 : Hid _ := hSm
               obtain ⟨t10, t11, t12, t13⟩ := HC1.out _ _ hRm
               have TB1 : Hid (1 = 1) := rfl
               clear hRm hSm TA1)
            | (go_at_call 18
               have hguard := TB1
               clear hguard
               refine Calls.mono (HSm1.out _ (Kept.refl _ _)) ?_
               rintro e w6 ⟨rfl, hkm⟩
               have H2 : Hid (RI w w6 la ln lc p Y a c na nc G L (upd jx1 1 (jx1 1 + 1))) := HRm1.out.no hkm
               obtain ⟨v10, v11, v12, v13⟩ := HC1.out _ _ H2.out
               clear hkm TB1))
          clear s10 s11 s12 s13 t10 t11 t12 t13 v10 v11 v12 v13 HC1 HD1 HRd1 HRm1 HSm1
          have HE : Hid (∃ jx, RI w w6 la ln lc p Y a c na nc G L jx ∧ jx 0 = j + 1 ∧ jx 1 = j + 1) := ⟨_, H2.out, by rw [upd_ne _ _ _ (by omega)]; exact HJ2.out, by rw [upd_same, HJ1.out]⟩
          clear H1 H2 HJ1 HJ2
          go_wp2
          go_roundw
          case rel => exact ⟨j + 1, by omega, by go_num, HE⟩
          case measure => simp [intOf]; omega
        · have p1 : ¬ (j : Int) < ((Y 1).length : Int) := by omega
          obtain ⟨at0, hr0⟩ := H0.out.r 0 (by omega)
          obtain ⟨at1, hr1⟩ := H0.out.r 1 (by omega)
          rw [HJ0.out, List.drop_eq_nil_of_le (by omega)] at hr0
          rw [HJ1a.out, List.drop_eq_nil_of_le (by omega)] at hr1
          have HM0 : Hid (Rs wr (G 0) (L 0) (.ok [] at0)) := hr0
          have HM1 : Hid (Rs wr (G 1) (L 1) (.ok [] at1)) := hr1
          have HK : Hid (Kept No w wr) := H0.out.ap.kept
          clear hr0 hr1
          go_wp2_with fail
          refine (More_all (G 0) (L 0) (.ok [] at0) wr HM0.out).mono ?_
          rintro e w6 ⟨rfl, hw6⟩
          rw [hw6]
          clear hw6 w6
          go_wp2_with fail
          refine (More_all (G 1) (L 1) (.ok [] at1) wr HM1.out).mono ?_
          rintro e w6 ⟨rfl, hw6⟩
          rw [hw6]
          clear hw6 w6
          go_wp2
          go_ret
          exact ⟨rfl, HK.out⟩

end ap
end Go.Proofs.Ytnhjpghkmbgeaab
