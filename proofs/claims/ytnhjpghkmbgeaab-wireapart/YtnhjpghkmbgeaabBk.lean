import Derived.Test.YtnhjpghkmbgeaabGb
namespace Go.Proofs.Ytnhjpghkmbgeaab
open Go.RowKit
set_option linter.unusedVariables false

/-- It may be put. -/
def ItR (x : Item) : Prop := (1 ≤ x.k ∧ x.k ≤ 4) ∧ (x.k = 1 → 0 ≤ x.n)

def flat (xs : List Item) : List Int := xs.flatMap putOf
theorem allOf_flat (xs : List Item) (h : ∀ x ∈ xs, ItR x) : allOf xs = some (flat xs) := by
  suffices H : ∀ (xs : List Item) (zs : List Int), (∀ x ∈ xs, ItR x) → xs.foldl putIt (some zs) = some (zs ++ flat xs) by
    have := H xs [] h; simpa [allOf] using this
  intro xs
  induction xs with
  | nil => intro zs _; simp [flat]
  | cons x r ih =>
    intro zs h
    rw [List.foldl_cons, putIt_some zs (h x (List.mem_cons_self ..)).2, ih _ (fun y hy => h y (List.mem_cons_of_mem _ hy))]
    simp [flat]
theorem putOf_u8 {w : World} {x : Item} (h : ItOk w x) : U8 (putOf x) := by
  unfold putOf
  split
  · exact vint_u8 _
  · split
    · exact vint_u8 _
    · exact (vint_u8 _).append h.sl.u8
theorem flat_u8 {w : World} (xs : List Item) (h : ∀ x ∈ xs, ItOk w x) : U8 (flat xs) := by
  induction xs with
  | nil => exact U8.nil
  | cons x r ih =>
    have : flat (x :: r) = putOf x ++ flat r := by simp [flat]
    rw [this]
    exact (putOf_u8 (h x (List.mem_cons_self ..))).append (ih (fun y hy => h y (List.mem_cons_of_mem _ hy)))
theorem flat_len {w : World} (xs : List Item) (h : ∀ x ∈ xs, ItOk w x) : (flat xs).length ≤ tot xs := by
  induction xs with
  | nil => simp [flat]
  | cons x r ih =>
    have e : flat (x :: r) = putOf x ++ flat r := by simp [flat]
    have h1 := putOf_len (h x (List.mem_cons_self ..))
    have h2 := ih (fun y hy => h y (List.mem_cons_of_mem _ hy))
    have h3 : tot (x :: r) = (10 + x.m) + tot r := by simp [tot]
    rw [e, List.length_append]; omega
/-- What was put is read by the same call. -/
theorem readS_put {w : World} {x : Item} (hr : ItR x) (hx : ItOk w x) (rest : List Int) (at_ : Nat) :
    readS (.ok (putOf x ++ rest) at_) x.k = (.ok rest (at_ + (putOf x).length), (if x.k ≤ 2 then x.n else 0), (if x.k ≤ 2 then [] else x.zs)) := by
  have hlo := hx.lo; have hhi := hx.hi; have hl := hx.sl.len; have hbd := hx.sl.bd
  by_cases h1 : x.k = 1
  · have hn := hr.2 h1
    have hp : putOf x = vint x.n.toNat := by unfold putOf; rw [if_pos h1]
    unfold readS
    rw [if_pos h1, if_pos (by omega), if_pos (by omega), hp]
    simp only [numS]
    rw [nr_vint x.n.toNat rest (by omega)]
    simp only [List.drop_left]
    rw [Int.toNat_of_nonneg hn]
  · by_cases h2 : x.k = 2
    · have hp : putOf x = vint (zz x.n) := by unfold putOf; rw [if_neg h1, if_pos h2]
      unfold readS
      rw [if_neg h1, if_pos h2, if_pos (by omega), if_pos (by omega), hp]
      simp only [intS]
      rw [vr_vint (zz x.n) rest (zz_64 _ hlo hhi)]
      simp only [List.drop_left, unzz_zz]
    · have hk := hr.1
      have hp : putOf x = vint x.zs.length ++ x.zs := by unfold putOf; rw [if_neg h1, if_neg h2]
      unfold readS
      rw [if_neg h1, if_neg h2, if_neg (by omega), if_neg (by omega), hp]
      simp only [bytesS]
      rw [cr_vint x.zs rest (by omega)]
      simp only
      have e1 : (vint x.zs.length ++ x.zs ++ rest).drop ((vint x.zs.length).length + x.zs.length) = rest := by
        rw [← List.length_append, List.drop_left]
      have e2 : ((vint x.zs.length ++ x.zs ++ rest).drop (vint x.zs.length).length).take x.zs.length = x.zs := by
        rw [List.append_assoc, List.drop_left, List.take_left]
      rw [e1, e2, List.length_append]
theorem sl_lt {w : World} {a : Option Addr} {m c : Nat} {zs : List Int} (h : Sl w a m c zs) (h0 : 0 < zs.length) {k : Nat} (hk : At a k) : k < w.heap.size := by
  obtain ⟨b, off, rfl, hc⟩ := h.bytes 0 h0
  obtain ⟨ad, e, rfl⟩ := hk
  cases e
  exact World.block_lt_of_cell? w _ hc

theorem rightIt_ok {w : World} {x : Item} (h : ItOk w x) : ItOk w (rightIt x) := by
  have h0 := h.lo; have h1 := h.hi
  refine ⟨h.sl, ?_, ?_⟩ <;> (show _ ≤ _; unfold rightIt rightN; simp only; split <;> omega)
theorem rightIt_r (x : Item) : ItR (rightIt x) := by
  refine ⟨rightK_bd x.k, fun h => ?_⟩
  have h' : rightK x.k = 1 := h
  show 0 ≤ rightN x.k x.n
  unfold rightN
  by_cases hn : x.n < 0
  · rw [if_pos ⟨h', hn⟩]; omega
  · rw [if_neg (fun e => hn e.2)]; omega
theorem rights_mem {xs : List Item} {x : Item} (h : x ∈ rightsOf xs) : ∃ y ∈ xs, x = rightIt y ∧ y.m ≤ 2000 := by
  unfold rightsOf at h
  obtain ⟨y, hy, rfl⟩ := List.mem_map.1 h
  obtain ⟨h1, h2⟩ := List.mem_filter.1 hy
  exact ⟨y, h1, rfl, of_decide_eq_true h2⟩
theorem rights_len (xs : List Item) : (rightsOf xs).length ≤ xs.length := by
  unfold rightsOf; rw [List.length_map]; exact List.length_filter_le _ _
theorem tot_2000 (ys : List Item) (h : ∀ x ∈ ys, x.m ≤ 2000) : tot ys ≤ ys.length * 2010 := by
  induction ys with
  | nil => simp [tot]
  | cons x r ih =>
    have := ih (fun y hy => h y (List.mem_cons_of_mem _ hy))
    have h1 := h x (List.mem_cons_self ..)
    have : tot (x :: r) = (10 + x.m) + tot r := by simp [tot]
    simp; omega
/-- What WireBook puts. -/
structure Puts60 (w : World) (Y : List Item) : Prop where
  ok : ∀ x ∈ Y, ItOk w x
  r : ∀ x ∈ Y, ItR x
  m : ∀ x ∈ Y, x.m ≤ 2000
  n : Y.length ≤ 60
theorem rights_60 {w : World} {xs : List Item} (hok : ∀ x ∈ xs, ItOk w x) (k : Nat) (hk : k ≤ 60) : Puts60 w (rightsOf (xs.take k)) := by
  refine ⟨fun x hx => ?_, fun x hx => ?_, fun x hx => ?_, ?_⟩
  · obtain ⟨y, hy, rfl, _⟩ := rights_mem hx; exact rightIt_ok (hok y (List.mem_of_mem_take hy))
  · obtain ⟨y, hy, rfl, _⟩ := rights_mem hx; exact rightIt_r y
  · obtain ⟨y, hy, rfl, h⟩ := rights_mem hx; exact h
  · have := rights_len (xs.take k); have := List.length_take_le k xs; omega
theorem Puts60.tot {w : World} {Y : List Item} (h : Puts60 w Y) : tot Y ≤ 120600 := by
  have h1 := tot_2000 Y h.m
  have : Y.length * 2010 ≤ 60 * 2010 := Nat.mul_le_mul_right _ h.n
  omega
theorem rights_drop {xs : List Item} {k : Nat} {x : Item} (h : xs[k]? = some x) : rightsOf (xs.drop k) = (if x.m ≤ 2000 then [rightIt x] else []) ++ rightsOf (xs.drop (k + 1)) := by
  obtain ⟨hj, rfl⟩ := List.getElem?_eq_some_iff.1 h
  have e := List.drop_eq_getElem_cons hj
  generalize xs[k] = y at e ⊢
  generalize xs.drop (k + 1) = r at e ⊢
  rw [e]
  unfold rightsOf
  by_cases hm : y.m ≤ 2000 <;> simp [hm]
theorem flat_app (xs ys : List Item) : flat (xs ++ ys) = flat xs ++ flat ys := by simp [flat]

/-- A block is a Reader's. -/
theorem Rs.typ {w : World} {g lb : Nat} {st : RS} (h : Rs w g lb st) : ∃ cur, w.heap[g]? = some (.cells cur 66 (0, 0)) := by
  cases st with
  | ok zs at_ => obtain ⟨la, lc, hr, _⟩ := h; exact ⟨_, hr.cell⟩
  | bad p c => exact ⟨_, h.1⟩
/-- Where what is left lies. -/
def Lb (w : World) (g lb : Nat) : Prop := lb = g ∨ ∃ cur, w.heap[lb]? = some (.cells cur 5 (0, 0))

set_option maxHeartbeats 1000000 in
theorem Read_2 (xa : Option Addr) (xn xc : Nat) (ys : List Int) (w : World) (h : Sl w xa xn xc ys) :
    Calls Try.prog 17 #[.slice xa xn xc] w fun e w' => ∃ g lb, e = .returned (.pointer (some ⟨g, 0, none⟩)) ∧ w.heap.size ≤ g ∧ w.heap.size ≤ lb ∧ Rs w' g lb (.ok ys 0) ∧ Kept No w w' ∧ g < w'.heap.size ∧ lb < w'.heap.size ∧ Lb w' g lb := by
  have HS : Hid (Sl w xa xn xc ys) := h
  have hbd := h.bd
  clear h
  go_enter Try.func17, Try.ntmps17
  go_wp2_with fail
  refine (clone_any xa xn xc ys w HS.out.len HS.out.bytes (fun e => ⟨?_, HS.out.nil e⟩) (by omega)).mono ?_
  · have h1 := HS.out.nil e; have h2 := HS.out.le; omega
  rintro e w1 ⟨a1, c1, rfl, hO1, hK1, -⟩
  have HF : Hid (∃ lb, w.heap.size ≤ lb ∧ lb < (w1.alloc (Obj.cells #[.slice a1 xn c1, .int .i64 0, .int .i64 0, .int .i64 0] 66)).heap.size ∧ Rs (w1.alloc (Obj.cells #[.slice a1 xn c1, .int .i64 0, .int .i64 0, .int .i64 0] 66)) w1.heap.size lb (.ok ys 0) ∧ Lb (w1.alloc (Obj.cells #[.slice a1 xn c1, .int .i64 0, .int .i64 0, .int .i64 0] 66)) w1.heap.size lb) := by
    have hs : Sl w1 a1 ys.length c1 ys := hO1.sl rfl HS.out.u8 (by rw [HS.out.len]; exact hbd)
    have hk := ((Kept.refl No w1).alloc (Obj.cells #[.slice a1 xn c1, .int .i64 0, .int .i64 0, .int .i64 0] 66))
    have hs' := hs.no hk
    have hR : Rd (w1.alloc (Obj.cells #[.slice a1 xn c1, .int .i64 0, .int .i64 0, .int .i64 0] 66)) w1.heap.size a1 c1 ys 0 :=
      ⟨by rw [HS.out.len]; exact heap_new _ _, hs', by rw [HS.out.len]; omega⟩
    have hz := hK1.size
    have hO2 := hO1.no hk
    rcases hO1.cases with ⟨rfl, _, _⟩ | ⟨g, rfl, hb, hl, _⟩
    · exact ⟨w1.heap.size, by omega, by rw [World.heap_size_alloc1]; omega, ⟨none, c1, hR, fun k hk => absurd hk At.none⟩, .inl rfl⟩
    · exact ⟨g, hb, by rw [World.heap_size_alloc1]; omega, ⟨_, c1, hR, fun k hk => at_some hk⟩, .inr (hO2.typ ⟨_, rfl, rfl⟩)⟩
  have HK : Hid (Kept No w w1) := hK1
  clear hO1 hK1
  go_wp2
  go_ret
  obtain ⟨lb, h1, h2, h3, h4⟩ := HF.out
  exact ⟨w1.heap.size, lb, rfl, HK.out.size, h1, h3, HK.out.alloc _, by rw [World.heap_size_alloc1]; omega, h2, h4⟩

/-- What a read leaves; bytes are the caller's own. -/
def ReadP (w : World) (g lb : Nat) (st : RS) (k : Int) (e : Ending) (w' : World) : Prop :=
  ∃ a' m' c', e = .returned (.agg #[.int .i64 k, .int .i64 (readS st k).2.1, .slice a' m' c']) ∧ Sl w' a' m' c' (readS st k).2.2 ∧ (∀ i, At a' i → w.heap.size ≤ i) ∧ Rs w' g lb (readS st k).1 ∧ Kept (Only g) w w' ∧ (k = 3 → OwnS w' w.heap.size a' c' (readS st k).2.2)

set_option maxHeartbeats 1000000 in
theorem read_o (g lb : Nat) (st : RS) (w : World) (h : Rs w g lb st) (hlb : lb < w.heap.size) :
    Calls Try.prog 19 #[.pointer (some ⟨g, 0, none⟩), .int .i64 3] w (ReadP w g lb st 3) := by
  have HR : Hid (Rs w g lb st) := h
  have hg := h.lt
  have HU : Hid (U8 (bytesS st).2 ∧ (bytesS st).2.length ≤ 140737488351232) := bytesS_ok h
  clear h
  go_enter Try.func19, Try.ntmps19
  go_wp2_with fail
  refine (Bytes_all g lb st _ (HR.out.no (((Kept.refl _ _).alloc _).alloc _))).mono ?_
  rintro e w1 ⟨a1, n1, c1, rfl, hn1, hO1, hr, hk⟩
  obtain ⟨hA, hB⟩ := read_blocks hg hk
  have cA0 : w1.cell? ⟨w.heap.size, 0, none⟩ = some (.int .i64 0) := by rw [cell_of_row w1 _ 0 _ 42 (0, 0) hA]; rfl
  have cA1 : w1.cell? ⟨w.heap.size, 1, none⟩ = some (.int .i64 0) := by rw [cell_of_row w1 _ 1 _ 42 (0, 0) hA]; rfl
  have cA2 : w1.cell? ⟨w.heap.size, 2, none⟩ = some (.slice none 0 0) := by rw [cell_of_row w1 _ 2 _ 42 (0, 0) hA]; rfl
  have cB0 : w1.cell? ⟨w.heap.size + 1, 0, none⟩ = some (.int .i64 3) := by rw [cell_of_row w1 _ 0 _ 42 (0, 0) hB]; rfl
  have cB1 : w1.cell? ⟨w.heap.size + 1, 1, none⟩ = some (.int .i64 0) := by rw [cell_of_row w1 _ 1 _ 42 (0, 0) hB]; rfl
  have cB2 : w1.cell? ⟨w.heap.size + 1, 2, none⟩ = some (.slice none 0 0) := by rw [cell_of_row w1 _ 2 _ 42 (0, 0) hB]; rfl
  have fA0 := frozen_of_row w1 _ 0 _ 42 hA
  have fA1 := frozen_of_row w1 _ 1 _ 42 hA
  have fA2 := frozen_of_row w1 _ 2 _ 42 hA
  have fB0 := frozen_of_row w1 _ 0 _ 42 hB
  have fB1 := frozen_of_row w1 _ 1 _ 42 hB
  have fB2 := frozen_of_row w1 _ 2 _ 42 hB
  have HR1 : Hid (Rs w1 g lb (bytesS st).1) := hr
  have HK1 : Hid (Kept (Only g) w w1) := (((Kept.refl No w).alloc _).alloc _).of_no.then hk
  have HE : Hid (readS st 3 = ((bytesS st).1, 0, (bytesS st).2)) := by simp [Hid, readS]
  have HS1 : Hid (Sl w1 a1 n1 c1 (bytesS st).2) := hO1.sl hn1.symm HU.out.1 (by rw [hn1]; exact HU.out.2)
  have HB1 : Hid (∀ i, At a1 i → w.heap.size + 2 ≤ i) := fun i hi => by have := hO1.base hi; simp at this; omega
  have HO1 : Hid (OwnS w1 w.heap.size a1 c1 (bytesS st).2) := hO1.lower (by simp; omega)
  clear hA hB hr hk hO1 hn1
  go_wp2
  refine bodyPost_ret (v := .agg #[.int .i64 3, .int .i64 0, .slice a1 n1 c1]) (by simp [results, Try.results19, go_sem, cA0, cA1, cA2]) rfl ?_
  have hk5 := (((((Kept.refl (Fresh2 w.heap.size) w1).setCell (p := ⟨w.heap.size + 1, 2, none⟩) (fun _ => .inr rfl) (.slice a1 n1 c1)).setCell (p := ⟨w.heap.size, 0, none⟩) (fun _ => .inl rfl) (.int .i64 3)).setCell (p := ⟨w.heap.size, 1, none⟩) (fun _ => .inl rfl) (.int .i64 0)).setCell (p := ⟨w.heap.size, 2, none⟩) (fun _ => .inl rfl) (.slice a1 n1 c1))
  have hP := read_end hg hlb HK1.out HR1.out HS1.out HB1.out hk5 HE.out
  obtain ⟨a', m', c', h1, h2, h3, h4, h5⟩ := hP
  have h1' := h1
  simp only [Ending.returned.injEq, Value.agg.injEq, Array.mk.injEq, List.cons.injEq, Value.slice.injEq, and_true] at h1'
  obtain ⟨_, _, rfl, rfl, rfl⟩ := h1'
  refine ⟨a1, n1, c1, h1, h2, h3, h4, h5, fun _ => ?_⟩
  rw [HE.out]
  exact HO1.out.kept hk5 (fun k hk e => by have := HB1.out k hk; rcases e with e | e <;> omega)

theorem read_p (g lb : Nat) (st : RS) (k : Int) (w : World) (h : Rs w g lb st) (hlb : lb < w.heap.size) (hk : 1 ≤ k ∧ k ≤ 4) :
    Calls Try.prog 19 #[.pointer (some ⟨g, 0, none⟩), .int .i64 k] w (ReadP w g lb st k) := by
  by_cases h3 : k = 3
  · subst h3; exact read_o g lb st w h hlb
  · exact (read_all g lb st k w h hlb hk).mono (fun e w' ⟨a', m', c', h1, h2, h3', h4, h5⟩ => ⟨a', m', c', h1, h2, h3', h4, h5, fun e => absurd e h3⟩)

/-- A row of slices is appended to. -/
theorem wp_rowR {ops : Array Oper} {rest : List Oper} {o : Oper} {a : Act} {w : World} {Q : Exit → Act → World → Prop} (hgd : o.guard = Option.none) (s x : Operand) (ho : o.op = .call { callee := .builtin .append, args := #[s, x], argTypes := #[53, 53] })
    (base : Nat) (sa : Option Addr) (sn sc : Nat) (K E : List Ent) (hs : a.eval s = .slice sa sn sc) (hsn : K.length = sn) (hown : Rw w base sa sc K) (xb xn xc : Nat) (hx : a.eval x = .slice (some ⟨xb, 0, none⟩) xn xc) (hxn : E.length = xn) (hc : ∀ j e, E[j]? = some e → w.cell? ⟨xb, j, none⟩ = some (entV e)) (hlen : sn + xn ≤ 2000000) (hbase : base ≤ w.heap.size) (n' : Nat) (hn' : sn + xn = n')
    (h : ∀ a' c' w', Hid (Rw w' base a' c' (K ++ E)) → Hid (Kept (At sa) w w') → wpList Try.prog ops Q rest (a.put o.dst (.slice a' n' c')) w') :
    wpList Try.prog ops Q (o :: rest) a w := by
  subst hsn hxn hn'
  refine wp_appN w 53 22 (.slice none 0 0) 1 24 Try.und53 Try.info22 rfl (by decide) hgd s x ho base sa _ sc (K.map entV) hs hown ⟨xb, 0, none⟩ E.length xc (E.map entV) hx (by simp) ?_ (fun u hu => by obtain ⟨e, _, rfl⟩ := List.mem_map.1 hu; rfl) (by omega) (by omega) hbase ?_
  · intro j u hu
    rw [List.getElem?_map] at hu
    obtain ⟨e, he, rfl⟩ := Option.map_eq_some_iff.1 hu
    rw [addr_add, Nat.zero_add]
    exact hc j e he
  · intro a' c' w' HO HC
    refine h a' c' w' ?_ ?_
    · show Rw w' base a' c' (K ++ E)
      unfold Rw
      rw [List.length_append, List.map_append]
      exact HO
    · rcases HC.out with h | h
      · exact h.2.2
      · exact h.2.of_no

/-- What WireBook has at its second part. -/
structure BkS where
  w : World
  a : Option Addr
  c : Nat
  F : List Int
  fa : Option Addr
  fc : Nat
  wa : Option Addr
  wc : Nat
  lo : Nat
structure Bk (s : BkS) (wr : World) (ra : Option Addr) (rc : Nat) (K : List Ent) : Prop where
  ws : Ws wr s.w.heap.size s.w.heap.size s.a s.c (some s.F)
  fst : OwnS wr s.w.heap.size s.fa s.fc s.F
  wnt : OwnS wr s.w.heap.size s.wa s.wc s.F
  lts : ∀ k, At s.fa k ∨ At s.wa k ∨ WrAt s.w.heap.size s.a k → k < s.lo
  row : Rw wr s.lo ra rc K
  ents : ∃ Z, Erow wr s.lo K Z
  kept : Kept No s.w wr
  lo : s.w.heap.size ≤ s.lo ∧ s.lo ≤ wr.heap.size
theorem Bk.no {s : BkS} {wr w' : World} {ra : Option Addr} {rc : Nat} {K : List Ent} (h : Bk s wr ra rc K) (hk : Kept No wr w') : Bk s w' ra rc K :=
  ⟨h.ws.no hk, h.fst.no hk, h.wnt.no hk, h.lts, h.row.no hk, h.ents.imp (fun Z hZ => hZ.no hk), h.kept.then hk, h.lo.1, by have := hk.size; have := h.lo.2; omega⟩
theorem Ws.typ {w : World} {base g : Nat} {a : Option Addr} {c : Nat} {st : Option (List Int)} (h : Ws w base g a c st) {k : Nat} (hk : WrAt g a k) : ∃ cur t, w.heap[k]? = some (.cells cur t (0, 0)) ∧ (t = 5 ∨ t = 37) := by
  obtain ⟨zs, bad, hw⟩ := h.wr
  rcases hk with rfl | hk
  · exact ⟨_, _, hw.cell, .inr rfl⟩
  · obtain ⟨cur, hc⟩ := own_type hw.own hk
    exact ⟨cur, 5, hc, .inl rfl⟩
/-- Blocks of another type are turned. -/
theorem Bk.off {s : BkS} {wr w' : World} {ra : Option Addr} {rc : Nat} {K : List Ent} (h : Bk s wr ra rc K) {S : Nat → Prop} (hk : Kept S wr w') (hS : ∀ k, S k → s.w.heap.size ≤ k ∧ ∃ cur t, wr.heap[k]? = some (.cells cur t (0, 0)) ∧ t ≠ 5 ∧ t ≠ 22 ∧ t ≠ 37) : Bk s w' ra rc K := by
  have n5 : ∀ {a : Option Addr} {c : Nat} {zs : List Int} {b : Nat}, OwnS wr b a c zs → ∀ k, At a k → ¬ S k := by
    intro a c zs b ho k hk' hs
    obtain ⟨_, cur, t, h1, h2, _⟩ := hS k hs
    obtain ⟨c2, h3⟩ := ho.typ hk'
    exact typ_ne h3 h1 (fun e => h2 e.symm)
  refine ⟨h.ws.kept hk (fun k hk' hs => ?_), h.fst.kept hk (n5 h.fst), h.wnt.kept hk (n5 h.wnt), h.lts, h.row.kept hk (fun k hk' hs => ?_), h.ents.imp (fun Z hZ => hZ.kept hk (fun k hk' hs => ?_)), h.kept.fresh hk (fun k hs => (hS k hs).1), h.lo.1, by have := hk.size; have := h.lo.2; omega⟩
  · obtain ⟨_, cur, t, h1, h2, _, h3⟩ := hS k hs
    obtain ⟨c2, t2, h4, h5⟩ := h.ws.typ hk'
    rcases h5 with rfl | rfl
    · exact typ_ne h4 h1 (fun e => h2 e.symm)
    · exact typ_ne h4 h1 (fun e => h3 e.symm)
  · obtain ⟨_, cur, t, h1, _, h2, _⟩ := hS k hs
    obtain ⟨c2, h3⟩ := h.row.typ hk'
    exact typ_ne h3 h1 (fun e => h2 e.symm)
  · obtain ⟨_, cur, t, h1, h2, _⟩ := hS k hs
    obtain ⟨_, _, c2, h3⟩ := hZ.lo hk'
    exact typ_ne h3 h1 (fun e => h2 e.symm)
/-- The row is grown. -/
theorem Bk.grow {s : BkS} {wr w' : World} {ra ra' : Option Addr} {rc rc' : Nat} {K K' : List Ent} (h : Bk s wr ra rc K) (hE : ∃ Z, Erow wr s.lo K' Z) (hr : Rw w' s.lo ra' rc' K') (hk : Kept (At ra) wr w') : Bk s w' ra' rc' K' := by
  have n5 : ∀ {a : Option Addr} {c : Nat} {zs : List Int} {b : Nat}, OwnS wr b a c zs → ∀ k, At a k → ¬ At ra k := by
    intro a c zs b ho k hk' hs
    obtain ⟨c1, h1⟩ := h.row.typ hs
    obtain ⟨c2, h3⟩ := ho.typ hk'
    exact typ_ne h3 h1 (by decide)
  refine ⟨h.ws.kept hk (fun k hk' hs => ?_), h.fst.kept hk (n5 h.fst), h.wnt.kept hk (n5 h.wnt), h.lts, hr, hE.imp (fun Z hZ => hZ.kept hk (fun k hk' hs => ?_)), h.kept.fresh hk (fun k hs => by have := h.row.base hs; have := h.lo.1; omega), h.lo.1, by have := hk.size; have := h.lo.2; omega⟩
  · obtain ⟨c1, h1⟩ := h.row.typ hs
    obtain ⟨c2, t2, h4, h5⟩ := h.ws.typ hk'
    rcases h5 with rfl | rfl
    · exact typ_ne h4 h1 (by decide)
    · exact typ_ne h4 h1 (by decide)
  · exact h.row.apart hZ hs hk'
theorem Bk.eb {s : BkS} {wr : World} {ra : Option Addr} {rc : Nat} {K : List Ent} (h : Bk s wr ra rc K) {k : Nat} (hk : EB K k) : s.lo ≤ k ∧ k < wr.heap.size := by
  obtain ⟨Z, hZ⟩ := h.ents
  exact ⟨(hZ.lo hk).1, (hZ.lo hk).2.1⟩
/-- A new one beside them. -/
theorem Bk.one {s : BkS} {wr w' : World} {ra : Option Addr} {rc : Nat} {K : List Ent} (h : Bk s wr ra rc K) (h' : Bk s w' ra rc K) {e : Ent} {zs : List Int} (hl : zs.length = e.l) (ho : OwnS w' wr.heap.size e.a e.c zs) (hb : e.l ≤ 1000000) : ∃ Z, Erow w' s.lo (K ++ [e]) Z := by
  obtain ⟨Z, hZ⟩ := h'.ents
  exact ⟨_, hZ.add hl (ho.lower h.lo.2) hb (fun k hk he => by have h1 := ho.base hk; have h2 := (h.eb he).2; omega)⟩

end Go.Proofs.Ytnhjpghkmbgeaab
