import Derived.Test.YtphiokehcgbldaaHr
import Derived.StillTailTactics
namespace Go.Proofs.Ytphiokehcgbldaa
open Go.RowKit
set_option linter.unusedVariables false
set_option linter.unusedSimpArgs false
set_option maxRecDepth 100000
namespace Gx
theorem Try.info35x : (Try.prog.info? 35).map (fun i => (i.zero, i.size, i.bytes)) = some (some (.slice none 0 0), 1, 24) := by kernel_rfl
theorem Try.und59x : Try.prog.underlying 59 = some (.slice 35) := by kernel_rfl

/-- The marks are laid: up to list i. -/
structure Ph1 (w wr : World) (base lo : Nat) (ra : Option Addr) (rc : Nat) (K : List Ent) (i : Nat) : Prop where
  row : Rw wr base ra rc K
  kept : Kept (EB K) w wr
  ex : ∃ Z, Erow wr lo K Z ∧ ∀ q, q < i → Z q = marksOf q (Z q).length
/-- .. and up to byte j of list i. -/
structure Ph1j (w wr : World) (base lo : Nat) (ra : Option Addr) (rc : Nat) (K : List Ent) (i j : Nat) : Prop where
  row : Rw wr base ra rc K
  kept : Kept (EB K) w wr
  ex : ∃ Z, Erow wr lo K Z ∧ (∀ q, q < i → Z q = marksOf q (Z q).length) ∧ (Z i).take j = marksOf i j
theorem Ph1.inner {w wr : World} {base lo : Nat} {ra : Option Addr} {rc : Nat} {K : List Ent} {i : Nat} (h : Ph1 w wr base lo ra rc K i) : Ph1j w wr base lo ra rc K i 0 := by
  obtain ⟨h1, h2, Z, h3, h4⟩ := h
  exact ⟨h1, h2, Z, h3, h4, by simp [marksOf]⟩
theorem Ph1j.outer {w wr : World} {base lo : Nat} {ra : Option Addr} {rc : Nat} {K : List Ent} {i : Nat} {e : Ent} (h : Ph1j w wr base lo ra rc K i e.l) (he : K[i]? = some e) : Ph1 w wr base lo ra rc K (i + 1) := by
  obtain ⟨h1, h2, Z, h3, h4, h5⟩ := h
  refine ⟨h1, h2, Z, h3, fun q hq => ?_⟩
  by_cases e1 : q = i
  · subst e1
    have hl := (h3.ok q e he).1
    rw [hl, ← h5, List.take_of_length_le (by omega)]
  · exact h4 q (by omega)
theorem Ph1j.no {w wr w' : World} {base lo : Nat} {ra : Option Addr} {rc : Nat} {K : List Ent} {i j : Nat} (h : Ph1j w wr base lo ra rc K i j) (hk : Kept No wr w') : Ph1j w w' base lo ra rc K i j := by
  obtain ⟨h1, h2, Z, h3, h4⟩ := h
  exact ⟨h1.no hk, h2.then hk.of_no, Z, h3.no hk, h4⟩
theorem Ph1j.cell {w wr : World} {base lo : Nat} {ra : Option Addr} {rc : Nat} {K : List Ent} {i j : Nat} (h : Ph1j w wr base lo ra rc K i j) {e : Ent} (he : K[i]? = some e) (hj : j < e.l) :
    ∃ g, e.a = some ⟨g, 0, none⟩ ∧ (∃ z, wr.cell? ⟨g, j, none⟩ = some (.int .u8 z)) ∧ wr.frozen? ⟨g, j, none⟩ = false := by
  obtain ⟨h1, h2, Z, h3, h4⟩ := h
  obtain ⟨hl, ho, _⟩ := h3.ok i e he
  obtain ⟨g, ha, _⟩ := ho.some (by omega)
  rw [ha] at ho
  have := ho.row2 j (by omega)
  exact ⟨g, ha, ⟨_, this.1⟩, this.2⟩
theorem Ph1j.set {w wr : World} {base lo : Nat} {ra : Option Addr} {rc : Nat} {K : List Ent} {i j : Nat} (h : Ph1j w wr base lo ra rc K i j) {e : Ent} (he : K[i]? = some e) (hj : j < e.l) {g : Nat} (ha : e.a = some ⟨g, 0, none⟩) :
    Ph1j w (wr.setCell ⟨g, j, none⟩ (.int .u8 (markOf i j : Int))) base lo ra rc K i (j + 1) := by
  obtain ⟨h1, h2, Z, h3, h4, h5⟩ := h
  have hb : EB K g := ⟨e, List.mem_of_getElem? he, _, ha, rfl⟩
  refine ⟨h1.kept ((Kept.refl (Only g) wr).setCell (p := ⟨g, j, none⟩) (fun _ => (rfl : g = g)) _) (fun k hk eo => ?_), h2.setCell (p := ⟨g, j, none⟩) (fun _ => hb) _, _, h3.set he ha _, fun q hq => ?_, ?_⟩
  · have eo' : k = g := eo
    subst eo'
    exact h1.apart h3 hk hb
  · have : ¬ q = i := by omega
    simp only [if_neg this]
    exact h4 q hq
  · simp only [if_true]
    exact take_set_marks h5 (by rw [(h3.ok i e he).1]; exact hj)

/-- Lists grown: up to list i. -/
structure Ph2 (w wr : World) (base lo : Nat) (ra : Option Addr) (rc : Nat) (K : List Ent) (ma : Option Addr) (mc : Nat) (M : List Ent) (i : Nat) : Prop where
  row : Rw wr base ra rc K
  kept : Kept (EB K) w wr
  more : Rw wr w.heap.size ma mc M
  len : M.length = i
  olds : ∀ q e, K[q]? = some e → OwnS wr lo e.a e.c (marksOf q e.l)
  news : ∀ q e f, K[q]? = some e → M[q]? = some f → f.l = e.l + 96 ∧ OwnS wr lo f.a f.c (marksOf q e.l ++ growsOf q 96) ∧ (f.a = e.a ∨ ∀ k, At f.a k → w.heap.size ≤ k)
theorem Ph1.grow {w wr : World} {base lo : Nat} {ra : Option Addr} {rc : Nat} {K : List Ent} {n : Nat} (h : Ph1 w wr base lo ra rc K n) (hn : K.length = n) : Ph2 w wr base lo ra rc K none 0 [] 0 := by
  obtain ⟨h1, h2, Z, h3, h4⟩ := h
  refine ⟨h1, h2, Rw.nil _ _, rfl, fun q e he => ?_, fun q e f he hf => by simp at hf⟩
  have hq : q < n := by rw [← hn]; exact (List.getElem?_eq_some_iff.1 he).1
  have h5 := h3.ok q e he
  have h6 := h4 q hq
  rw [h5.1] at h6
  rw [← h6]
  exact h5.2.1
theorem Ph2.no {w wr w' : World} {base lo : Nat} {ra : Option Addr} {rc : Nat} {K : List Ent} {ma : Option Addr} {mc : Nat} {M : List Ent} {i : Nat} (h : Ph2 w wr base lo ra rc K ma mc M i) (hk : Kept No wr w') : Ph2 w w' base lo ra rc K ma mc M i :=
  ⟨h.row.no hk, h.kept.then hk.of_no, h.more.no hk, h.len, fun q e he => (h.olds q e he).no hk, fun q e f he hf => ⟨(h.news q e f he hf).1, (h.news q e f he hf).2.1.no hk, (h.news q e f he hf).2.2⟩⟩
theorem typ_ne {w : World} {k : Nat} {cur cur' : Array Value} {t t' : TypeId} {fr fr' : Nat × Nat} (h : w.heap[k]? = some (.cells cur t fr)) (h' : w.heap[k]? = some (.cells cur' t' fr')) (hne : t ≠ t') : False := by
  rw [h] at h'; cases h'; exact hne rfl
/-- One of them has grown. -/
theorem Ph2.grown {w wi wr : World} {base lo : Nat} {ra : Option Addr} {rc : Nat} {K : List Ent} {Z : Nat → List Int} {ma : Option Addr} {mc : Nat} {M : List Ent} {i : Nat} (h : Ph2 w wi base lo ra rc K ma mc M i) (hE : Erow w lo K Z) {e : Ent} (he : K[i]? = some e) {a' : Option Addr} {c' : Nat}
    (hG : Gr wi wr lo e (marksOf i e.l) (growsOf i 96) a' c') : Ph2 w wr base lo ra rc K ma mc M i ∧ OwnS wr lo a' c' (marksOf i e.l ++ growsOf i 96) ∧ (a' = e.a ∨ ∀ k, At a' k → w.heap.size ≤ k) := by
  have hlt : ∀ k, At e.a k → k < w.heap.size := fun k hk => (hE.lo ⟨e, List.mem_of_getElem? he, hk⟩).2.1
  have hold := h.olds i e he
  refine ⟨⟨h.row.kept hG.kept (fun k hk ea => ?_), h.kept.trans hG.kept (fun _ e => e) (fun k _ ea => ⟨e, List.mem_of_getElem? he, ea⟩), h.more.kept hG.kept (fun k hk ea => ?_), h.len, fun q f hf => ?_, fun q f f' hf hf' => ?_⟩, hG.new, ?_⟩
  · obtain ⟨c1, h1⟩ := h.row.typ hk
    obtain ⟨c2, h2⟩ := hold.typ ea
    exact typ_ne h1 h2 (by decide)
  · obtain ⟨c1, h1⟩ := h.more.typ hk
    obtain ⟨c2, h2⟩ := hold.typ ea
    exact typ_ne h1 h2 (by decide)
  · by_cases hq : q = i
    · subst hq
      rw [he] at hf
      cases hf
      exact hG.old
    · exact (h.olds q f hf).kept hG.kept (fun k hk ea => hq (hE.dis q i f e k hf he hk ea))
  · have h1 := h.news q f f' hf hf'
    have hqi : q < i := by rw [← h.len]; exact (List.getElem?_eq_some_iff.1 hf').1
    refine ⟨h1.1, h1.2.1.kept hG.kept (fun k hk ea => ?_), h1.2.2⟩
    rcases h1.2.2 with h2 | h2
    · rw [h2] at hk
      have := hE.dis q i f e k hf he hk ea
      omega
    · have := h2 k hk
      have := hlt k ea
      omega
  · rcases hG.wher with h2 | h2
    · exact .inl h2.1
    · exact .inr (fun k hk => Nat.le_trans h.kept.size (h2 k hk))
/-- .. and is put into the row. -/
theorem Ph2.add {w wr w' : World} {base lo : Nat} {ra : Option Addr} {rc : Nat} {K : List Ent} {ma ma' : Option Addr} {mc mc' : Nat} {M : List Ent} {i : Nat} (h : Ph2 w wr base lo ra rc K ma mc M i) (hb : base ≤ w.heap.size) {e f : Ent} (he : K[i]? = some e) (hl : f.l = e.l + 96)
    (ho : OwnS wr lo f.a f.c (marksOf i e.l ++ growsOf i 96)) (hw : f.a = e.a ∨ ∀ k, At f.a k → w.heap.size ≤ k) (hra : ∀ k, At ra k → k < w.heap.size)
    (hr : w'.ownsRow w.heap.size 35 1 (.slice ma' (i + 1) mc') (i + 1) (M.map entV ++ [entV f])) (hk : Kept (At ma) wr w') : Ph2 w w' base lo ra rc K ma' mc' (M ++ [f]) (i + 1) := by
  have hnt : ∀ {a : Option Addr} {c : Nat} {zs : List Int}, OwnS wr lo a c zs → ∀ k, At a k → ¬ At ma k := by
    intro a c zs ho k hk' hm
    obtain ⟨c1, h1⟩ := h.more.typ hm
    obtain ⟨c2, h2⟩ := ho.typ hk'
    exact typ_ne h1 h2 (by decide)
  refine ⟨h.row.kept hk (fun k hk' hm => ?_), h.kept.trans hk (fun _ e => e) (fun k hkl hm => ?_), ?_, by simp [h.len], fun q f' hf => (h.olds q f' hf).kept hk (hnt (h.olds q f' hf)), fun q e' f' he' hf' => ?_⟩
  · have := hra k hk'; have := h.more.base hm; omega
  · have := h.more.base hm; omega
  · unfold Rw
    rw [List.length_append, h.len, List.map_append]
    exact hr
  · by_cases hq : q < M.length
    · rw [List.getElem?_append_left hq] at hf'
      have h1 := h.news q e' f' he' hf'
      exact ⟨h1.1, h1.2.1.kept hk (hnt h1.2.1), h1.2.2⟩
    · rw [List.getElem?_append_right (by omega)] at hf'
      have h0 : q - M.length = 0 := by have := (List.getElem?_eq_some_iff.1 hf').1; simp at this; omega
      rw [h0] at hf'
      simp at hf'
      subst hf'
      have hqi : q = i := by rw [← h.len]; omega
      subst hqi
      rw [he] at he'
      cases he'
      exact ⟨hl, ho.kept hk (hnt ho), hw⟩

theorem gr_len2 (i l j : Nat) : (marksOf i l ++ growsOf i j).length = l + j := by rw [List.length_append, marksOf_len, growsOf_len]

/-- One byte is appended. -/
theorem wp_one {ops : Array Oper} {rest : List Oper} {o : Oper} {a : Act} {w : World} {Q : Exit → Act → World → Prop} (hgd : o.guard = Option.none) (s x : Operand) (ho : o.op = .call { callee := .builtin .append, args := #[s, x], argTypes := #[35, 35] })
    (lo : Nat) (sa : Option Addr) (sn sc : Nat) (zs : List Int) (hs : a.eval s = .slice sa sn sc) (hsn : zs.length = sn) (hown : OwnS w lo sa sc zs) (xb xc : Nat) (v : Int) (hx : a.eval x = .slice (some ⟨xb, 0, none⟩) 1 xc) (hc : w.cell? ⟨xb, 0, none⟩ = some (.int .u8 v)) (hlen : sn ≤ 140737488355000) (hbase : lo ≤ w.heap.size) (n' : Nat) (hn' : sn + 1 = n')
    (h : ∀ a' c' w', Hid (OwnS w' lo a' c' (zs ++ [v])) → Hid ((a' = sa ∧ c' = sc ∧ Kept (At sa) w w') ∨ ((∀ k, At a' k → w.heap.size ≤ k) ∧ Kept No w w')) → wpList Try.prog ops Q rest (a.put o.dst (.slice a' n' c')) w') :
    wpList Try.prog ops Q (o :: rest) a w := by
  subst hsn hn'
  refine wp_appN w 35 5 (.int .u8 0) 1 1 Try.underlying35 Try.info5 rfl (by decide) hgd s x ho lo sa _ sc (zs.map (Value.int .u8)) hs hown ⟨xb, 0, none⟩ 1 xc [.int .u8 v] hx rfl ?_ (fun u hu => by rw [List.mem_singleton.1 hu]; rfl) (by omega) (by omega) hbase ?_
  · intro j u hu
    match j, hu with
    | 0, hu => simp at hu; subst hu; simpa [addr_add] using hc
    | j + 1, hu => simp at hu
  · intro a' c' w' HO HC
    refine h a' c' w' ?_ HC
    show OwnS w' lo a' c' (zs ++ [v])
    unfold OwnS
    rw [List.length_append, List.map_append]
    exact HO
/-- One slice is appended to a row of them. -/
theorem wp_oneR {ops : Array Oper} {rest : List Oper} {o : Oper} {a : Act} {w : World} {Q : Exit → Act → World → Prop} (hgd : o.guard = Option.none) (s x : Operand) (ho : o.op = .call { callee := .builtin .append, args := #[s, x], argTypes := #[59, 59] })
    (base : Nat) (sa : Option Addr) (sn sc : Nat) (K : List Ent) (hs : a.eval s = .slice sa sn sc) (hsn : K.length = sn) (hown : Rw w base sa sc K) (xb xc : Nat) (e : Ent) (hx : a.eval x = .slice (some ⟨xb, 0, none⟩) 1 xc) (hc : w.cell? ⟨xb, 0, none⟩ = some (entV e)) (hlen : sn ≤ 2000000) (hbase : base ≤ w.heap.size) (n' : Nat) (hn' : sn + 1 = n')
    (h : ∀ a' c' w', Hid (w'.ownsRow base 35 1 (.slice a' n' c') n' (K.map entV ++ [entV e])) → Hid (Kept (At sa) w w') → wpList Try.prog ops Q rest (a.put o.dst (.slice a' n' c')) w') :
    wpList Try.prog ops Q (o :: rest) a w := by
  subst hsn hn'
  refine wp_appN w 59 35 (.slice none 0 0) 1 24 Try.und59x Try.info35x rfl (by decide) hgd s x ho base sa _ sc (K.map entV) hs hown ⟨xb, 0, none⟩ 1 xc [entV e] hx rfl ?_ (fun u hu => by rw [List.mem_singleton.1 hu]; rfl) (by omega) (by omega) hbase ?_
  · intro j u hu
    match j, hu with
    | 0, hu => simp at hu; subst hu; simpa [addr_add] using hc
    | j + 1, hu => simp at hu
  · intro a' c' w' HO HC
    refine h a' c' w' HO ?_
    rcases HC.out with h | h
    · exact h.2.2
    · exact h.2.of_no

theorem mark_bd (i j : Nat) : (0 : Int) ≤ (markOf i j : Int) ∧ (markOf i j : Int) ≤ 255 := by have := markOf_lt i j; omega

set_option maxRecDepth 100000 in
set_option maxHeartbeats 8000000 in
theorem grown_any (ra : Option Addr) (rn rc base lo : Nat) (K : List Ent) (Z : Nat → List Int) (w : World) (hR : Rw w base ra rc K) (hE : Erow w lo K Z) (hn : K.length = rn) (hm : rn ≤ 1000) (hlo : lo ≤ w.heap.size) (hbase : base ≤ w.heap.size) (hra : ∀ k, At ra k → k < w.heap.size) :
    Calls Try.prog 27 #[.slice ra rn rc] w fun e w' => e = .returned (.bool true) ∧ Kept (EB K) w w' := by
  have HE : Hid (Erow w lo K Z) := hE
  have HN : Hid (K.length = rn) := hn
  have HRA : Hid (∀ k, At ra k → k < w.heap.size) := hra
  have HP0 : Hid (Ph1 w w base lo ra rc K 0) := ⟨hR, Kept.refl _ _, Z, hE, fun q hq => absurd hq (Nat.not_lt_zero _)⟩
  have HLO : Hid (lo ≤ w.heap.size ∧ base ≤ w.heap.size) := ⟨hlo, hbase⟩
  clear hR hE hn hra hlo hbase
  go_enter Try.func27, Try.ntmps27
  go_wp2
  go_loopw [3] (fun i wr => ∃ k : Nat, k ≤ rn ∧ i = .int .i64 (k : Int) ∧ Hid (Ph1 w wr base lo ra rc K k)) (fun i _ => rn - (intOf i).toNat)
  case atStart => exact ⟨0, Nat.zero_le _, rfl, HP0⟩
  case round =>
    obtain ⟨k, hk, rfl, HP⟩ := hrel
    clear HP0
    by_cases hlt : k < rn
    · have i1 : (k : Int) < (rn : Int) := by omega
      obtain ⟨⟨ea, el, ec⟩, he⟩ : ∃ e, K[k]? = some e := ⟨K[k]'(by rw [HN.out]; exact hlt), by rw [List.getElem?_eq_getElem]⟩
      obtain ⟨rg, rfl, -⟩ := HP.out.row.at he
      have HEk : Hid (K[k]? = some ⟨ea, el, ec⟩) := he
      have hel : (el : Int) ≤ 140737488351232 := by have := (HE.out.ok k _ he).2.2; simp only at this; omega
      clear he
      go_wp2
      go_loopw [4] (fun j wr => ∃ q : Nat, q ≤ el ∧ j = .int .i64 (q : Int) ∧ Hid (Ph1j w wr base lo (some ⟨rg, 0, none⟩) rc K k q)) (fun j _ => el - (intOf j).toNat)
      case atStart => exact ⟨0, Nat.zero_le _, rfl, HP.out.inner⟩
      case round =>
        obtain ⟨q, hq, rfl, HQ⟩ := hrel
        clear HP
        obtain ⟨rg', hrg, hcr⟩ := HQ.out.row.at HEk.out
        cases hrg
        unfold entV at hcr
        simp only at hcr
        by_cases hl2 : q < el
        · have i2 : (q : Int) < (el : Int) := by omega
          obtain ⟨g, ha, ⟨z, hcl⟩, hfr⟩ := HQ.out.cell HEk.out hl2
          simp only at ha
          subst ha
          have HS : Hid (Ph1j w (wr.drew.setCell ⟨g, q, none⟩ (.int .u8 (markOf k q : Int))) base lo (some ⟨rg, 0, none⟩) rc K k (q + 1)) := (HQ.out.no ((Kept.refl No _).drew)).set HEk.out hl2 rfl
          have HM : Hid (∀ W, Calls Try.prog 40 #[.int .i64 (k : Int), .int .i64 (q : Int)] W fun e w' => e = .returned (.int .u8 (markOf k q : Int)) ∧ w' = W) := fun W => mark_any k q W (by omega) (by omega)
          have hcr' : wr.drew.cell? ⟨rg, k, none⟩ = some (.slice (some ⟨g, 0, none⟩) el ec) := hcr
          have hcl' : wr.drew.cell? ⟨g, q, none⟩ = some (.int .u8 z) := hcl
          have hfr' : wr.drew.frozen? ⟨g, q, none⟩ = false := hfr
          generalize (markOf k q : Int) = mv at HS HM
          clear HQ
          go_wp2
          refine wp_region_still_tail 9 (by kernel_rfl) (by kernel_rfl) ?_
          simp only [List.take_succ_cons, List.take_zero, List.drop_succ_cons, List.drop_zero]
          obtain ⟨w1, hw1⟩ : ∃ w1 : World, w1 = { wr with drawn := wr.drawn + 1 } := ⟨_, rfl⟩
          rw [← hw1]
          change Hid (Ph1j w (World.setCell { wr with drawn := wr.drawn + 1 } _ _) _ _ _ _ _ _ _) at HS
          change World.cell? { wr with drawn := wr.drawn + 1 } _ = _ at hcr'
          change World.cell? { wr with drawn := wr.drawn + 1 } _ = _ at hcl'
          change World.frozen? { wr with drawn := wr.drawn + 1 } _ = _ at hfr'
          rw [← hw1] at HS hcr' hcl' hfr'
          clear hcr hcl hfr hw1
          still_step
          still_step
          still_step
          still_step
          still_step
          still_step
          still_step
          still_call (HM.out _)
          still_step
          refine wpStill_nil ?_
          go_wp2
          go_roundw
          case rel => exact ⟨q + 1, by omega, by go_num, HS⟩
          case measure => simp [intOf]; omega
        · have i2 : ¬ (q : Int) < (el : Int) := by omega
          obtain rfl : q = el := by omega
          have HS : Hid (Ph1 w wr base lo (some ⟨rg, 0, none⟩) rc K (k + 1)) := HQ.out.outer HEk.out
          clear HQ
          go_wp2
          go_roundw
          case rel => exact ⟨k + 1, by omega, by go_num, HS⟩
          case measure => simp [intOf]; omega
    · have i1 : ¬ (k : Int) < (rn : Int) := by omega
      obtain rfl : rn = k := by omega
      have HG0 : Hid (Ph2 w wr base lo ra rc K none 0 [] 0) := HP.out.grow HN.out
      clear HP
      go_wp2
      go_loopw [5, 6] (fun m i wr => ∃ (k : Nat) (ma : Option Addr) (mc : Nat) (M : List Ent), k ≤ rn ∧ i = .int .i64 (k : Int) ∧ m = .slice ma k mc ∧ Hid (Ph2 w wr base lo ra rc K ma mc M k)) (fun _ i _ => rn - (intOf i).toNat)
      case atStart => exact ⟨0, none, 0, [], Nat.zero_le _, rfl, rfl, HG0⟩
      case round =>
        obtain ⟨k, ma, mc, M, hk, rfl, rfl, HP⟩ := hrel
        clear HG0
        by_cases hlt : k < rn
        · have i1 : (k : Int) < (rn : Int) := by omega
          obtain ⟨⟨ea, el, ec⟩, he⟩ : ∃ e, K[k]? = some e := ⟨K[k]'(by rw [HN.out]; exact hlt), by rw [List.getElem?_eq_getElem]⟩
          obtain ⟨rg, rfl, hcr⟩ := HP.out.row.at he
          unfold entV at hcr
          simp only at hcr
          have HEk : Hid (K[k]? = some ⟨ea, el, ec⟩) := he
          have hel : (el : Int) ≤ 140737488351232 := by have := (HE.out.ok k _ he).2.2; simp only at this; omega
          have HO : Hid (OwnS wr lo ea ec (marksOf k el)) := HP.out.olds k _ he
          clear he
          obtain ⟨wi, rfl⟩ : ∃ wi : World, wi = wr := ⟨_, rfl⟩
          go_wp2
          go_loopw [7, 8] (fun v j wj => ∃ (q : Nat) (a' : Option Addr) (c' : Nat), q ≤ 96 ∧ j = .int .i64 (q : Int) ∧ v = .slice a' (el + q) c' ∧ Hid (Gr wi wj lo ⟨ea, el, ec⟩ (marksOf k el) (growsOf k q) a' c')) (fun _ j _ => 96 - (intOf j).toNat)
          case atStart => exact ⟨0, ea, ec, Nat.zero_le _, rfl, rfl, Gr.start (e := ⟨ea, el, ec⟩) HO.out⟩
          case round =>
            obtain ⟨q, a', c', hq, rfl, rfl, HG⟩ := hrel
            by_cases hl2 : q < 96
            · have i2 : (q : Int) < 96 := by omega
              have HM : Hid (∀ W, Calls Try.prog 40 #[.int .i64 (k : Int), .int .i64 (q : Int)] W fun e w' => e = .returned (.int .u8 (markOf k q : Int)) ∧ w' = W) := fun W => mark_any k q W (by omega) (by omega)
              have HS : Hid (growsOf k (q + 1) = growsOf k q ++ [255 - (markOf k q : Int)]) := growsOf_succ k q
              obtain ⟨hm0, hm1⟩ := mark_bd k q
              generalize (markOf k q : Int) = mv at HM HS hm0 hm1
              have HWS : Hid (lo ≤ wr.heap.size + 1) := by have h1 := HLO.out.1; have h2 := (HP.out.kept).size; have h3 := HG.out.kept.size; show _ ≤ _; omega
              go_wp2_with fail
              refine (HM.out _).mono ?_
              rintro e w1 ⟨rfl, hw1⟩
              subst hw1
              clear HM
              go_wp2_with (at_builtin; go_must (refine wp_one rfl _ _ rfl lo _ _ _ (marksOf k el ++ growsOf k q) rfl (gr_len2 k el q) (HG.out.no ((Kept.refl No _).alloc _)).new w1.heap.size _ (255 - mv) rfl (by simp) (by omega) (by have := HWS.out; simp; omega) (el + (q + 1)) (by omega) ?_; intro a4 c4 w4 HO4 HC4))
              have HG4 : Hid (Gr wi w4 lo ⟨ea, el, ec⟩ (marksOf k el) (growsOf k (q + 1)) a4 c4) := by
                rw [HS.out]
                exact (HG.out.no ((Kept.refl No _).alloc _)).more (by rw [← List.append_assoc]; exact HO4.out) HC4.out
              clear HG HO4 HC4 HS HWS
              go_roundw
              case rel => exact ⟨q + 1, a4, c4, by omega, by go_num, rfl, HG4⟩
              case measure => simp [intOf]; omega
            · have i2 : ¬ (q : Int) < 96 := by omega
              obtain rfl : q = 96 := by omega
              have HD : Hid (Ph2 w wr base lo (some ⟨rg, 0, none⟩) rc K ma mc M k ∧ OwnS wr lo a' c' (marksOf k el ++ growsOf k 96) ∧ (a' = ea ∨ ∀ k, At a' k → w.heap.size ≤ k)) := HP.out.grown HE.out HEk.out HG.out
              have HD2 : Hid (Ph2 w (wr.alloc (.cells #[.slice a' (el + 96) c'] 35)) base lo (some ⟨rg, 0, none⟩) rc K ma mc M k ∧ OwnS (wr.alloc (.cells #[.slice a' (el + 96) c'] 35)) lo a' c' (marksOf k el ++ growsOf k 96)) := ⟨HD.out.1.no ((Kept.refl No _).alloc _), HD.out.2.1.no ((Kept.refl No _).alloc _)⟩
              clear HG HO HP
              go_wp2_with (at_builtin; go_must (refine wp_oneR rfl _ _ rfl w.heap.size _ _ _ M rfl HD.out.1.len HD2.out.1.more wr.heap.size _ ⟨a', el + 96, c'⟩ rfl (by simp [entV]) (by omega) (by have := HD2.out.1.kept.size; omega) (k + 1) rfl ?_; intro a4 c4 w4 HO4 HK4))
              have HP4 : Hid (Ph2 w w4 base lo (some ⟨rg, 0, none⟩) rc K a4 c4 (M ++ [⟨a', el + 96, c'⟩]) (k + 1)) := HD2.out.1.add HLO.out.2 HEk.out rfl HD2.out.2 HD.out.2.2 HRA.out HO4.out HK4.out
              clear HD HD2 HO4 HK4
              go_roundw
              case rel => exact ⟨k + 1, a4, c4, _, by omega, by go_num, rfl, HP4⟩
              case measure => simp [intOf]; omega
        · have i1 : ¬ (k : Int) < (rn : Int) := by omega
          obtain rfl : rn = k := by omega
          go_wp2
          go_loopw [9] (fun i wr => ∃ k : Nat, k ≤ rn ∧ i = .int .i64 (k : Int) ∧ Hid (Ph2 w wr base lo ra rc K ma mc M rn)) (fun i _ => rn - (intOf i).toNat)
          case atStart => exact ⟨0, Nat.zero_le _, rfl, HP⟩
          case round =>
            obtain ⟨k, hk, rfl, HQ⟩ := hrel
            clear HP hlt i1
            by_cases hlt : k < rn
            · have i1 : (k : Int) < (rn : Int) := by omega
              obtain ⟨⟨ea, el, ec⟩, he⟩ : ∃ e, K[k]? = some e := ⟨K[k]'(by rw [HN.out]; exact hlt), by rw [List.getElem?_eq_getElem]⟩
              obtain ⟨⟨fa, fl, fc⟩, hf⟩ : ∃ e, M[k]? = some e := ⟨M[k]'(by rw [HQ.out.len]; exact hlt), by rw [List.getElem?_eq_getElem]⟩
              obtain ⟨rg, rfl, hcr⟩ := HQ.out.row.at he
              obtain ⟨mg, rfl, hcm⟩ := HQ.out.more.at hf
              unfold entV at hcr hcm
              simp only at hcr hcm
              have HEk : Hid (K[k]? = some ⟨ea, el, ec⟩) := he
              have HFk : Hid (M[k]? = some ⟨fa, fl, fc⟩) := hf
              have hel : (el : Int) ≤ 140737488351232 := by have := (HE.out.ok k _ he).2.2; simp only at this; omega
              obtain rfl : fl = el + 96 := (HQ.out.news k _ _ he hf).1
              clear he hf
              go_wp2
              go_loopw [11] (fun j wr => ∃ q : Nat, q ≤ el ∧ j = .int .i64 (q : Int) ∧ Hid (Ph2 w wr base lo (some ⟨rg, 0, none⟩) rc K (some ⟨mg, 0, none⟩) mc M rn)) (fun j _ => el - (intOf j).toNat)
              case atStart => exact ⟨0, Nat.zero_le _, rfl, HQ⟩
              case round =>
                obtain ⟨q, hq, rfl, HT⟩ := hrel
                clear HQ hcr hcm
                by_cases hl2 : q < el
                · have i2 : (q : Int) < (el : Int) := by omega
                  obtain ⟨rg', hrg, hcr⟩ := HT.out.row.at HEk.out
                  cases hrg
                  obtain ⟨mg', hmg, hcm⟩ := HT.out.more.at HFk.out
                  cases hmg
                  unfold entV at hcr hcm
                  simp only at hcr hcm
                  have ho := HT.out.olds k _ HEk.out
                  have hw := (HT.out.news k _ _ HEk.out HFk.out).2.1
                  simp only at ho hw
                  obtain ⟨g, rfl, _⟩ := ho.some (by rw [marksOf_len]; omega)
                  obtain ⟨g2, rfl, _⟩ := hw.some (by rw [gr_len2]; omega)
                  have hcl := (ho.row2 q (by rw [marksOf_len]; omega)).1
                  have hcl2 := (hw.row2 q (by rw [gr_len2]; omega)).1
                  rw [marksOf_at hl2] at hcl
                  rw [List.getElem?_append_left (by rw [marksOf_len]; exact hl2), marksOf_at hl2] at hcl2
                  have HM : Hid (∀ n, Calls Try.prog 40 #[.int .i64 (k : Int), .int .i64 (q : Int)] (wr.drewN n) fun e w' => e = .returned (.int .u8 (markOf k q : Int)) ∧ ∃ m, w' = (wr.drewN n).drewN m) := fun n => (mark_any k q _ (by omega) (by omega)).mono (fun e w' h => ⟨h.1, 0, h.2⟩)
                  generalize (markOf k q : Int) = mv at HM hcl hcl2
                  have HT2 : Hid (∀ n, Ph2 w (wr.drewN n) base lo (some ⟨rg, 0, none⟩) rc K (some ⟨mg, 0, none⟩) mc M rn) := fun n => HT.out.no ((Kept.refl No _).drewN n)
                  clear HT ho hw
                  go_wp2
                  go_quiet ((go_at_call 40; exact Calls.quiet_of (HM.out _)))
                  go_wp2
                  go_roundw
                  case rel => exact ⟨q + 1, by omega, by go_num, HT2.out _⟩
                  case measure => simp [intOf]; omega
                · have i2 : ¬ (q : Int) < (el : Int) := by omega
                  go_wp2
                  go_loopw [12] (fun j wr => ∃ q : Nat, q ≤ 96 ∧ j = .int .i64 (q : Int) ∧ Hid (Ph2 w wr base lo (some ⟨rg, 0, none⟩) rc K (some ⟨mg, 0, none⟩) mc M rn)) (fun j _ => 96 - (intOf j).toNat)
                  case atStart => exact ⟨0, Nat.zero_le _, rfl, HT⟩
                  case round =>
                    obtain ⟨p, hp, rfl, HS⟩ := hrel
                    clear HT
                    by_cases hl3 : p < 96
                    · have i3 : (p : Int) < 96 := by omega
                      obtain ⟨mg', hmg, hcm⟩ := HS.out.more.at HFk.out
                      cases hmg
                      unfold entV at hcm
                      simp only at hcm
                      have hw := (HS.out.news k _ _ HEk.out HFk.out).2.1
                      simp only at hw
                      obtain ⟨g2, rfl, _⟩ := hw.some (by rw [gr_len2]; omega)
                      have hcl2 := (hw.row2 (el + p) (by rw [gr_len2]; omega)).1
                      rw [List.getElem?_append_right (by rw [marksOf_len]; omega), marksOf_len, Nat.add_sub_cancel_left, growsOf_at hl3] at hcl2
                      have HM : Hid (∀ n, Calls Try.prog 40 #[.int .i64 (k : Int), .int .i64 (p : Int)] (wr.drewN n) fun e w' => e = .returned (.int .u8 (markOf k p : Int)) ∧ ∃ m, w' = (wr.drewN n).drewN m) := fun n => (mark_any k p _ (by omega) (by omega)).mono (fun e w' h => ⟨h.1, 0, h.2⟩)
                      obtain ⟨hm0, hm1⟩ := mark_bd k p
                      generalize (markOf k p : Int) = mv at HM hcl2 hm0 hm1
                      have HT2 : Hid (∀ n, Ph2 w (wr.drewN n) base lo (some ⟨rg, 0, none⟩) rc K (some ⟨mg, 0, none⟩) mc M rn) := fun n => HS.out.no ((Kept.refl No _).drewN n)
                      clear HS hw
                      go_wp2
                      go_quiet ((go_at_call 40; exact Calls.quiet_of (HM.out _)))
                      go_wp2
                      go_roundw
                      case rel => exact ⟨p + 1, by omega, by go_num, HT2.out _⟩
                      case measure => simp [intOf]; omega
                    · have i3 : ¬ (p : Int) < 96 := by omega
                      go_wp2
                      go_roundw
                      case rel => exact ⟨k + 1, by omega, by go_num, HS⟩
                      case measure => simp [intOf]; omega
            · have i1 : ¬ (k : Int) < (rn : Int) := by omega
              go_wp2
              go_ret
              exact ⟨rfl, HQ.out.kept⟩

end Gx

end Go.Proofs.Ytphiokehcgbldaa
