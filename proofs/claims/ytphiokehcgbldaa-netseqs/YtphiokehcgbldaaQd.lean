import Derived.Test.YtphiokehcgbldaaQc
namespace Go.Proofs.Ytphiokehcgbldaa
open Go.RowKit Go.Shelf
set_option linter.unusedVariables false
set_option linter.unusedSimpArgs false

theorem plc_find (k : Nm) : ∀ (ys : List Tp) (i : Nat), plc k ys = some i → ∃ y, ys[i]? = some y ∧ y.q.nm = k ∧ (ys.map Tp.q).find? (isN k) = some y.q ∧ rmN k (ys.map Tp.q) = (ys.eraseIdx i).map Tp.q
  | [], i, h => by simp [plc] at h
  | x :: ys, i, h => by
    rw [plc] at h
    by_cases e : x.q.nm = k
    · rw [if_pos e] at h
      cases h
      refine ⟨x, rfl, e, ?_, ?_⟩
      · rw [List.map_cons, List.find?_cons_of_pos (isN_iff.2 e)]
      · rw [List.map_cons]; unfold rmN; rw [List.eraseP_cons_of_pos (isN_iff.2 e)]; rfl
    · rw [if_neg e] at h
      cases hp : plc k ys with
      | none => rw [hp] at h; simp at h
      | some j =>
        rw [hp] at h
        simp at h
        subst h
        obtain ⟨y, h1, h2, h3, h4⟩ := plc_find k ys j hp
        refine ⟨y, by simpa using h1, h2, ?_, ?_⟩
        · rw [List.map_cons, List.find?_cons_of_neg (fun f => e (isN_iff.1 f))]; exact h3
        · rw [List.map_cons]; unfold rmN; rw [List.eraseP_cons_of_neg (fun f => e (isN_iff.1 f))]
          unfold rmN at h4
          rw [h4]; rfl
theorem plc_miss (k : Nm) : ∀ (ys : List Tp), plc k ys = none → (ys.map Tp.q).find? (isN k) = none
  | [], h => rfl
  | x :: ys, h => by
    rw [plc] at h
    by_cases e : x.q.nm = k
    · rw [if_pos e] at h; simp at h
    · rw [if_neg e] at h
      rw [List.map_cons, List.find?_cons_of_neg (fun f => e (isN_iff.1 f))]
      cases hp : plc k ys with
      | none => exact plc_miss k ys hp
      | some j => rw [hp] at h; simp at h

theorem wp_appG {ops : Array Oper} {rest : List Oper} {o : Oper} {a : Act} {w : World} {Q : Exit → Act → World → Prop} (hg : o.guard = none) (s x : Operand) (T E : TypeId) (c by' : Nat) (z : Value) (ht : Try.prog.underlying T = some (.slice E))
    (hinf : (Try.prog.info? E).map (fun i => (i.zero, i.size, i.bytes)) = some (some z, c, by')) (hzc : z.cells.size = c) (hc0 : 0 < c) (ho : o.op = .call { callee := Callee.builtin Builtin.append, args := #[s, x], argTypes := #[T, T] })
    (base n cap : Nat) (sa : Option Addr) (vs : List Value) (hs : a.eval s = .slice sa n cap) (hown : Own E c w base sa cap n vs) (ad : Addr) (m cc : Nat) (news : List Value) (hx : a.eval x = .slice (some ad) m cc) (hl : news.length = m * c) (hnews : ∀ j u, news[j]? = some u → w.cell? (ad.add j) = some u) (h1 : ∀ u ∈ news, u.oneCell' = true) (hbd : (n + m) * by' ≤ 140737488355328) (hb63 : n + m ≤ 9223372036854775807) (hbase : base ≤ w.heap.size) (k : Nat) (hk : n + m = k)
    (h : ∀ a' cap' w', Hid (Own E c w' base a' cap' k (vs ++ news)) → Hid (Kept (At sa) w w') → Hid (∀ j, At a' j → At sa j ∨ w.heap.size ≤ j) → wpList Try.prog ops Q rest (a.put o.dst (.slice a' k cap')) w') : wpList Try.prog ops Q (o :: rest) a w := by
  subst hk
  obtain ⟨a', cap', w', hrun, hO, hK, hA⟩ := run_appG (ty := o.type) (cc := cc) ht hinf hzc hc0 hown hl hnews h1 hbd hb63 hbase
  refine wp_runTo hg _ w' ?_ (h a' cap' w' hO hK hA)
  simp [execOp, ho, resolve, invoke, builtin, hs, hx, hrun, Result.andThen]

theorem RfM.cap {w : World} {r lc sc base : Nat} {ys : List Tp} {ss : List Ad} {la sa : Option Addr} (h : RfM w r ys ss la lc sa sc base) {i : Nat} {y : Tp} (hi : ys[i]? = some y) : ∃ pg, la = some ⟨pg, 0, none⟩ ∧ ys.length ≤ lc ∧ PkAt w pg (i * 6) y ∧ ∀ j u, (ys.flatMap pkL)[j]? = some u → w.cell? ⟨pg, j, none⟩ = some u := by
  have hlen : (ys.flatMap pkL).length = ys.length * 6 := by
    clear h hi
    induction ys with
    | nil => rfl
    | cons y ys ih => rw [List.flatMap_cons, List.length_append, ih]; simp [pkL]; omega
  obtain ⟨pg, e, hp⟩ := pk_at h.row hi
  subst e
  rcases Own.cases h.row hlen with ⟨e, _⟩ | ⟨g, e, _, _, sp, hb, hs⟩
  · cases e
  · cases e
    refine ⟨pg, rfl, by omega, hp, fun j u hj => ?_⟩
    rw [cell_of_row w pg j _ 44 (0, 0) hb]
    rw [List.getElem?_toArray, List.getElem?_append_left (List.getElem?_eq_some_iff.1 hj).1]
    exact hj
theorem fl_len (ys : List Tp) : (ys.flatMap pkL).length = ys.length * 6 := by
  induction ys with
  | nil => rfl
  | cons y ys ih => rw [List.flatMap_cons, List.length_append, ih]; simp [pkL]; omega
theorem fl_take (ys : List Tp) (i j : Nat) (u : Value) (h : ((ys.take i).flatMap pkL)[j]? = some u) : (ys.flatMap pkL)[j]? = some u := by
  have e : ys.flatMap pkL = (ys.take i).flatMap pkL ++ (ys.drop i).flatMap pkL := by rw [← List.flatMap_append, List.take_append_drop]
  rw [e, List.getElem?_append_left (List.getElem?_eq_some_iff.1 h).1]; exact h
theorem fl_drop (ys : List Tp) (i j : Nat) (hi : i ≤ ys.length) (u : Value) (h : ((ys.drop i).flatMap pkL)[j]? = some u) : (ys.flatMap pkL)[i * 6 + j]? = some u := by
  have e : ys.flatMap pkL = (ys.take i).flatMap pkL ++ (ys.drop i).flatMap pkL := by rw [← List.flatMap_append, List.take_append_drop]
  have hl : ((ys.take i).flatMap pkL).length = i * 6 := by rw [fl_len, List.length_take]; congr 1; omega
  rw [e, List.getElem?_append_right (by omega), hl, show i * 6 + j - i * 6 = j by omega]; exact h
theorem fl_one (ys : List Tp) : ∀ u ∈ ys.flatMap pkL, u.oneCell' = true := fun u hu => by
  obtain ⟨y, _, hy⟩ := List.mem_flatMap.1 hu
  simp only [pkL, List.mem_cons, List.not_mem_nil, or_false] at hy
  rcases hy with rfl | rfl | rfl | rfl | rfl | rfl <;> rfl

def DrOut (w : World) (r : Nat) (ys : List Tp) (ss : List Ad) (sa : Option Addr) (sc base : Nat) (k : Nm) (e : Ending) (w' : World) : Prop :=
  (plc k ys = none ∧ e = .returned (.tuple #[.agg #[.bool false, .int .i64 0, .int .i64 0, .bool false, .int .i64 0, .slice none 0 0], .int .i64 150]) ∧ Kept No w w') ∨
  (∃ i y la' lc', plc k ys = some i ∧ ys[i]? = some y ∧ e = .returned (.tuple #[.agg (pkL y).toArray, .int .i64 0]) ∧ RfM w' r (ys.eraseIdx i) ss la' lc' sa sc base ∧ Kept (Only r) w w' ∧ ∀ j, At la' j → w.heap.size ≤ j)
def rndN (a n : Int) : Int := if a.tmod n < 0 then a.tmod n + n else a.tmod n
theorem rnd_bd (a n : Int) (hn : 0 < n) : 0 ≤ rndN a n ∧ rndN a n < n := by
  unfold rndN
  have h1 := Int.tmod_lt_of_pos a hn
  have h2 : -n < a.tmod n := by
    have := Int.lt_tmod_of_pos a hn
    omega
  split <;> omega

set_option maxRecDepth 100000 in
set_option maxHeartbeats 8000000 in
theorem round_any (c : Int) (n : Nat) (hn : 0 < n) (hb : n ≤ 1000000000000) (w : World) :
    Calls Try.prog 33 #[.int .i64 c, .int .i64 (n : Int)] w (fun e w' => e = .returned (.int .i64 (rndN c (n : Int))) ∧ w' = w) := by
  have hn0 : ¬ n = 0 := by omega
  have hn1 : ¬ (n : Int) = 0 := by omega
  have h1 := Int.tmod_lt_of_pos c (show (0 : Int) < (n : Int) by omega)
  have h2 := Int.lt_tmod_of_pos c (show (0 : Int) < (n : Int) by omega)
  go_enter Try.func33, Try.ntmps33
  by_cases hneg : c.tmod (n : Int) < 0
  · go_wp2
    go_ret
    refine ⟨?_, rfl⟩
    rw [rndN, if_pos hneg]
    go_num
  · go_wp2
    go_ret
    refine ⟨?_, rfl⟩
    rw [rndN, if_neg (by omega)]
    try rfl

set_option maxRecDepth 100000 in
set_option maxHeartbeats 8000000 in
theorem deliverR_any {r lc sc base : Nat} {ys : List Tp} {ss : List Ad} {la sa : Option Addr} (fc : Bool) (fi c : Int) (w : World) (h : RfM w r ys ss la lc sa sc base) (hm : ys.length ≤ 10000000000) (hbase : base ≤ w.heap.size) :
    Calls Try.prog 30 #[.pointer (some ⟨r, 0, none⟩), .agg #[.bool fc, .int .i64 fi], .int .i64 c] w (DrOut w r ys ss sa sc base ((fc, fi), c)) := by
  have HR : Hid (RfM w r ys ss la lc sa sc base) := h
  clear h
  go_enter Try.func30, Try.ntmps30
  go_upto_region 1 with fail
  have h2 := two w 34 44 #[.bool fc, .int .i64 fi] #[.bool false, .int .i64 0, .int .i64 0, .bool false, .int .i64 0, .slice none 0 0]
  obtain ⟨bA, hbA⟩ : ∃ b, b = w.heap.size := ⟨_, rfl⟩
  obtain ⟨bR, hbR⟩ : ∃ b, b = w.heap.size + 1 := ⟨_, rfl⟩
  rw [← hbR, ← hbA] at h2
  rw [← hbR, ← hbA]
  generalize (w.alloc (.cells #[.bool fc, .int .i64 fi] 34)).alloc (.cells #[.bool false, .int .i64 0, .int .i64 0, .bool false, .int .i64 0, .slice none 0 0] 44) = w1 at h2 ⊢
  have H1 : Hid (Box w1 bR 44 #[.bool false, .int .i64 0, .int .i64 0, .bool false, .int .i64 0, .slice none 0 0] ∧ Kept No w w1 ∧ w.heap.size ≤ bR) := ⟨h2.2.1, h2.2.2, by omega⟩
  have b0 : w1.cell? ⟨bA, 0, none⟩ = some (.bool fc) := h2.1.cell 0
  have b1 : w1.cell? ⟨bA, 1, none⟩ = some (.int .i64 fi) := h2.1.cell 1
  clear h2 hbA hbR
  cases hp : plc ((fc, fi), c) ys with
  | none =>
    have HP : Hid (plc ((fc, fi), c) ys = none) := hp
    clear hp
    go_upto_region 3 with (go_at_call 42; refine (placeR_any fc fi c w1 (HR.out.no H1.out.2.1) (by omega)).mono ?_; rintro e w2 ⟨rfl, hk2⟩; rw [HP.out]; simp only [plI]; have H2 : Hid (Box w2 bR 44 #[.bool false, .int .i64 0, .int .i64 0, .bool false, .int .i64 0, .slice none 0 0] ∧ Kept No w w2) := ⟨H1.out.1.kept hk2 (fun e => e), H1.out.2.1.then hk2⟩; clear hk2)
    clear b0 b1
    go_wp2_with (refine wpList_store_row rfl 44 _ _ rfl bR #[.bool false, .int .i64 0, .int .i64 0, .bool false, .int .i64 0, .slice none 0 0] rfl rfl 44 _ H2.out.1 (by kernel_rfl) rfl (by simp [Value.oneCell']) ?_)
    refine bodyPost_ret (Wa.results_row_tmp (by rfl) _ _ bR #[.bool false, .int .i64 0, .int .i64 0, .bool false, .int .i64 0, .slice none 0 0] (by rfl) (run_loadVar_row _ bR 44 44 _ (0, 0) _ (Wa.Box.setRow H2.out.1 _) Try.underlying44 rfl (by kernel_rfl))) rfl ?_
    exact .inl ⟨HP.out, rfl, H2.out.2.trans (Wa.Kept.setRow _ _ _) (fun _ e => e) (fun j l e => by have e : j = bR := e; have := H1.out.2.2; omega)⟩
  | some i =>
    obtain ⟨y, hy, hyn, _⟩ := plc_find _ ys i hp
    have hil : i < ys.length := (List.getElem?_eq_some_iff.1 hy).1
    have HP : Hid (plc ((fc, fi), c) ys = some i ∧ ys[i]? = some y) := ⟨hp, hy⟩
    obtain ⟨pg, ela, hlc, _⟩ := HR.out.cap hy
    subst ela
    clear hp hy hyn
    obtain ⟨m, hme⟩ : ∃ m, ys.length = m := ⟨_, rfl⟩
    have HM : Hid (ys.length = m) := hme
    rw [hme] at hm hil hlc
    clear hme
    go_upto_region 4 with (go_at_call 42; refine (placeR_any fc fi c w1 (HR.out.no H1.out.2.1) (by have := HM.out; omega)).mono ?_; rintro e w2 ⟨rfl, hk2⟩; rw [HP.out.1]; simp only [plI]; have H2 : Hid (Box w2 bR 44 #[.bool false, .int .i64 0, .int .i64 0, .bool false, .int .i64 0, .slice none 0 0] ∧ Kept No w w2) := ⟨H1.out.1.kept hk2 (fun e => e), H1.out.2.1.then hk2⟩; clear hk2)
    clear b0 b1
    have HR2 : Hid (RfM w2 r ys ss (some ⟨pg, 0, none⟩) lc sa sc base) := HR.out.no H2.out.2
    obtain ⟨pg', e', _, hpk, _⟩ := HR2.out.cap HP.out.2
    cases e'
    obtain ⟨⟨⟨⟨yc, yi⟩, yn⟩, ⟨ytc, yti⟩, yda, ydc, yz, ypl⟩, ya, ycc⟩ := y
    obtain ⟨y0, y1, y2, y3, y4, y5⟩ := hpk
    simp only at y0 y1 y2 y3 y4 y5
    have r0 : w2.cell? ⟨r, 0, none⟩ = some (.slice (some ⟨pg, 0, none⟩) m lc) := by have := HR2.out.cells.1; rw [HM.out] at this; exact this
    have hil' : (i : Int) < (m : Int) := by omega
    go_upto_region 6 with fail
    obtain ⟨bP, hbP⟩ : ∃ b, b = w2.heap.size := ⟨_, rfl⟩
    obtain ⟨w3, hw3⟩ : ∃ w3, w3 = w2.alloc (.cells #[.bool yc, .int .i64 yi, .int .i64 yn, .bool ytc, .int .i64 yti, .slice ya yz.length ycc] 44) := ⟨_, rfl⟩
    rw [← hw3, ← hbP]
    have hk23 : Kept No w2 w3 := by rw [hw3]; exact (Kept.refl No w2).alloc _
    have H3 : Hid (Box w3 bP 44 #[.bool yc, .int .i64 yi, .int .i64 yn, .bool ytc, .int .i64 yti, .slice ya yz.length ycc] ∧ Kept No w w3 ∧ Box w3 bR 44 #[.bool false, .int .i64 0, .int .i64 0, .bool false, .int .i64 0, .slice none 0 0] ∧ w.heap.size ≤ bP ∧ bP ≠ bR ∧ RfM w3 r ys ss (some ⟨pg, 0, none⟩) lc sa sc base) := by
      refine ⟨by rw [hw3, hbP]; exact Box.new _ _ _, H2.out.2.then hk23, H2.out.1.kept hk23 (fun e => e), by rw [hbP]; exact H2.out.2.size, by have := H2.out.1.lt; omega, HR2.out.no hk23⟩
    clear hw3 hbP hk23 y0 y1 y2 y3 y4 y5 r0 H2 HR2
    have r0 : w3.cell? ⟨r, 0, none⟩ = some (.slice (some ⟨pg, 0, none⟩) m lc) := by have := H3.out.2.2.2.2.2.cells.1; rw [HM.out] at this; exact this
    have HCl : Hid (∀ j u, (ys.flatMap pkL)[j]? = some u → w3.cell? ⟨pg, j, none⟩ = some u) := by
      obtain ⟨pg', e', _, _, hc⟩ := H3.out.2.2.2.2.2.cap HP.out.2
      cases e'
      exact hc
    have hz : ¬ lc = 0 := by omega
    have hilc : (i : Int) ≤ (lc : Int) := by omega
    go_upto_region 7 with (at_builtin; refine wp_appG rfl _ _ 26 44 6 64 _ und26 info44 rfl (by omega) rfl w3.heap.size 0 0 none [] rfl (Own.nil _ _ _ _) ⟨pg, 0, none⟩ i lc ((ys.take i).flatMap pkL) rfl (by rw [fl_len, List.length_take, HM.out]; congr 1; omega) (fun j u hj => by rw [addr_add, Nat.zero_add]; exact HCl.out j u (fl_take ys i j u hj)) (fl_one _) (by omega) (by omega) (Nat.le_refl _) i (by omega) ?_; intro a4 cap4 w4 HO4 HK4 HA4)
    clear r0
    have H4 : Hid (RfM w4 r ys ss (some ⟨pg, 0, none⟩) lc sa sc base ∧ (∀ j, At a4 j → w3.heap.size ≤ j) ∧ Kept No w3 w4) := ⟨H3.out.2.2.2.2.2.kept HK4.out (fun _ _ e => At.none e), fun j e => (HA4.out j e).resolve_left At.none, HK4.out.mono (fun _ _ e => (At.none e).elim)⟩
    have r0 : w4.cell? ⟨r, 0, none⟩ = some (.slice (some ⟨pg, 0, none⟩) m lc) := by have := H4.out.1.cells.1; rw [HM.out] at this; exact this
    have hi1 : (i : Int) + 1 ≤ (m : Int) := by omega
    have hi2 : (i : Int) + 1 ≤ (lc : Int) := by omega
    clear HA4 HK4
    by_cases hcap : lc = i + 1
    · subst hcap
      obtain rfl : m = i + 1 := by omega
      go_upto_region 8 with (at_builtin; refine wp_appG rfl _ _ 26 44 6 64 _ und26 info44 rfl (by omega) rfl w3.heap.size i cap4 a4 ((ys.take i).flatMap pkL) rfl (by simpa using HO4.out) ⟨pg, 0, none⟩ 0 0 ((ys.drop (i + 1)).flatMap pkL) rfl (by rw [fl_len, List.length_drop, HM.out, Nat.sub_self]) (fun j u hj => by rw [List.drop_of_length_le (by rw [HM.out]; omega)] at hj; simp at hj) (fl_one _) (by omega) (by omega) H4.out.2.2.size i (by omega) ?_; intro a5 cap5 w5 HO5 HK5 HA5; have hr4 : ¬ At a4 r := (fun e => by have := H4.out.2.1 r e; have := H3.out.2.2.2.2.2.box.lt; omega); have HB5 : Hid (Box w5 r 29 #[.slice (some ⟨pg, 0, none⟩) ys.length (i + 1), .slice sa ss.length sc]) := H4.out.1.box.kept HK5.out hr4; have r5 : w5.cell? ⟨r, 0, none⟩ = some (.slice (some ⟨pg, 0, none⟩) ys.length (i + 1)) := HB5.out.cell 0; have f5 := HB5.out.frozen 0; clear r0 hr4)
      obtain ⟨w6, hw6⟩ : ∃ w6, w6 = w5.setCell ⟨r, 0, none⟩ (.slice a5 i cap5) := ⟨_, rfl⟩
      rw [← hw6]
      have hk56 : Kept (Only r) w5 w6 := by rw [hw6]; exact (Kept.refl (Only r) w5).setCell (p := ⟨r, 0, none⟩) (fun _ => rfl) _
      have hk35 : Kept (fun j => w3.heap.size ≤ j) w3 w5 := H4.out.2.2.of_no.then (HK5.out.mono (fun j _ e => H4.out.2.1 j e))
      have hk36 : Kept (fun j => j = r ∨ w3.heap.size ≤ j) w3 w6 := (hk35.mono (fun j _ e => .inr e)).then (hk56.mono (fun j _ e => .inl e))
      have hrl := HR.out.box.lt
      have hs3 := H3.out.2.1.size
      have hPl := H3.out.1.lt
      have hRl := H3.out.2.2.1.lt
      have hP0 := H3.out.2.2.2.1
      have hR0 := H1.out.2.2
      have hers : ys.eraseIdx i = ys.take i ++ ys.drop (i + 1) := List.eraseIdx_eq_take_drop_succ ys i
      have H6 : Hid (RfM w6 r (ys.eraseIdx i) ss a5 cap5 sa sc base ∧ Kept (Only r) w w6 ∧ (∀ j, At a5 j → w.heap.size ≤ j ∧ j ≠ bR) ∧ Box w6 bP 44 #[.bool yc, .int .i64 yi, .int .i64 yn, .bool ytc, .int .i64 yti, .slice ya yz.length ycc] ∧ Box w6 bR 44 #[.bool false, .int .i64 0, .int .i64 0, .bool false, .int .i64 0, .slice none 0 0]) := by
        have ha5 : ∀ j, At a5 j → w3.heap.size ≤ j := fun j e => by
          rcases HA5.out j e with f | f
          · exact H4.out.2.1 j f
          · exact Nat.le_trans H4.out.2.2.size f
        have hel : (ys.eraseIdx i).length = i := by rw [hers, List.length_append, List.length_take, List.length_drop, HM.out]; omega
        refine ⟨⟨?_, ?_, H3.out.2.2.2.2.2.snt.kept hk36 (fun j e f => ?_), HR.out.lo⟩, H3.out.2.1.of_no.trans hk36 (fun _ e => e) (fun j hj e => by rcases e with e | e; exact e; omega), fun j e => ⟨Nat.le_trans hs3 (ha5 j e), by have := ha5 j e; omega⟩, H3.out.1.kept hk36 (fun e => by omega), H3.out.2.2.1.kept hk36 (fun e => by omega)⟩
        · rw [hel, hw6]
          have h := HB5.out.set 0 (.slice a5 i cap5)
          simpa using h
        · rw [hel, hers, List.flatMap_append]
          refine Own.lower (HO5.out.kept hk56 (fun j e f => ?_)) (Nat.le_trans hbase hs3)
          have f : j = r := f
          have := ha5 j e
          omega
        · rcases f with f | f
          · rw [f] at e; exact H3.out.2.2.2.2.2.sr e
          · have := Own.ltA H3.out.2.2.2.2.2.snt e; omega
      clear hw6 hk56 hk35 hk36 r5 f5 HB5 HO5 HK5 HA5 hers hrl hs3 hPl hRl hP0 hR0
      have p0 : w6.cell? ⟨bP, 0, none⟩ = some (.bool yc) := H6.out.2.2.2.1.cell 0
      have p1 : w6.cell? ⟨bP, 1, none⟩ = some (.int .i64 yi) := H6.out.2.2.2.1.cell 1
      have p2' : w6.cell? ⟨bP, 2, none⟩ = some (.int .i64 yn) := H6.out.2.2.2.1.cell 2
      have p3' : w6.cell? ⟨bP, 3, none⟩ = some (.bool ytc) := H6.out.2.2.2.1.cell 3
      have p4 : w6.cell? ⟨bP, 4, none⟩ = some (.int .i64 yti) := H6.out.2.2.2.1.cell 4
      have p5 : w6.cell? ⟨bP, 5, none⟩ = some (.slice ya yz.length ycc) := H6.out.2.2.2.1.cell 5
      go_wp2_with (refine wpList_store_row rfl 44 _ _ rfl bR #[.bool yc, .int .i64 yi, .int .i64 yn, .bool ytc, .int .i64 yti, .slice ya yz.length ycc] rfl rfl 44 _ H6.out.2.2.2.2 (by kernel_rfl) rfl (by simp [Value.oneCell']) ?_)
      refine bodyPost_ret (Wa.results_row_tmp (by rfl) _ _ bR #[.bool yc, .int .i64 yi, .int .i64 yn, .bool ytc, .int .i64 yti, .slice ya yz.length ycc] (by rfl) (run_loadVar_row _ bR 44 44 _ (0, 0) _ (Wa.Box.setRow H6.out.2.2.2.2 _) Try.underlying44 rfl (by kernel_rfl))) rfl ?_
      have hR0 := H1.out.2.2
      refine .inr ⟨i, _, a5, cap5, HP.out.1, HP.out.2, rfl, H6.out.1.kept (Wa.Kept.setRow _ _ _) (fun j e f => ?_), H6.out.2.1.trans (Wa.Kept.setRow _ _ _) (fun _ e => e) (fun j hj e => by have e : j = bR := e; omega), fun j e => (H6.out.2.2.1 j e).1⟩
      have f : j = bR := f
      rcases e with e | e | e
      · have := HR.out.box.lt; omega
      · rw [f] at e; exact (H6.out.2.2.1 bR e).2 rfl
      · have := Own.ltA HR.out.snt e; omega
    · go_upto_region 8 with (at_builtin; refine wp_appG rfl _ _ 26 44 6 64 _ und26 info44 rfl (by omega) rfl w3.heap.size i cap4 a4 ((ys.take i).flatMap pkL) rfl (by simpa using HO4.out) ⟨pg, (i + 1) * 6, none⟩ (m - (i + 1)) (lc - (i + 1)) ((ys.drop (i + 1)).flatMap pkL) rfl (by rw [fl_len, List.length_drop, HM.out]) (fun j u hj => by rw [addr_add]; exact H4.out.2.2.cell (HCl.out _ u (fl_drop ys (i + 1) j (by rw [HM.out]; omega) u hj)) (fun e => e)) (fl_one _) (by omega) (by omega) H4.out.2.2.size (m - 1) (by omega) ?_; intro a5 cap5 w5 HO5 HK5 HA5; have hr4 : ¬ At a4 r := (fun e => by have := H4.out.2.1 r e; have := H3.out.2.2.2.2.2.box.lt; omega); have HB5 : Hid (Box w5 r 29 #[.slice (some ⟨pg, 0, none⟩) ys.length lc, .slice sa ss.length sc]) := H4.out.1.box.kept HK5.out hr4; have r5 : w5.cell? ⟨r, 0, none⟩ = some (.slice (some ⟨pg, 0, none⟩) ys.length lc) := HB5.out.cell 0; have f5 := HB5.out.frozen 0; clear r0 hr4)
      obtain ⟨w6, hw6⟩ : ∃ w6, w6 = w5.setCell ⟨r, 0, none⟩ (.slice a5 (m - 1) cap5) := ⟨_, rfl⟩
      rw [← hw6]
      have hk56 : Kept (Only r) w5 w6 := by rw [hw6]; exact (Kept.refl (Only r) w5).setCell (p := ⟨r, 0, none⟩) (fun _ => rfl) _
      have hk35 : Kept (fun j => w3.heap.size ≤ j) w3 w5 := H4.out.2.2.of_no.then (HK5.out.mono (fun j _ e => H4.out.2.1 j e))
      have hk36 : Kept (fun j => j = r ∨ w3.heap.size ≤ j) w3 w6 := (hk35.mono (fun j _ e => .inr e)).then (hk56.mono (fun j _ e => .inl e))
      have hrl := HR.out.box.lt
      have hs3 := H3.out.2.1.size
      have hPl := H3.out.1.lt
      have hRl := H3.out.2.2.1.lt
      have hP0 := H3.out.2.2.2.1
      have hR0 := H1.out.2.2
      have hers : ys.eraseIdx i = ys.take i ++ ys.drop (i + 1) := List.eraseIdx_eq_take_drop_succ ys i
      have H6 : Hid (RfM w6 r (ys.eraseIdx i) ss a5 cap5 sa sc base ∧ Kept (Only r) w w6 ∧ (∀ j, At a5 j → w.heap.size ≤ j ∧ j ≠ bR) ∧ Box w6 bP 44 #[.bool yc, .int .i64 yi, .int .i64 yn, .bool ytc, .int .i64 yti, .slice ya yz.length ycc] ∧ Box w6 bR 44 #[.bool false, .int .i64 0, .int .i64 0, .bool false, .int .i64 0, .slice none 0 0]) := by
        have ha5 : ∀ j, At a5 j → w3.heap.size ≤ j := fun j e => by
          rcases HA5.out j e with f | f
          · exact H4.out.2.1 j f
          · exact Nat.le_trans H4.out.2.2.size f
        have hel : (ys.eraseIdx i).length = m - 1 := by rw [hers, List.length_append, List.length_take, List.length_drop, HM.out]; omega
        refine ⟨⟨?_, ?_, H3.out.2.2.2.2.2.snt.kept hk36 (fun j e f => ?_), HR.out.lo⟩, H3.out.2.1.of_no.trans hk36 (fun _ e => e) (fun j hj e => by rcases e with e | e; exact e; omega), fun j e => ⟨Nat.le_trans hs3 (ha5 j e), by have := ha5 j e; omega⟩, H3.out.1.kept hk36 (fun e => by omega), H3.out.2.2.1.kept hk36 (fun e => by omega)⟩
        · rw [hel, hw6]
          have h := HB5.out.set 0 (.slice a5 (m - 1) cap5)
          simpa using h
        · rw [hel, hers, List.flatMap_append]
          refine Own.lower (HO5.out.kept hk56 (fun j e f => ?_)) (Nat.le_trans hbase hs3)
          have f : j = r := f
          have := ha5 j e
          omega
        · rcases f with f | f
          · rw [f] at e; exact H3.out.2.2.2.2.2.sr e
          · have := Own.ltA H3.out.2.2.2.2.2.snt e; omega
      clear hw6 hk56 hk35 hk36 r5 f5 HB5 HO5 HK5 HA5 hers hrl hs3 hPl hRl hP0 hR0
      have p0 : w6.cell? ⟨bP, 0, none⟩ = some (.bool yc) := H6.out.2.2.2.1.cell 0
      have p1 : w6.cell? ⟨bP, 1, none⟩ = some (.int .i64 yi) := H6.out.2.2.2.1.cell 1
      have p2' : w6.cell? ⟨bP, 2, none⟩ = some (.int .i64 yn) := H6.out.2.2.2.1.cell 2
      have p3' : w6.cell? ⟨bP, 3, none⟩ = some (.bool ytc) := H6.out.2.2.2.1.cell 3
      have p4 : w6.cell? ⟨bP, 4, none⟩ = some (.int .i64 yti) := H6.out.2.2.2.1.cell 4
      have p5 : w6.cell? ⟨bP, 5, none⟩ = some (.slice ya yz.length ycc) := H6.out.2.2.2.1.cell 5
      go_wp2_with (refine wpList_store_row rfl 44 _ _ rfl bR #[.bool yc, .int .i64 yi, .int .i64 yn, .bool ytc, .int .i64 yti, .slice ya yz.length ycc] rfl rfl 44 _ H6.out.2.2.2.2 (by kernel_rfl) rfl (by simp [Value.oneCell']) ?_)
      refine bodyPost_ret (Wa.results_row_tmp (by rfl) _ _ bR #[.bool yc, .int .i64 yi, .int .i64 yn, .bool ytc, .int .i64 yti, .slice ya yz.length ycc] (by rfl) (run_loadVar_row _ bR 44 44 _ (0, 0) _ (Wa.Box.setRow H6.out.2.2.2.2 _) Try.underlying44 rfl (by kernel_rfl))) rfl ?_
      have hR0 := H1.out.2.2
      refine .inr ⟨i, _, a5, cap5, HP.out.1, HP.out.2, rfl, H6.out.1.kept (Wa.Kept.setRow _ _ _) (fun j e f => ?_), H6.out.2.1.trans (Wa.Kept.setRow _ _ _) (fun _ e => e) (fun j hj e => by have e : j = bR := e; omega), fun j e => (H6.out.2.2.1 j e).1⟩
      have f : j = bR := f
      rcases e with e | e | e
      · have := HR.out.box.lt; omega
      · rw [f] at e; exact (H6.out.2.2.1 bR e).2 rfl
      · have := Own.ltA HR.out.snt e; omega
end Go.Proofs.Ytphiokehcgbldaa
