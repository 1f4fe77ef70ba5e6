import Derived.Test.YtmhjbkpojndhkabTc
namespace Go.Proofs.Ytmhjbkpojndhkab
open Go.RowKit
set_option linter.unusedVariables false
set_option linter.unusedSimpArgs false

theorem cell_new1 (w : World) (v : Value) (t : TypeId) (j : Nat) (u : Value) (h : [v][j]? = some u) : (w.alloc (.cells #[v] t)).cell? ((⟨w.heap.size, 0, none⟩ : Addr).add j) = some u := by
  rw [addr_add, Nat.zero_add, (Box.new w t #[v]).cell]
  simpa using h
theorem Own.nil (t : TypeId) (c : Nat) (w : World) (base : Nat) : Own t c w base none 0 0 [] := ⟨by simp, .inl ⟨rfl, rfl⟩⟩

theorem wp_appV {ops : Array Oper} {rest : List Oper} {o : Oper} {a : Act} {w : World} {Q : Exit → Act → World → Prop} (hg : o.guard = none) (s x : Operand) (T E : TypeId) (c by' : Nat) (z : Value) (ht : Try.prog.underlying T = some (.slice E))
    (hinf : (Try.prog.info? E).map (fun i => (i.zero, i.size, i.bytes)) = some (some z, c, by')) (hzc : z.cells.size = c) (hc0 : 0 < c) (ho : o.op = .call { callee := Callee.builtin Builtin.append, args := #[s, x], argTypes := #[T, T] })
    (base n cap : Nat) (sa : Option Addr) (vs : List Value) (hs : a.eval s = .slice sa n cap) (hown : Own E c w base sa cap n vs) (ad : Addr) (m cc : Nat) (news : List Value) (hx : a.eval x = .slice (some ad) m cc) (hl : news.length = m * c) (hnews : ∀ j u, news[j]? = some u → w.cell? (ad.add j) = some u) (h1 : ∀ u ∈ news, u.oneCell' = true) (hbd : (n + m) * by' ≤ 140737488355328) (hb63 : n + m ≤ 9223372036854775807) (hm : 0 < m) (hbase : base ≤ w.heap.size) (k : Nat) (hk : n + m = k)
    (h : ∀ g' cap' w', Hid (Own E c w' base (some ⟨g', 0, none⟩) cap' k (vs ++ news)) → Hid (Kept (At sa) w w') → wpList Try.prog ops Q rest (a.put o.dst (.slice (some ⟨g', 0, none⟩) k cap')) w') : wpList Try.prog ops Q (o :: rest) a w := by
  subst hk
  obtain ⟨i0, hi, hz0, hz1, hz2⟩ := info_parts hinf
  obtain ⟨v', w', hrun, r1, r2, _⟩ := run_append_own (P := Try.prog) w base T o.type E i0 z c by' ht hi hz0 hz1 hz2 hzc hc0 (.slice sa n cap) n vs hown ad m cc news hl hnews h1 (by unfold maxLen; omega) hbd hbase
  have hk : Kept (At sa) w w' := (Kept.refl (At sa) w).grown r2 (fun k e hk => by
    cases sa with
    | none => cases e
    | some ad' => simp only [Value.ownBlock, Option.some.injEq] at e; exact ⟨ad', rfl, e⟩)
  rcases r1.2 with ⟨e, h0⟩ | ⟨g, cap', cur, e, _⟩
  · omega
  · subst e
    refine wp_runTo hg _ w' ?_ (h g cap' w' r1 hk)
    simp [execOp, ho, resolve, invoke, builtin, hs, hx, hrun, Result.andThen]

/-- The unlike ones of a row, in their order. -/
def uq (l : List Int) : List Int := l.foldl (fun acc n => if n ∈ acc then acc else acc ++ [n]) []
theorem take_snoc {l : List Int} {k : Nat} (h : k < l.length) : l.take (k + 1) = l.take k ++ [l[k]?.getD 0] := by
  rw [List.take_succ_eq_append_getElem h, List.getElem?_eq_getElem h]; rfl
theorem uq_snoc (l : List Int) (n : Int) : uq (l ++ [n]) = if n ∈ uq l then uq l else uq l ++ [n] := by
  unfold uq; rw [List.foldl_append]; rfl
theorem uq_gen (l : List Int) : ∀ acc : List Int, (l.foldl (fun acc n => if n ∈ acc then acc else acc ++ [n]) acc).length ≤ acc.length + l.length ∧ (acc.Nodup → (l.foldl (fun acc n => if n ∈ acc then acc else acc ++ [n]) acc).Nodup) := by
  induction l with
  | nil => intro acc; simp
  | cons n l ih =>
    intro acc
    rw [List.foldl_cons]
    by_cases h : n ∈ acc
    · rw [if_pos h]
      have := ih acc
      exact ⟨by simp; omega, this.2⟩
    · rw [if_neg h]
      have := ih (acc ++ [n])
      refine ⟨by simp at this ⊢; omega, fun hn => this.2 ?_⟩
      rw [List.nodup_append]
      exact ⟨hn, by simp, fun a ha b hb => by simp at hb; subst hb; exact fun e => h (e ▸ ha)⟩
theorem uq_len (l : List Int) : (uq l).length ≤ l.length := by have := (uq_gen l []).1; simpa [uq] using this
theorem uq_nodup (l : List Int) : (uq l).Nodup := (uq_gen l []).2 (by simp)
def tNew (l : List Int) (need : Int) : TS := ⟨uq l, need, fun _ => none⟩
theorem cnt_new (l : List Int) (need : Int) : cnt (tNew l need) = 0 := by unfold cnt tNew; simp

def NewOut (w : World) (zs : List Int) (need : Int) (e : Ending) (w' : World) : Prop :=
  ∃ a cap, e = .returned (.pointer (some ⟨w.heap.size + 1, 0, none⟩)) ∧ Tal w' (w.heap.size + 1) w.heap.size a cap (tNew zs need) ∧ (∀ k, At a k → w.heap.size ≤ k) ∧ Kept No w w'

theorem tmap_new {l : List Int} {need n : Int} (h : n ∉ uq l) : updG (tmap (tNew l need)) n (some (ansV none)) = tmap (tNew (l ++ [n]) need) := by
  funext m
  unfold updG tmap tNew
  simp only [uq_snoc, if_neg h]
  by_cases e : m = n
  · subst e; simp
  · simp [e]

set_option maxHeartbeats 2000000 in
theorem new_any (a0 : Option Addr) (n0 cap0 : Nat) (zs : List Int) (need : Int) (w : World) (hz : zs.length = n0) (hn : n0 ≤ 17592186043904) (hb : Nums .i64 w a0 zs) :
    Calls Try.prog 17 #[.slice a0 n0 cap0, .int .i64 need] w (NewOut w zs need) := by
  have HB : Hid (Nums .i64 w a0 zs) := hb
  have HZ : Hid (zs.length = n0) := hz
  clear hb hz
  have hmm := @run_makeMap Try.prog
  have HS0 : Hid (Tal ((w.alloc (.map #[] 0)).alloc (.cells #[.slice none 0 0, .int .i64 need, .int .i64 0, .map (some w.heap.size)] 91)) (w.heap.size + 1) w.heap.size none 0 (tNew [] need)) := by
    refine ⟨?_, ?_, Own.nil _ _ _ _, by simp [tNew, uq], by simp [tNew, uq]⟩
    · have := Box.new (w.alloc (.map #[] 0)) 91 #[.slice none 0 0, .int .i64 need, .int .i64 0, .map (some w.heap.size)]
      have e : (w.alloc (.map #[] 0)).heap.size = w.heap.size + 1 := by simp
      rw [e] at this
      exact this
    · have e : tmap (tNew [] need) = fun _ => none := by funext n; simp [tmap, tNew, uq]
      rw [e]
      exact (MapIs.new w).kept ((Kept.refl No _).alloc _) (fun e => e)
  have HK0 : Hid (Kept No w ((w.alloc (.map #[] 0)).alloc (.cells #[.slice none 0 0, .int .i64 need, .int .i64 0, .map (some w.heap.size)] 91))) := ((Kept.refl No w).alloc _).alloc _
  go_enter Try.func17, Try.ntmps17
  go_wp2
  obtain ⟨w0, hw0⟩ : ∃ w0, w0 = (w.alloc (.map #[] 0)).alloc (.cells #[.slice none 0 0, .int .i64 need, .int .i64 0, .map (some w.heap.size)] 91) := ⟨_, rfl⟩
  rw [← hw0] at HS0 HK0
  try rw [← hw0]
  go_loopw [16] (fun vi wr => ∃ k : Nat, vi = .int .i64 k ∧ k ≤ n0 ∧ Hid (∃ a cap, Tal wr (w.heap.size + 1) w.heap.size a cap (tNew (zs.take k) need) ∧ Own 3 1 wr w.heap.size a cap (uq (zs.take k)).length ((uq (zs.take k)).map (Value.int .i64)) ∧ Kept No w wr)) (fun i _ => n0 - (intOf i).toNat)
  case atStart => exact ⟨0, by go_num, by omega, ⟨none, 0, by rw [List.take_zero]; exact HS0.out, by rw [List.take_zero]; exact Own.nil _ _ _ _, HK0.out⟩⟩
  case round =>
    obtain ⟨k, rfl, hk, HI⟩ := hrel
    clear HS0 HK0 hw0
    obtain ⟨a, cap, hT, hfr, hK⟩ := HI.out
    have HT : Hid (Tal wr (w.heap.size + 1) w.heap.size a cap (tNew (zs.take k) need)) := hT
    have HOw : Hid (Own 3 1 wr w.heap.size a cap (uq (zs.take k)).length ((uq (zs.take k)).map (Value.int .i64))) := hfr
    have HF : Hid (∀ q, At a q → w.heap.size ≤ q) := fun q hq => hfr.base hq
    have HK : Hid (Kept No w wr) := hK
    clear hT hfr hK HI
    by_cases hlt : k < n0
    · have hlt' : (k : Int) < (n0 : Int) := by omega
      obtain ⟨bb, off, rfl, hcell⟩ := (HB.out.no HK.out) k (by rw [HZ.out]; exact hlt)
      have HTk : Hid (zs.take (k + 1) = zs.take k ++ [zs[k]?.getD 0]) := take_snoc (by rw [HZ.out]; exact hlt)
      generalize zs[k]?.getD 0 = z at hcell HTk
      obtain ⟨c0, c1, c2, c3⟩ := HT.out.cells
      clear c0 c1 c2
      by_cases hm : z ∈ uq (zs.take k)
      · have HL : Hid _ := look_none (x := tNew (zs.take k) need) (s := z) hm rfl
        have HU : Hid (tNew (zs.take (k + 1)) need = tNew (zs.take k) need) := by show _ = _; rw [HTk.out]; unfold tNew; rw [uq_snoc, if_pos hm]
        clear hm HTk
        go_wp2_with (refine wp_lookupV rfl _ _ 89 93 true rfl w.heap.size z rfl rfl HT.out.map Try.und89 (Try.zero93 _) _ HL.out ?_)
        go_roundw
        case rel => exact ⟨k + 1, by go_num, by omega, ⟨a, cap, by rw [HU.out]; exact HT.out.no ((Kept.refl No wr).alloc _), by rw [show uq (zs.take (k + 1)) = uq (zs.take k) from congrArg TS.g HU.out]; exact HOw.out.no ((Kept.refl No wr).alloc _), HK.out.alloc _⟩⟩
        case measure => simp [intOf]; omega
      · have HL : Hid _ := look_no (x := tNew (zs.take k) need) (s := z) hm
        have HU : Hid (uq (zs.take (k + 1)) = uq (zs.take k) ++ [z]) := by show _ = _; rw [HTk.out, uq_snoc, if_neg hm]
        have HM : Hid (updG (tmap (tNew (zs.take k) need)) z (some (ansV none)) = tmap (tNew (zs.take (k + 1)) need)) := by show _ = _; rw [HTk.out]; exact tmap_new hm
        have HLn : Hid ((uq (zs.take k)).length ≤ k) := by have := uq_len (zs.take k); rw [List.length_take, HZ.out] at this; show _ ≤ _; omega
        have HLn2 : Hid ((uq (zs.take (k + 1))).length ≤ 17592186043904) := by have := uq_len (zs.take (k + 1)); rw [List.length_take, HZ.out] at this; show _ ≤ _; omega
        clear hm HTk
        obtain ⟨w1, hw1⟩ : ∃ w1, w1 = wr.alloc (.cells #[.bool false, .int .i64 0] 93) := ⟨_, rfl⟩
        have HK1 : Hid (Kept No w w1) := by rw [hw1]; exact HK.out.alloc _
        have HT1 : Hid (Tal w1 (w.heap.size + 1) w.heap.size a cap (tNew (zs.take k) need)) := by rw [hw1]; exact HT.out.no ((Kept.refl No wr).alloc _)
        have d3 := HT1.out.cells.2.2.2
        rw [hw1] at d3
        have HN0 : Hid (cnt (tNew (zs.take k) need) = 0 ∧ cnt (tNew (zs.take (k + 1)) need) = 0) := ⟨cnt_new _ _, cnt_new _ _⟩
        go_wp2_with (first
          | (refine wp_lookupV rfl _ _ 89 93 true rfl w.heap.size z rfl rfl HT.out.map Try.und89 (Try.zero93 _) _ HL.out ?_)
          | (refine wp_updateV rfl _ _ _ 89 93 rfl w.heap.size z (ansV none) rfl rfl rfl (by rw [← hw1]; exact HT1.out.map) Try.und89 ?_
             rw [← hw1]
             intro w3 HM3 HK3 hs3
             have HB3 : Hid (Box w3 (w.heap.size + 1) 91 (talC a cap w.heap.size (tNew (zs.take k) need))) := HT1.out.box.kept HK3.out (fun e => HT1.out.ne e)
             have HR3 : Hid (Own 3 1 w3 w.heap.size a cap (uq (zs.take k)).length ((uq (zs.take k)).map (Value.int .i64))) := (show Own 3 1 w1 w.heap.size a cap _ _ by rw [hw1]; exact HOw.out.no ((Kept.refl No wr).alloc _)).kept HK3.out (fun q hq e => (HT1.out.off hq).2 e)
             have e0 := HB3.out.cell 0
             simp only [talC, List.getElem?_toArray, List.getElem?_cons_zero, List.getElem?_cons_succ, tNew] at e0
             have HK3' : Hid (Kept No w w3) := HK1.out.trans HK3.out (fun _ e => e) (fun i hi e => by have : i = w.heap.size := e; omega)
             have hsz : Hid (w.heap.size + 1 < w3.heap.size) := HB3.out.lt
             clear d3 c3 hw1 hs3 HK3)
          | (at_builtin
             refine wp_appV rfl _ _ 22 3 1 8 (.int .i64 0) Try.und22 Try.info3' rfl (by omega) rfl w.heap.size _ cap a _ rfl (HR3.out.no ((Kept.refl No w3).alloc _)) ⟨w3.heap.size, 0, none⟩ 1 1 [.int .i64 z] rfl rfl (cell_new1 _ _ _) (by simp [Value.oneCell']) (by have := HLn.out; omega) (by have := HLn.out; omega) (by omega) (by have := hsz.out; simp; omega) (uq (zs.take (k + 1))).length (by rw [HU.out]; simp) ?_
             intro g' cap' w4 HO4 HK4
             have HK34 : Hid (Kept (At a) w3 w4) := (((Kept.refl No w3).alloc (.cells #[.int .i64 z] 3)).of_no : Kept (At a) w3 _).then HK4.out
             have HB4 : Hid (Box w4 (w.heap.size + 1) 91 (talC a cap w.heap.size (tNew (zs.take k) need))) := HB3.out.kept HK34.out (fun e => (HT1.out.off e).1 rfl)
             have HM4 : Hid (MapIs w4 w.heap.size (tmap (tNew (zs.take (k + 1)) need))) := by
               have := HM3.out
               rw [HM.out] at this
               exact this.kept HK34.out (fun e => (HT1.out.off e).2 rfl)
             have HKw : Hid (Kept No w w4) := HK3'.out.trans HK34.out (fun _ e => e) (fun i hi e => by have := HF.out i e; omega)
             have HO5 : Hid (Own 3 1 w4 w.heap.size (some ⟨g', 0, none⟩) cap' (uq (zs.take (k + 1))).length ((uq (zs.take (k + 1))).map (Value.int .i64))) := by
               have := HO4.out
               show Own _ _ _ _ _ _ _ _
               rw [HU.out, List.map_append] at *
               exact this
             have e0' := HB4.out.cell 0
             have f0 := HB4.out.frozen 0
             simp only [talC, List.getElem?_toArray, List.getElem?_cons_zero, List.getElem?_cons_succ, tNew] at e0'
             have hgt : g' ≠ w.heap.size + 1 := fun e => by
               rcases HO5.out.cases (by simp) with ⟨e, _⟩ | ⟨g, e, _, _, sp, hgb, _⟩
               · cases e
               · cases e
                 have hb4 := HB4.out
                 unfold Box at hb4
                 rw [e, hb4] at hgb
                 simp at hgb
             have HGT : Hid (g' ≠ w.heap.size + 1) := hgt
             clear e0 HK4 HK34 HM3 HB3 HR3 HK3' HO4 hgt))
        go_roundw
        case rel =>
          have hks : Kept (Only (w.heap.size + 1)) w4 (w4.setCell ⟨w.heap.size + 1, 0, none⟩ (.slice (some ⟨g', 0, none⟩) (uq (zs.take (k + 1))).length cap')) := (Kept.refl (Only (w.heap.size + 1)) w4).setCell (p := ⟨w.heap.size + 1, 0, none⟩) (fun _ => rfl) _
          have hoff : ∀ q, At (some ⟨g', 0, none⟩) q → ¬ Only (w.heap.size + 1) q := fun q hq e => by
            obtain ⟨ad, e1, rfl⟩ := hq
            cases e1
            exact HGT.out e
          refine ⟨k + 1, by go_num, by omega, ⟨some ⟨g', 0, none⟩, cap', ⟨?_, ?_, ?_, uq_nodup _, HLn2.out⟩, HO5.out.kept hks hoff, HKw.out.setCell (p := ⟨w.heap.size + 1, 0, none⟩) (fun h => by have : w.heap.size + 1 < w.heap.size := h; omega) _⟩⟩
          · have := HB4.out.set 0 (.slice (some ⟨g', 0, none⟩) (uq (zs.take (k + 1))).length cap')
            unfold talC at this ⊢
            rw [HN0.out.1] at this
            rw [HN0.out.2]
            exact this
          · exact HM4.out.kept hks (fun e => by have : w.heap.size = w.heap.size + 1 := e; omega)
          · exact Own.lower (HO5.out.kept hks hoff) (Nat.zero_le _)
        case measure => simp [intOf]; omega
    · have hlt' : ¬ (k : Int) < (n0 : Int) := by omega
      obtain rfl : k = n0 := by omega
      go_wp2
      go_ret
      exact ⟨a, cap, rfl, by have := HT.out; rw [List.take_of_length_le (by rw [HZ.out]; omega)] at this; exact this, HF.out, HK.out⟩

end Go.Proofs.Ytmhjbkpojndhkab
