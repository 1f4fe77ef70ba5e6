import Derived.Maps.AppendAt
import Derived.Test.YtmhjbkpojndhkabTf
namespace Go.Proofs.Ytmhjbkpojndhkab
open Go.RowKit Go.Shelf
set_option linter.unusedVariables false
set_option linter.unusedSimpArgs false

attribute [local go_sem] Oper.semAt_some

theorem wpIn_appV {F : Fence} {nf : Nat} {ops : Array Oper} {rest : List Oper} {o : Oper} {a : Act} {w : World} {Q : Exit → Act → World → Prop} (hg : o.guard = none) (s x : Operand) (T E : TypeId) (c by' : Nat) (z : Value) (ht : Try.prog.underlying T = some (.slice E))
    (hinf : (Try.prog.info? E).map (fun i => (i.zero, i.size, i.bytes)) = some (some z, c, by')) (hzc : z.cells.size = c) (hc0 : 0 < c) (ho : o.op = .call { callee := Callee.builtin Builtin.append, args := #[s, x], argTypes := #[T, T] })
    (base n cap : Nat) (sa : Option Addr) (vs : List Value) (hs : a.eval s = .slice sa n cap) (hown : Own E c w base sa cap n vs) (ad : Addr) (m cc : Nat) (news : List Value) (hx : a.eval x = .slice (some ad) m cc) (hl : news.length = m * c) (hnews : ∀ j u, news[j]? = some u → w.cell? (ad.add j) = some u) (h1 : ∀ u ∈ news, u.oneCell' = true) (hbd : (n + m) * by' ≤ 140737488355328) (hb63 : n + m ≤ 9223372036854775807) (hm : 0 < m) (hbase : base ≤ w.heap.size) (k : Nat) (hk : n + m = k)
    (h : ∀ g' cap' w', Hid (Own E c w' base (some ⟨g', 0, none⟩) cap' k (vs ++ news)) → Hid (Kept (At sa) w w') → Hid (KeepsOthers w w') → Hid (At sa g' ∨ g' = w.heap.size) → wpListIn F nf Try.prog ops Q rest (a.put o.dst (.slice (some ⟨g', 0, none⟩) k cap')) w') : wpListIn F nf Try.prog ops Q (o :: rest) a w := by
  subst hk
  obtain ⟨i0, hi, hz0, hz1, hz2⟩ := info_parts hinf
  obtain ⟨v', w', hrun, r1, r2, _, r4⟩ := run_append_own_at (P := Try.prog) (w := w) base T o.type E i0 z c by' ht hi hz0 hz1 hz2 hzc hc0 (.slice sa n cap) n vs hown ad m cc news hl hnews h1 (by unfold maxLen; omega) hbd hbase
  have hk : Kept (At sa) w w' := (Kept.refl (At sa) w).grown r2 (fun k e hk => by
    cases sa with
    | none => cases e
    | some ad' => simp only [Value.ownBlock, Option.some.injEq] at e; exact ⟨ad', rfl, e⟩)
  have hko : KeepsOthers w w' := KeepsOthers.of_grownBy r2 fun j o ej hj => by
    rcases hown.2 with ⟨e, _⟩ | ⟨g, cap, cur, e, _, hgb, _⟩
    · rw [e] at ej; simp [Value.ownBlock] at ej
    · rw [e] at ej
      obtain rfl : g = j := by simpa [Value.ownBlock] using ej
      rw [hgb] at hj; cases hj; rfl
  rcases r1.2 with ⟨e, h0⟩ | ⟨g, cap', cur, e, _⟩
  · omega
  · subst e
    have h4 : At sa g ∨ g = w.heap.size := by
      rcases r4 with e | e
      · left
        cases sa with
        | none => simp [Value.ownBlock] at e
        | some ad' => simp only [Value.ownBlock, Option.some.injEq] at e; exact ⟨ad', rfl, e.symm⟩
      · right; simpa [Value.ownBlock] using e
    refine wpListIn_plain hg fun K hK' => ?_
    unfold Oper.wpIn
    refine ⟨?_, ?_⟩
    · simp [Oper.about, ho, resolve, Target.leads, Sem.run_pure]
    · rw [Oper.semAt_plain F _ _ (by rw [ho]; intro c hc'; cases hc')]
      simp [execOp, ho, resolve, invoke, builtin, hs, hx, hrun, Result.andThen]
      exact hK' _ _ (h g cap' w' r1 hk hko h4)

theorem ownFrom_kept {β : Type} {B : Nat} {w : World} (hB : w.heap.size ≤ B) : OwnFrom B (fun (_ : β) W => Kept No w W) :=
  fun _ _ _ row hs hg hr => hs.grown hg (fun k e hk => by have := (hr k e).1; omega)

/-- Two boxes that hold rows of numbers, each with a row of its own. -/
def Two (n₀ ba bb : Nat) (xs ys : List Int) (W : World) : Prop :=
  ∃ a1 c1 a2 c2, (Box W ba 22 #[.slice a1 xs.length c1] ∧ Own 3 1 W n₀ a1 c1 xs.length (xs.map (Value.int .i64))) ∧ (Box W bb 22 #[.slice a2 ys.length c2] ∧ Own 3 1 W n₀ a2 c2 ys.length (ys.map (Value.int .i64))) ∧ ∀ k, At a1 k → ¬ At a2 k

theorem box_row {W : World} {b t e c n₀ n cap : Nat} {cs : Array Value} {a : Option Addr} {vs : List Value} (hb : Box W b t cs) (hte : t ≠ e) (ho : Own e c W n₀ a cap n vs) {k : Nat} (hk : At a k) : k ≠ b := by
  rintro rfl
  obtain ⟨ad, rfl, rfl⟩ := hk
  rcases ho.2 with ⟨e', _⟩ | ⟨g, cap', cur, e', _, hgb, _⟩
  · cases e'
  · cases e'
    unfold Box at hb
    rw [hb] at hgb
    simp at hgb
    exact hte hgb.2

theorem own_cells {W W' : World} {row : Option Nat} {e c n₀ n cap : Nat} {a : Option Addr} {vs : List Value} (ho : Own e c W n₀ a cap n vs) (hg : W.grownBy W' row) (hr : ∀ r, row = some r → ∃ o : Obj, W.heap[r]? = some o ∧ o.isCells = false) : Own e c W' n₀ a cap n vs := by
  refine ho.kept (S := fun k => row = some k) ⟨hg.os, hg.tape, hg.output, hg.size, fun k hk hS => hg.block k hk (fun e => hS e.symm)⟩ (fun k hk e => ?_)
  obtain ⟨o, ho', hc⟩ := hr k e
  obtain ⟨ad, rfl, rfl⟩ := hk
  rcases ho.2 with ⟨e', _⟩ | ⟨g, cap', cur, e', _, hgb, _⟩
  · cases e'
  · cases e'
    rw [hgb] at ho'; cases ho'; cases hc
theorem box_cells {W W' : World} {row : Option Nat} {b t : Nat} {cs : Array Value} (hb : Box W b t cs) (hg : W.grownBy W' row) (hr : ∀ r, row = some r → ∃ o : Obj, W.heap[r]? = some o ∧ o.isCells = false) : Box W' b t cs :=
  (hg.block b hb.lt (fun e => by
    obtain ⟨o, ho', hc⟩ := hr b e.symm
    unfold Box at hb
    rw [hb] at ho'; cases ho'; cases hc)).trans hb

theorem two_own {β : Type} (n₀ ba bb : Nat) (xs ys : β → List Int) : Go.Own (fun (s : β) W => Two n₀ ba bb (xs s) (ys s) W) := by
  rintro s A B row ⟨a1, c1, a2, c2, ⟨h1, h2⟩, ⟨h3, h4⟩, h5⟩ hg hr
  exact ⟨a1, c1, a2, c2, ⟨box_cells h1 hg hr, own_cells h2 hg hr⟩, ⟨box_cells h3 hg hr, own_cells h4 hg hr⟩, h5⟩

def GotsOut (w : World) (l : List (Int × Int)) (e : Ending) (w' : World) : Prop :=
  ∃ a1 c1 a2 c2, e = .returned (.tuple #[.slice a1 l.length c1, .slice a2 l.length c2, .bool true]) ∧ Own 3 1 w' w.heap.size a1 c1 l.length ((l.map Prod.fst).map (Value.int .i64)) ∧ Own 3 1 w' w.heap.size a2 c2 l.length ((l.map Prod.snd).map (Value.int .i64)) ∧ Kept No w w' ∧ ∀ k, At a1 k → ¬ At a2 k

theorem fn_nil (b : Array Value) (w : World) : Sem.run Try.prog (binOp .eql 99 (.func (.func 33) #[] b) .nilFunc) w = .ok (.bool false) w := by kernel_rfl

theorem fst_app (l : List (Int × Int)) (x : Int × Int) : ((l ++ [x]).map Prod.fst) = l.map Prod.fst ++ [x.1] := by simp
theorem snd_app (l : List (Int × Int)) (x : Int × Int) : ((l ++ [x]).map Prod.snd) = l.map Prod.snd ++ [x.2] := by simp

/-- A row grown by one in its box: what is so behind it. -/
theorem two_one {n₀ ba bb : Nat} {xs ys : List Int} {W w1 : World} {a1 a2 : Option Addr} {c1 c2 g' cap' n : Nat} {z : Int} {tmp : Obj} (hbb : Box W bb 22 #[.slice a2 ys.length c2]) (ho2 : Own 3 1 W n₀ a2 c2 ys.length (ys.map (Value.int .i64)))
    (hba : Box W ba 22 #[.slice a1 xs.length c1]) (ho1 : Own 3 1 W n₀ a1 c1 xs.length (xs.map (Value.int .i64))) (hd : ∀ k, At a1 k → ¬ At a2 k) (hne : ba ≠ bb) (hn : n = xs.length + 1)
    (hO : Own 3 1 w1 n₀ (some ⟨g', 0, none⟩) cap' n (xs.map (Value.int .i64) ++ [.int .i64 z])) (hK : Kept (At a1) (W.alloc tmp) w1) (hat : At a1 g' ∨ g' = (W.alloc tmp).heap.size) :
    Box w1 ba 22 #[.slice a1 xs.length c1] ∧ (Box (w1.setCell ⟨ba, 0, none⟩ (.slice (some ⟨g', 0, none⟩) n cap')) ba 22 #[.slice (some ⟨g', 0, none⟩) (xs ++ [z]).length cap'] ∧ Own 3 1 (w1.setCell ⟨ba, 0, none⟩ (.slice (some ⟨g', 0, none⟩) n cap')) n₀ (some ⟨g', 0, none⟩) cap' (xs ++ [z]).length ((xs ++ [z]).map (Value.int .i64))) ∧
    (Box (w1.setCell ⟨ba, 0, none⟩ (.slice (some ⟨g', 0, none⟩) n cap')) bb 22 #[.slice a2 ys.length c2] ∧ Own 3 1 (w1.setCell ⟨ba, 0, none⟩ (.slice (some ⟨g', 0, none⟩) n cap')) n₀ a2 c2 ys.length (ys.map (Value.int .i64))) ∧ ∀ k, At (some ⟨g', 0, none⟩) k → ¬ At a2 k := by
  subst hn
  have e1 : (xs ++ [z]).length = xs.length + 1 := by simp
  have e2 : (xs ++ [z]).map (Value.int .i64) = xs.map (Value.int .i64) ++ [.int .i64 z] := by simp
  rw [e1, e2]
  have hK0 : Kept No W (W.alloc tmp) := (Kept.refl No W).alloc tmp
  have b1 : Box w1 ba 22 #[.slice a1 xs.length c1] := (hba.alloc tmp).kept hK (fun e => box_row hba (by decide) ho1 e rfl)
  have ks : Kept (Only ba) w1 (w1.setCell ⟨ba, 0, none⟩ (.slice (some ⟨g', 0, none⟩) (xs.length + 1) cap')) := (Kept.refl (Only ba) w1).setCell (p := ⟨ba, 0, none⟩) (fun _ => rfl) _
  have b2 : Box w1 bb 22 #[.slice a2 ys.length c2] := (hbb.alloc tmp).kept hK (fun e => box_row hbb (by decide) ho1 e rfl)
  have o2 : Own 3 1 w1 n₀ a2 c2 ys.length (ys.map (Value.int .i64)) := (ho2.no hK0).kept hK (fun k e f => hd k f e)
  refine ⟨b1, ⟨b1.set 0 _, hO.kept ks (fun k hk e => ?_)⟩, ⟨b2.kept ks (fun e => hne e.symm), o2.kept ks (fun k hk e => ?_)⟩, ?_⟩
  · have e : k = ba := e
    exact box_row b1 (by decide) hO hk e
  · have e : k = ba := e
    exact box_row b1 (by decide) o2 hk e
  · rintro k ⟨ad, e, rfl⟩ hk
    cases e
    rcases hat with h | h
    · exact hd _ h hk
    · have hlt : g' < W.heap.size := by
        rcases ho2.cases (by simp) with ⟨rfl, _⟩ | ⟨g, rfl, _, hl, _⟩
        · exact absurd hk At.none
        · obtain ⟨ad, e, e2⟩ := hk
          cases e
          have e2 : g = g' := e2
          omega
      simp at h
      omega

set_option maxRecDepth 100000 in
set_option maxHeartbeats 4000000 in
theorem got_any (t b cap : Nat) (a : Option Addr) (x : TS) (w : World) (h : Tal w t b a cap x) (hc : cnt x ≤ 8796093022208) :
    Calls Try.prog 24 #[.pointer (some ⟨t, 0, none⟩)] w (GotsOut w (gotL x)) := by
  have HT : Hid (Tal w t b a cap x) := h
  have HC : Hid (cnt x ≤ 8796093022208) := hc
  have hL : (gotL x).length ≤ 8796093022208 := by rw [gotL_len]; exact hc
  have HG : Hid (Calls Try.prog 32 #[.pointer (some ⟨t, 0, none⟩)] w (GotOut w (gotL x))) := gotten_any t b cap a x w h hc
  generalize gotL x = ps at hL HG ⊢
  have HL : Hid (ps.length ≤ 8796093022208) := hL
  clear h hc hL
  have hfn := fn_nil
  refine (callsIn_wide (n := 3)).1 ?_
  refine callsIn_of_wp_marks Try.func24 rfl trivial ?_ rfl
  simp only [Try.ntmps24, List.size_toArray, List.length_cons, List.length_nil, Nat.reduceAdd, Nat.reduceSub, Array.replicate_succ, Array.replicate_zero, List.push_toArray, List.append_toArray, List.nil_append, List.cons_append]
  gi_wp2_with (refine ⟨trivial, ?_⟩
               gi_at_call 32
               refine (callsIn_wide.2 HG.out).mono ?_
               rintro e w2 ⟨sa, sc, rfl, hb2, ho2, hk2⟩
               have HB2 : Hid (Box w2 w.heap.size 101 #[.slice sa ps.length sc]) := hb2
               have HO2 : Hid (Own 103 2 w2 w.heap.size sa sc ps.length (prs ps)) := ho2
               have HK2 : Hid (Kept No w w2) := hk2
               clear hb2 ho2 hk2)
  obtain ⟨w3, hw3⟩ : ∃ w3, w3 = (w2.alloc (.cells #[.slice none 0 0] 22)).alloc (.cells #[.slice none 0 0] 22) := ⟨_, rfl⟩
  rw [← hw3]
  have HK23 : Hid (Kept No w2 w3) := by rw [hw3]; exact ((Kept.refl No w2).alloc _).alloc _
  have hs3 : w3.heap.size = w2.heap.size + 1 + 1 := by rw [hw3]; simp
  have HBa : Hid (Box w3 w2.heap.size 22 #[.slice none 0 0]) := by rw [hw3]; exact (Box.new _ _ _).alloc _
  have HBb : Hid (Box w3 (w2.heap.size + 1) 22 #[.slice none 0 0]) := by
    have h1 : (w2.alloc (.cells #[.slice none 0 0] 22)).heap.size = w2.heap.size + 1 := by simp
    rw [hw3, ← h1]; exact Box.new _ _ _
  have HSq : Hid (SeqAt w3 w.heap.size sa sc ps) := ⟨HB2.out.kept HK23.out (fun e => e), Own.lower (HO2.out.no HK23.out) (Nat.zero_le _)⟩
  have HLt : Hid (∀ k, SB w.heap.size sa k → k < w2.heap.size) := fun k hk => by
    have hS2 : SeqAt w2 w.heap.size sa sc ps := ⟨HB2.out, Own.lower HO2.out (Nat.zero_le _)⟩
    exact hS2.lt hk
  have HK3 : Hid (Kept No w w3) := HK2.out.then HK23.out
  have h2s : Hid (w.heap.size < w2.heap.size) := HB2.out.lt
  clear hw3 HB2 HO2 HK23 HT HC HG
  obtain ⟨m, hm⟩ : ∃ m, m = ps.length := ⟨_, rfl⟩
  have HM : Hid (ps.length = m) := hm.symm
  rw [← hm] at HL
  clear hm
  generalize w2.heap.size = ba at hs3 HBa HBb HLt h2s ⊢
  have hm' := HL.out
  refine' wpIn_rangeFunc_ownG (F := Fence.wide) rfl (by omega) (gf := 33) (lb := #[.pointer (some ⟨w.heap.size, 0, none⟩)]) rfl trivial (enters_of Try.func33 (by kernel_rfl) rfl)
    (seq_stops Fence.wide (3 - 1) trivial rfl (by omega) w.heap.size sc m sa ps hm' HM.out w3 HSq.out) nb_t (nb_b HSq.out (Nat.le_refl _)) (Below.refl _ _) (fun _ => rfl)
    (fun pre W => Two ba ba (ba + 1) (pre.map Prod.fst) (pre.map Prod.snd) W ∧ Kept No w W)
    (fun _ _ _ => False)
    (OwnFrom.and (Go.Own.from (two_own ba ba (ba + 1) (fun pre : List (Int × Int) => pre.map Prod.fst) (fun pre => pre.map Prod.snd)) _) (ownFrom_kept (by have := h2s.out; omega)))
    (fun _ _ _ _ _ hs _ _ => hs)
    ⟨⟨none, 0, none, 0, ⟨HBa.out, Own.nil _ _ _ _⟩, ⟨HBb.out, Own.nil _ _ _ _⟩, fun k h => absurd h At.none⟩, HK3.out⟩
    _ ?assign ?body ?done ?stop
  case assign =>
    intro l x W K hK
    gi_wp2
    exact hK
  case body =>
    rintro l pre ⟨x1, x2⟩ W ⟨⟨a1, c1, a2, c2, ⟨hb1, ho1⟩, ⟨hb2, ho2⟩, hd⟩, hk⟩ hlen
    have hlW : ba + 1 < W.heap.size := hb2.lt
    have HA : Hid ((pre.map Prod.fst).length = pre.length ∧ (pre.map Prod.snd).length = pre.length) := ⟨by simp, by simp⟩
    have HF : Hid ((pre ++ [(x1, x2)]).map Prod.fst = pre.map Prod.fst ++ [x1] ∧ (pre ++ [(x1, x2)]).map Prod.snd = pre.map Prod.snd ++ [x2]) := ⟨fst_app _ _, snd_app _ _⟩
    have hp : pre.length < 8796093022208 := by omega
    rw [← HA.out.1] at hp
    have HP : Hid ((pre.map Prod.fst).length < 8796093022208 ∧ (pre.map Prod.snd).length < 8796093022208) := by rw [HA.out.2, ← HA.out.1]; exact ⟨hp, hp⟩
    clear hp hlen
    generalize pre.map Prod.fst = xs at hb1 ho1 HA HF HP
    generalize pre.map Prod.snd = ys at hb2 ho2 HA HF HP
    simp only
    have H1 : Hid (Box W ba 22 #[.slice a1 xs.length c1]) := hb1
    have O1 : Hid (Own 3 1 W ba a1 c1 xs.length (xs.map (Value.int .i64))) := ho1
    have H2 : Hid (Box W (ba + 1) 22 #[.slice a2 ys.length c2]) := hb2
    have O2 : Hid (Own 3 1 W ba a2 c2 ys.length (ys.map (Value.int .i64))) := ho2
    have HD : Hid (∀ k, At a1 k → ¬ At a2 k) := hd
    have HKW : Hid (Kept No w W) := hk
    have HlW : Hid (ba + 1 < W.heap.size) := hlW
    have e1 := hb1.cell 0
    simp only [List.getElem?_toArray, List.getElem?_cons_zero] at e1
    clear hb1 ho1 hb2 ho2 hd hk hlW
    have TA : True := trivial
    have TB : True := trivial
    gi_wp2_with (first
      | (gi_at_builtin
         have htok := TA
         refine wpIn_appV rfl _ _ 22 3 1 8 (.int .i64 0) Try.und22 Try.info3' rfl (by omega) rfl ba _ c1 a1 _ rfl (O1.out.no ((Kept.refl No W).alloc _)) ⟨W.heap.size, 0, none⟩ 1 1 [.int .i64 x1] rfl rfl (cell_new1 _ _ _) (by simp [Value.oneCell']) (by have := HP.out.1; omega) (by have := HP.out.1; omega) (by omega) (by have := HlW.out; simp; omega) (xs.length + 1) rfl ?_
         intro g1 d1 w4 HO4 HK4 HKo4 HAt4
         obtain ⟨q1, q2, q3, q4⟩ := two_one H2.out O2.out H1.out O1.out HD.out (by omega) rfl HO4.out HK4.out HAt4.out
         have f1 := q1.frozen 0
         have e1' := q1.cell 0
         simp only [List.getElem?_toArray, List.getElem?_cons_zero] at e1'
         obtain ⟨W2, hW2⟩ : ∃ W2, W2 = w4.setCell ⟨ba, 0, none⟩ (.slice (some ⟨g1, 0, none⟩) (xs.length + 1) d1) := ⟨_, rfl⟩
         rw [← hW2] at q2 q3
         have HQ2 : Hid (Box W2 ba 22 #[.slice (some ⟨g1, 0, none⟩) (xs ++ [x1]).length d1] ∧ Own 3 1 W2 ba (some ⟨g1, 0, none⟩) d1 (xs ++ [x1]).length ((xs ++ [x1]).map (Value.int .i64))) := q2
         have HQ3 : Hid (Box W2 (ba + 1) 22 #[.slice a2 ys.length c2] ∧ Own 3 1 W2 ba a2 c2 ys.length (ys.map (Value.int .i64))) := q3
         have HQ4 : Hid (∀ k, At (some ⟨g1, 0, none⟩) k → ¬ At a2 k) := q4
         have HKe : Hid (Kept (fun k => ba ≤ k) W W2) := by
           rw [hW2]
           exact ((((Kept.refl No W).alloc (.cells #[.int .i64 x1] 3)).of_no : Kept (fun k => ba ≤ k) W _).trans HK4.out (fun _ e => e) (fun i hi e => O1.out.base e)).setCell (p := ⟨ba, 0, none⟩) (fun _ => Nat.le_refl _) _
         have HKo : Hid (KeepsOthers W W2) := by
           rw [hW2]
           exact ((KeepsOthers.alloc W _).trans HKo4.out).trans (KeepsOthers.setCell _ _ _)
         have e2 := q3.1.cell 0
         simp only [List.getElem?_toArray, List.getElem?_cons_zero] at e2
         rw [hW2] at e2
         clear q1 q2 q3 q4 HO4 HK4 HKo4 HAt4 htok TA)
      | (gi_at_builtin
         have htok := TB
         rw [← hW2]
         refine wpIn_appV rfl _ _ 22 3 1 8 (.int .i64 0) Try.und22 Try.info3' rfl (by omega) rfl ba _ c2 a2 _ rfl (HQ3.out.2.no ((Kept.refl No W2).alloc _)) ⟨w4.heap.size, 0, none⟩ 1 1 [.int .i64 x2] (by first | rfl | (rw [hW2]; rfl)) rfl (by rw [show w4.heap.size = W2.heap.size by rw [hW2]; simp]; exact cell_new1 _ _ _) (by simp [Value.oneCell']) (by have := HP.out.2; omega) (by have := HP.out.2; omega) (by omega) (by have := HQ3.out.1.lt; simp; omega) (ys.length + 1) rfl ?_
         intro g2 d2 w6 HO6 HK6 HKo6 HAt6
         obtain ⟨q1, q2, q3, q4⟩ := two_one HQ2.out.1 HQ2.out.2 HQ3.out.1 HQ3.out.2 (fun k e f => HQ4.out k f e) (by omega) rfl HO6.out HK6.out HAt6.out
         have f2 := q1.frozen 0
         have e2' := q1.cell 0
         simp only [List.getElem?_toArray, List.getElem?_cons_zero] at e2'
         have HR2 : Hid _ := q2
         have HR3 : Hid _ := q3
         have HR4 : Hid _ := q4
         clear q1 q2 q3 q4 e2 HO6 htok TB hW2 e1 e1' f1))
    obtain ⟨W7, hW7⟩ : ∃ W7, W7 = w6.setCell ⟨ba + 1, 0, none⟩ (.slice (some ⟨g2, 0, none⟩) (ys.length + 1) d2) := ⟨_, rfl⟩
    have hke : Kept (fun k => ba ≤ k) W W7 := by
      rw [hW7]
      exact (HKe.out.then ((((Kept.refl No W2).alloc (.cells #[.int .i64 x2] 3)).of_no : Kept (fun k => ba ≤ k) W2 _).trans HK6.out (fun _ e => e) (fun i hi e => HQ3.out.2.base e))).setCell (p := ⟨ba + 1, 0, none⟩) (fun _ => Nat.le_succ _) _
    have hko : KeepsOthers W W7 := by
      rw [hW7]
      exact ((HKo.out.trans (KeepsOthers.alloc W2 _)).trans HKo6.out).trans (KeepsOthers.setCell _ _ _)
    rw [← hW7] at HR2 HR3 ⊢
    have hR3 := HR3.out
    have hR2 := HR2.out
    refine ⟨hko.from _, hke.mono (fun i _ e f => by have := HLt.out i f; omega), ⟨_, _, _, _, (by rw [HF.out.1]; exact hR3), (by rw [HF.out.2]; exact hR2), fun k e f => HR4.out k f e⟩, HKW.out.trans hke (fun _ e => e) (fun i hi e => by have := h2s.out; omega)⟩
  case done =>
    rintro D ys W hD rfl ⟨⟨a1, c1, a2, c2, ⟨hb1, ho1⟩, ⟨hb2, ho2⟩, hd⟩, hk⟩ hK
    have e1 := hb1.cell 0
    have e2 := hb2.cell 0
    simp only [List.getElem?_toArray, List.getElem?_cons_zero, List.length_map] at e1 e2
    have HO1 : Hid _ := ho1
    have HO2 : Hid _ := ho2
    have HD : Hid _ := hd
    have HKW : Hid _ := hk
    have HKD : Hid _ := hK
    clear ho1 ho2 hd hk hK hb1 hb2
    gi_wp2
    first | gi_big_region_o | gi_region
    all_goals gi_wp2
    have hK' := (KeepsOthers.drew W).same D _ HKD.out rfl
    refine ⟨by simp, .inl ⟨_, _, rfl, run_takeDeferred hK', ?_⟩⟩
    have hkn : Kept No W.drew (W.drew.putObj D (.deferred none)) → True := fun _ => trivial
    have hgr := grownBy_putObj' W.drew D (.deferred none)
    have hrw : ∀ r, some D = some r → ∃ o : Obj, W.drew.heap[r]? = some o ∧ o.isCells = false := fun r e => by cases e; exact ⟨_, hK', rfl⟩
    have o1 : Own 3 1 W.drew ba a1 c1 (ys.map Prod.fst).length ((ys.map Prod.fst).map (Value.int .i64)) := Own.no HO1.out ((Kept.refl No W).drew)
    have o2 : Own 3 1 W.drew ba a2 c2 (ys.map Prod.snd).length ((ys.map Prod.snd).map (Value.int .i64)) := Own.no HO2.out ((Kept.refl No W).drew)
    have o1' := own_cells o1 hgr hrw
    have o2' := own_cells o2 hgr hrw
    rw [List.length_map] at o1' o2'
    have h2 := h2s.out
    refine ⟨.tuple #[.slice a1 ys.length c1, .slice a2 ys.length c2, .bool true], ?_, ⟨a1, c1, a2, c2, rfl, Own.lower o1' (by omega), Own.lower o2' (by omega), HKW.out.drew.grown hgr (fun k e hk => by cases e; omega), HD.out⟩⟩
    simp [results, Try.results24, go_sem]
  case stop =>
    rintro D c pre W hD hpre h _
    exact h.elim

end Go.Proofs.Ytmhjbkpojndhkab
