import Derived.Test.YtpapbleabjpbfaaTi
import Derived.Test.YtpapbleabjpbfaaAr
import Derived.Maps.AppendAt
import Derived.Lib.QuietBelow
import Derived.BigRegion
namespace Go.Proofs.Ytpapbleabjpbfaa
open Go.RowKit
set_option linter.unusedVariables false
set_option linter.unusedSimpArgs false

theorem flat3_get (l : List T3) (sp : List Value) (i : Nat) (h : i < l.length) : (flat3 l ++ sp)[i * 3]? = some (.int .i64 l[i].1) ∧ (flat3 l ++ sp)[i * 3 + 1]? = some (.int .i64 l[i].2.1) ∧ (flat3 l ++ sp)[i * 3 + 2]? = some (.int .i64 l[i].2.2) := by
  induction l generalizing i with
  | nil => simp at h
  | cons p r ih =>
    cases i with
    | zero => simp [flat3]
    | succ i =>
      have := ih i (by simpa using h)
      rw [show (i + 1) * 3 = i * 3 + 1 + 1 + 1 by omega, show i * 3 + 1 + 1 + 1 + 1 = (i * 3 + 1) + 1 + 1 + 1 by omega, show i * 3 + 1 + 1 + 1 + 2 = (i * 3 + 2) + 1 + 1 + 1 by omega]
      simpa [flat3] using this
theorem flat3_set (l : List T3) (sp : List Value) (i : Nat) (x : T3) (h : i < l.length) : (((flat3 l ++ sp).set (i * 3) (.int .i64 x.1)).set (i * 3 + 1) (.int .i64 x.2.1)).set (i * 3 + 2) (.int .i64 x.2.2) = flat3 (l.set i x) ++ sp := by
  induction l generalizing i with
  | nil => simp at h
  | cons p r ih =>
    cases i with
    | zero => simp [flat3]
    | succ i =>
      have := ih i (by simpa using h)
      rw [show (i + 1) * 3 = i * 3 + 1 + 1 + 1 by omega, show i * 3 + 1 + 1 + 1 + 1 = (i * 3 + 1) + 1 + 1 + 1 by omega, show i * 3 + 1 + 1 + 1 + 2 = (i * 3 + 2) + 1 + 1 + 1 by omega]
      simpa [flat3] using this

/-- The document's points lie at the front of block g. -/
def Tri (w : World) (g : Nat) (l : List T3) (sp : List Value) : Prop := Box w g 74 (flat3 l ++ sp).toArray
theorem Tri.cell {w : World} {g : Nat} {l : List T3} {sp : List Value} (h : Tri w g l sp) (i : Nat) (hi : i < l.length) {x : T3} (hx : l[i]?.getD (0, 0, 0) = x) :
    w.cell? ⟨g, i * 3, none⟩ = some (.int .i64 x.1) ∧ w.cell? ⟨g, i * 3 + 1, none⟩ = some (.int .i64 x.2.1) ∧ w.cell? ⟨g, i * 3 + 2, none⟩ = some (.int .i64 x.2.2) := by
  have := flat3_get l sp i hi
  rw [List.getElem?_eq_getElem hi, Option.getD_some] at hx
  rw [hx] at this
  rw [Box.cell h, Box.cell h, Box.cell h]
  simpa using this
theorem Tri.frozen {w : World} {g : Nat} {l : List T3} {sp : List Value} (h : Tri w g l sp) (i : Nat) : w.frozen? ⟨g, i, none⟩ = false := Box.frozen h i
theorem Tri.kept {S : Nat → Prop} {w w' : World} {g : Nat} {l : List T3} {sp : List Value} (h : Tri w g l sp) (hk : Kept S w w') (hS : ¬ S g) : Tri w' g l sp := Box.kept h hk hS
theorem Tri.put {w : World} {g : Nat} {l : List T3} {sp : List Value} (h : Tri w g l sp) (i : Nat) (x : T3) (hi : i < l.length) :
    Tri (((w.setCell ⟨g, i * 3, none⟩ (.int .i64 x.1)).setCell ⟨g, i * 3 + 1, none⟩ (.int .i64 x.2.1)).setCell ⟨g, i * 3 + 2, none⟩ (.int .i64 x.2.2)) g (l.set i x) sp := by
  have h3 := ((Box.set h (i * 3) (.int .i64 x.1)).set (i * 3 + 1) (.int .i64 x.2.1)).set (i * 3 + 2) (.int .i64 x.2.2)
  unfold Tri
  rw [← flat3_set l sp i x hi]
  simpa using h3

/-- A row of the call's own that holds something. -/
theorem owns_tri {w : World} {base : Nat} {v : Value} {l : List T3} {m : Nat} (h : w.ownsRow base 74 3 v (m + 1) (flat3 l)) (hl : l.length = m + 1) :
    ∃ g cap sp, v = .slice (some ⟨g, 0, none⟩) (m + 1) cap ∧ base ≤ g ∧ v.ownBlock = some g ∧ Tri w g l sp ∧ (m + 1) * 3 + sp.length = cap * 3 ∧ m + 1 ≤ cap ∧ cap ≤ maxLen := by
  rcases h.2 with ⟨_, h0⟩ | ⟨g, cap, cur, rfl, hb, hg, hle, hm, hs, ht⟩
  · omega
  · refine ⟨g, cap, cur.toList.drop ((m + 1) * 3), rfl, hb, rfl, ?_, ?_, hle, hm⟩
    · show w.heap[g]? = _
      rw [← ht, List.take_append_drop, hg]
    · have : (m + 1) * 3 ≤ cap * 3 := Nat.mul_le_mul_right _ hle
      simp; omega
theorem tri_owns {w : World} {base g cap m : Nat} {l : List T3} {sp : List Value} (hb : base ≤ g) (hp : Tri w g l sp) (hl : l.length = m) (hs : m * 3 + sp.length = cap * 3) (hle : m ≤ cap) (hm : cap ≤ maxLen) :
    w.ownsRow base 74 3 (.slice (some ⟨g, 0, none⟩) m cap) m (flat3 l) :=
  ⟨by rw [flat3_len, hl], .inr ⟨g, cap, _, rfl, hb, hp, hle, hm, by simp [flat3_len, hl]; exact hs, by simp [flat3_len, hl]⟩⟩

/-- An append onto a row of the call's own, within a region that draws; and where the row lies then. -/
theorem step_appP {P : Program} {ops : Array Oper} {o : Oper} {a : Act} {w : World} {K : Act → World → Prop} {Q : Exit → Act → World → Prop} {E : Prop}
    (T e : TypeId) (i : TypeInfo) (z : Value) (size bytes : Nat) (ht : P.underlying T = some (.slice e)) (hi : P.info? e = some i) (hz : i.zero = some z) (hsize : i.size = size) (hby : i.bytes = bytes) (hzs : z.cells.size = size) (hsz : 0 < size)
    (hg : o.guard = Option.none) (s x : Operand) (hop : o.op = Op.call { callee := Callee.builtin Builtin.append, args := #[s, x], argTypes := #[T, T] })
    (base n : Nat) (v : Value) (xs : List Value) (hs : a.eval s = v) (hown : w.ownsRow base e size v n xs)
    (ad : Addr) (m c : Nat) (news : List Value) (hx : a.eval x = .slice (some ad) m c) (hl : news.length = m * size) (hnews : ∀ j u, news[j]? = some u → w.cell? (ad.add j) = some u) (h1 : ∀ u ∈ news, u.oneCell' = true)
    (h63 : n + m ≤ maxLen) (hbytes : (n + m) * bytes ≤ 140737488355328) (hbase : base ≤ w.heap.size)
    (hK : ∀ v' w', Hid (w'.ownsRow base e size v' (n + m) (xs ++ news)) → Hid (w.grownBy w' v.ownBlock) → Hid (v'.ownBlock = v.ownBlock ∨ v'.ownBlock = some w.heap.size) → K (a.put o.dst v') w') :
    if Region.wanted o (yielded ops a.tmps) = true then Oper.wp P o a w K Q else E := by
  have hw : Region.wanted o (yielded ops a.tmps) = true := by simp [Region.wanted, hg]
  rw [if_pos hw]
  obtain ⟨v', w', hrun, r1, r2, _, r4⟩ := run_append_own_at (P := P) w base T o.type e i z size bytes ht hi hz hsize hby hzs hsz v n xs hown ad m c news hl hnews h1 h63 hbytes hbase
  unfold Oper.wp
  simp [execOp, hop, resolve, invoke, builtin, hs, hx, hrun, Result.andThen]
  exact hK v' w' r1 r2 r4

theorem aheadBl (x y : T3) (W : World) : Calls Try.prog 62 #[ptV x.1 x.2.1 x.2.2, ptV y.1 y.2.1 y.2.2] W fun e w' => e = .returned (.bool (aheadB x y)) ∧ Below W.heap.size W w' :=
  (ahead_any x.1 x.2.1 x.2.2 y.1 y.2.1 y.2.2 W).mono fun _ _ ⟨he, hk⟩ => ⟨he, hk.below (Nat.le_refl _) (fun _ e => e.elim)⟩

theorem app_ne {v v' : Value} {g pb N : Nat} (hob : v'.ownBlock = some g) (h : v'.ownBlock = v.ownBlock ∨ v'.ownBlock = some N) (ho : ∀ q, v.ownBlock = some q → q < pb) (hN : pb < N) : g ≠ pb := by
  rw [hob] at h
  rcases h with h | h
  · have := ho g h.symm; omega
  · cases h; omega

theorem ins_len {ps : List T3} {i : Nat} (x : T3) (h : i ≤ ps.length) : (ps.take i ++ x :: ps.drop i).length = ps.length + 1 := by simp; omega
theorem ins_get {ps : List T3} {j : Nat} (x d : T3) (h : j < ps.length) : (ps.take (j + 1) ++ x :: ps.drop (j + 1))[j]?.getD d = ps[j]?.getD d := by
  rw [List.getElem?_append_left (by simp; omega), List.getElem?_take, if_pos (by omega)]
theorem ins_put {ps : List T3} {i : Nat} (x p : T3) (h : i ≤ ps.length) : (ps.take i ++ x :: ps.drop i).set i p = ps.take i ++ p :: ps.drop i := by
  have hl : (ps.take i).length = i := by simp; omega
  rw [List.set_append_right _ _ (by omega), hl, Nat.sub_self]; rfl
theorem ins_move {ps : List T3} {j : Nat} (x d : T3) (h : j < ps.length) : (ps.take (j + 1) ++ x :: ps.drop (j + 1)).set (j + 1) (ps[j]?.getD d) = ps.take j ++ (ps[j]?.getD d) :: ps.drop j := by
  rw [ins_put x _ (by omega), List.take_succ_eq_append_getElem h, List.getElem?_eq_getElem h, Option.getD_some, List.append_assoc]
  congr 1
  simp
theorem set6 (cv : List Value) (v x : Value) (hc : cv.length = 6) : (cv ++ [v]).toArray.setIfInBounds 6 x = (cv ++ [x]).toArray := by
  match cv, hc with
  | [a, b, c, d, e, f], _ => rfl

/-- What put leaves. -/
def PutR (w w' : World) (r base : Nat) (cv : List Value) (ps : List T3) (p : T3) : Prop :=
  ∃ v' qs, InsP p ps qs ∧ Box w' r 34 (cv ++ [v']).toArray ∧ w'.ownsRow base 74 3 v' qs.length (flat3 qs) ∧ Kept (fun k => k = r ∨ base ≤ k) w w'

set_option maxRecDepth 100000 in
set_option maxHeartbeats 4000000 in
theorem put_any (r base : Nat) (cv : List Value) (v : Value) (ps : List T3) (p : T3) (w : World) (hc : cv.length = 6) (hr : Box w r 34 (cv ++ [v]).toArray) (hrb : r < base) (hbw : base ≤ w.heap.size) (hm : ps.length < 4096) (hv : w.ownsRow base 74 3 v ps.length (flat3 ps)) :
    Calls Try.prog 53 #[.pointer (some ⟨r, 0, none⟩), ptV p.1 p.2.1 p.2.2] w fun e w' => e = .returned (.tuple #[]) ∧ PutR w w' r base cv ps p := by
  obtain ⟨h, s, n⟩ := p
  have HR : Hid (Box w r 34 (cv ++ [v]).toArray) := hr
  have HV : Hid (w.ownsRow base 74 3 v ps.length (flat3 ps)) := hv
  clear hr hv
  have hmix : Try.prog.follows .mixedOrders = true := by kernel_rfl
  obtain ⟨i0, hi, hz0, hz1, hz2⟩ := info_parts Try.info74
  unfold ptV
  simp only
  have hlen : (cv ++ [v])[6]? = some v := by rw [List.getElem?_append_right (by omega)]; simp [hc]
  have hne : r < w.heap.size := by omega
  have HOw : Hid (∀ q, v.ownBlock = some q → q < w.heap.size) := by
    intro q e
    rcases HV.out.2 with ⟨e0, _⟩ | ⟨g, cap, cur, rfl, _, hg, _⟩
    · rw [e0] at e; cases e
    · cases e; exact (Array.getElem?_eq_some_iff.1 hg).1
  go_enter Try.func53, Try.ntmps53
  go_wp2
  obtain ⟨w0, hw0⟩ : ∃ w0, w0 = w.alloc (.cells #[.int .i64 h, .int .i64 s, .int .i64 n] 74) := ⟨_, rfl⟩
  rw [← hw0]
  obtain ⟨pb, hpb⟩ : ∃ pb, pb = w.heap.size := ⟨_, rfl⟩
  have HP : Hid (Box w0 pb 74 #[.int .i64 h, .int .i64 s, .int .i64 n]) := by rw [hw0, hpb]; exact Box.new w 74 _
  have HR0 : Hid (Box w0 r 34 (cv ++ [v]).toArray) := by rw [hw0]; exact HR.out.alloc _
  have HV0 : Hid (w0.ownsRow base 74 3 v ps.length (flat3 ps)) := by rw [hw0]; exact owns_no HV.out ((Kept.refl No w).alloc _)
  have HK0 : Hid (Kept No w w0) := by rw [hw0]; exact (Kept.refl No w).alloc _
  have hb0 : base ≤ w0.heap.size := by have := HK0.out.size; omega
  have hps : pb < w0.heap.size := HP.out.lt
  rw [← hpb] at hbw hne HOw ⊢
  clear hw0 HR HV
  have c0 := HP.out.cell 0
  have c1 := HP.out.cell 1
  have c2 := HP.out.cell 2
  simp only [List.getElem?_toArray, List.getElem?_cons_zero, List.getElem?_cons_succ] at c0 c1 c2
  have c6 := HR0.out.cell 6
  rw [List.getElem?_toArray, hlen] at c6
  have HVa : Hid (∀ o, (w0.drew.alloc o).ownsRow base 74 3 v ps.length (flat3 ps)) := fun o => owns_no HV0.out ((Kept.refl No w0).drew.alloc o)
  have HNw : Hid (∀ (j : Nat) (u : Value), [Value.int .i64 h, .int .i64 s, .int .i64 n][j]? = some u → (w0.drew.alloc (.cells #[.int .i64 h, .int .i64 s, .int .i64 n] 74)).cell? ((⟨w0.heap.size, 0, none⟩ : Addr).add j) = some u) := by
    intro j u hu
    rw [addr_add, Nat.zero_add]
    have := (Box.new w0.drew 74 #[.int .i64 h, .int .i64 s, .int .i64 n]).cell j
    exact this.trans (by simpa using hu)
  have HRa : Hid (∀ o, Box (w0.drew.alloc o) r 34 (cv ++ [v]).toArray) := fun o => HR0.out.alloc o
  have HPa : Hid (∀ o, Box (w0.drew.alloc o) pb 74 #[.int .i64 h, .int .i64 s, .int .i64 n]) := fun o => HP.out.alloc o
  have HOB : Hid (∀ q, v.ownBlock = some q → base ≤ q) := fun q e => own_block HV0.out q e
  have HLn : Hid (ps.length < 4096) := hm
  have HH6 : Hid ((cv ++ [v])[6]? = some v) := hlen
  have HCl : Hid (cv.length = 6) := hc
  have HPb : Hid (pb = w.heap.size) := hpb
  have c6a : ∀ o, (w0.alloc o).cell? ⟨r, 6, none⟩ = some v := fun o => ((HR0.out.alloc o).cell 6).trans (by rw [List.getElem?_toArray]; exact HH6.out)
  clear hlen hm hc hpb
  go_region_law (refine step_appP 32 74 i0 (.agg #[.int .i64 0, .int .i64 0, .int .i64 0]) 3 24 Try.underlying32 hi hz0 hz1 hz2 rfl (by decide) rfl (.tmp 9) (.tmp 11) rfl base ps.length v (flat3 ps) (by simp [Act.eval, Act.put]) (HVa.out _) ⟨w0.heap.size, 0, none⟩ 1 1 [.int .i64 h, .int .i64 s, .int .i64 n] (by simp [Act.eval, Act.put]) rfl HNw.out (by simp [Value.oneCell']) (by have := HLn.out; unfold maxLen; omega) (by have := HLn.out; omega) (by simp; omega) ?_; intro v2 w2 HO2 HG2 HB2; obtain ⟨g, cap, sp, rfl, hbg, hob, htri, hsp, hcap, hmx⟩ := owns_tri (l := ps ++ [(h, s, n)]) (m := ps.length) (by rw [flat3_append]; exact HO2.out) (by simp); have HTr : Hid (Tri w2 g (ps ++ [(h, s, n)]) sp) := htri; have HGb : Hid (base ≤ g ∧ g ≠ pb) := ⟨hbg, app_ne hob HB2.out HOw.out (by simp; omega)⟩; have HSp : Hid ((ps.length + 1) * 3 + sp.length = cap * 3 ∧ ps.length + 1 ≤ cap ∧ cap ≤ maxLen) := ⟨hsp, hcap, hmx⟩; clear htri hbg hob hsp hcap hmx HB2 HO2; have HK2 : Hid (Kept (fun q => base ≤ q ∧ q ≠ pb) (w0.drew.alloc (.cells #[.int .i64 h, .int .i64 s, .int .i64 n] 74)) w2) := (Kept.refl _ _).grown HG2.out (fun q e _ => ⟨HOB.out q e, by have := HOw.out q e; omega⟩); have HR2 : Hid (Box w2 r 34 (cv ++ [v]).toArray) := (HRa.out _).kept HK2.out (fun e => absurd e.1 (by omega)); have k6 : w2.cell? ⟨r, 6, none⟩ = some v := (HR2.out.cell 6).trans (by rw [List.getElem?_toArray]; exact HH6.out); have f6 : w2.frozen? ⟨r, 6, none⟩ = false := HR2.out.frozen 6)
  all_goals (
    obtain ⟨w3, hw3⟩ : ∃ w3, w3 = w2.setCell { block := r, off := 6 } (Value.slice (some { block := g, off := 0 }) (ps.length + 1) cap) := ⟨_, rfl⟩
    rw [← hw3]
    have HR3 : Hid (Box w3 r 34 (cv ++ [Value.slice (some ⟨g, 0, none⟩) (ps.length + 1) cap]).toArray) := by
      rw [hw3]; have := HR2.out.set 6 (Value.slice (some ⟨g, 0, none⟩) (ps.length + 1) cap); rw [set6 _ _ _ HCl.out] at this; exact this
    have HT3 : Hid (Tri w3 g (ps ++ [(h, s, n)]) sp) := by rw [hw3]; exact Box.other HTr.out (by have := HGb.out; show g ≠ r; omega) _
    have HP3 : Hid (Box w3 pb 74 #[.int .i64 h, .int .i64 s, .int .i64 n]) := by
      rw [hw3]; exact ((HPa.out _).kept HK2.out (fun e => e.2 rfl)).other (by show pb ≠ r; omega) _
    have HK3 : Hid (Kept (fun k => k = r ∨ base ≤ k) w w3) := by
      rw [hw3]
      exact ((HK0.out.of_no.drew.alloc _).trans HK2.out (fun _ e => e) (fun i _ e => .inr e.1)).setCell (p := ⟨r, 6, none⟩) (fun _ => .inl rfl) _
    have hgr : g ≠ r := by have := HGb.out; omega
    have hgp : g ≠ pb := HGb.out.2
    have hpr : pb ≠ r := by omega
    clear hw3 HR2 HTr HK2 HRa HPa HVa HNw HG2 k6 f6 HK0 HOw HOB c0 c1 c2 c6 c6a HP HR0 HV0 HH6
    have HC6 : Hid (∀ W, Kept (Only g) w3 W → W.cell? ⟨r, 6, none⟩ = some (.slice (some ⟨g, 0, none⟩) (ps.length + 1) cap)) := fun W hk =>
      ((HR3.out.kept hk (fun e => hgr e.symm)).cell 6).trans (by rw [List.getElem?_toArray, List.getElem?_append_right (by have := HCl.out; omega)]; simp [HCl.out])
    have HPc : Hid (∀ W, Kept (Only g) w3 W → W.cell? ⟨pb, 0, none⟩ = some (.int .i64 h) ∧ W.cell? ⟨pb, 1, none⟩ = some (.int .i64 s) ∧ W.cell? ⟨pb, 2, none⟩ = some (.int .i64 n)) := fun W hk => by
      have hb := HP3.out.kept hk (fun e => hgp e.symm)
      refine ⟨(hb.cell 0).trans (by simp), (hb.cell 1).trans (by simp), (hb.cell 2).trans (by simp)⟩
    have c6 := HC6.out w3 (Kept.refl _ _)
    go_wp2
    go_loopw [4] (fun vi wr => ∃ (i : Nat) (x : T3), vi = .int .i64 i ∧ i ≤ ps.length ∧ Hid (Tri wr g (ps.take i ++ x :: ps.drop i) sp) ∧ Hid (∀ j, i ≤ j → j < ps.length → aheadB (h, s, n) (ps[j]?.getD (0, 0, 0)) = true) ∧ Hid (Kept (Only g) w3 wr)) (fun i _ => (intOf i).toNat)
    case atStart =>
      refine ⟨ps.length, (h, s, n), congrArg (Value.int .i64) (IntWalk.wrap64_in _ ⟨by omega, by have := HLn.out; omega⟩), Nat.le_refl _, ?_, fun j h1 h2 => absurd h2 (by omega), Kept.refl _ _⟩
      have := HT3.out
      rw [List.take_length, List.drop_length]
      exact this
    case round =>
      obtain ⟨i, x, rfl, hi, HT, HA, HK⟩ := hrel
      clear HT3 c6
      by_cases hi0 : 0 < i
      · obtain ⟨j, rfl⟩ : ∃ j, i = j + 1 := ⟨i - 1, by omega⟩
        obtain ⟨y, hy⟩ : ∃ y, ps[j]?.getD (0, 0, 0) = y := ⟨_, rfl⟩
        have HY : Hid (ps[j]?.getD (0, 0, 0) = y) := hy
        have HL : Hid (j < (ps.take (j + 1) ++ x :: ps.drop (j + 1)).length) := by show _ < _; rw [ins_len x hi]; omega
        have cy := HT.out.cell j HL.out ((ins_get x _ (by omega)).trans hy)
        have t6 := HC6.out wr HK.out
        obtain ⟨p0, p1, p2⟩ := HPc.out wr HK.out
        have a0 := fun dd os => cell_regrown cy.1 dd os
        have a1 := fun dd os => cell_regrown cy.2.1 dd os
        have a2 := fun dd os => cell_regrown cy.2.2 dd os
        have b0 := fun dd os => cell_regrown p0 dd os
        have b1 := fun dd os => cell_regrown p1 dd os
        have b2 := fun dd os => cell_regrown p2 dd os
        have b6 := fun dd os => cell_regrown t6 dd os
        have hwr : IntKind.i64.wrap (j : Int) = (j : Int) := by rw [IntKind.wrap_i64]; have := HLn.out; omega
        have q0 : (0 : Int) < (j : Int) + 1 := by omega
        have q2 : (j : Int) < (ps.length : Int) + 1 := by omega
        have q4 : (0 : Int) ≤ (j : Int) := by omega
        have HCa : Hid (∀ W, Calls Try.prog 62 #[.agg #[.int .i64 h, .int .i64 s, .int .i64 n], .agg #[.int .i64 y.1, .int .i64 y.2.1, .int .i64 y.2.2]] W fun e w' => e = .returned (.bool (aheadB (h, s, n) y)) ∧ Below W.heap.size W w') := fun W => aheadBl (h, s, n) y W
        generalize hab : aheadB (h, s, n) y = ab at HCa
        have HAb : Hid (aheadB (h, s, n) y = ab) := hab
        clear cy p0 p1 p2 t6 hy hab
        go_wp2
        refine wp_region_quiet_below hmix (by kernel_rfl) ?_
        repeat (quiet_step (exact Calls.regrown_of (HCa.out _)))
        refine wpQuiet_nil ?_
        intro _ hw'
        obtain ⟨⟨nq, osq⟩, hw''⟩ := hw'
        rw [hw'']
        simp only []
        have HT1 : Hid (Tri (Sort.grow (redrawn wr nq) osq) g (ps.take (j + 1) ++ x :: ps.drop (j + 1)) sp) := HT.out.kept (kept_regrown _ _ _) (fun e => e)
        have HK1 : Hid (Kept (Only g) w3 (Sort.grow (redrawn wr nq) osq)) := HK.out.then (kept_regrown _ _ _).of_no
        clear hw'' a0 a1 a2 b0 b1 b2 b6 HCa HT HK
        generalize Sort.grow (redrawn wr nq) osq = wr1 at HT1 HK1
        cases ab
        · have HNo : Hid (0 < j + 1 → aheadB (h, s, n) (ps[j + 1 - 1]?.getD (0, 0, 0)) = false) := fun _ => by rw [Nat.add_sub_cancel, HY.out]; exact HAb.out
          clear HL hi0 q0 q2 q4 hwr
          have t6 := HC6.out wr1 HK1.out
          obtain ⟨p0, p1, p2⟩ := HPc.out wr1 HK1.out
          have f0 := HT1.out.frozen ((j + 1) * 3)
          have f1 := HT1.out.frozen ((j + 1) * 3 + 1)
          have f2 := HT1.out.frozen ((j + 1) * 3 + 2)
          have HL1 : Hid ((j + 1) < (ps.take (j + 1) ++ x :: ps.drop (j + 1)).length) := by show _ < _; rw [ins_len x (by omega)]; omega
          have e0 := (HT1.out.cell (j + 1) HL1.out rfl).1
          have e1 := (HT1.out.cell (j + 1) HL1.out rfl).2.1
          have e2 := (HT1.out.cell (j + 1) HL1.out rfl).2.2
          generalize (ps.take (j + 1) ++ x :: ps.drop (j + 1))[(j + 1)]?.getD (0, 0, 0) = old at e0 e1 e2
          have q8 : ((j : Int) + 1) < (ps.length : Int) + 1 := by omega
          have q9 : (0 : Int) ≤ ((j : Int) + 1) := by omega
          go_wp2
          go_big_region
          all_goals go_wp2
          all_goals go_end0
          all_goals refine ⟨rfl, .slice (some ⟨g, 0, none⟩) (ps.length + 1) cap, ps.take (j + 1) ++ (h, s, n) :: ps.drop (j + 1), ⟨(j + 1), by omega, rfl, HA.out, HNo.out⟩, ?_, ?_, ?_⟩
          all_goals have HTf := HT1.out.put (j + 1) (h, s, n) HL1.out
          all_goals rw [ins_put x _ (by omega)] at HTf
          all_goals have hkk := (((HK1.out.setCell (p := ⟨g, (j + 1) * 3, none⟩) (fun _ => rfl) (.int .i64 h)).setCell (p := ⟨g, (j + 1) * 3 + 1, none⟩) (fun _ => rfl) (.int .i64 s)).setCell (p := ⟨g, (j + 1) * 3 + 2, none⟩) (fun _ => rfl) (.int .i64 n)).drew
          · exact HR3.out.kept hkk (fun e => hgr e.symm)
          · rw [ins_len _ (by omega)]
            exact tri_owns HGb.out.1 HTf (ins_len _ (by omega)) HSp.out.1 HSp.out.2.1 HSp.out.2.2
          · exact HK3.out.trans hkk (fun _ e => e) (fun k _ e => .inr (by have : k = g := e; rw [this]; exact HGb.out.1))
        · have t6 := HC6.out wr1 HK1.out
          have cy := HT1.out.cell j HL.out ((ins_get x _ (by omega)).trans HY.out)
          obtain ⟨y0, y1, y2⟩ := cy
          have HL1 : Hid (j + 1 < (ps.take (j + 1) ++ x :: ps.drop (j + 1)).length) := by show _ < _; rw [ins_len x hi]; omega
          have e0 := (HT1.out.cell (j + 1) HL1.out rfl).1
          have e1 := (HT1.out.cell (j + 1) HL1.out rfl).2.1
          have e2 := (HT1.out.cell (j + 1) HL1.out rfl).2.2
          generalize (ps.take (j + 1) ++ x :: ps.drop (j + 1))[j + 1]?.getD (0, 0, 0) = old at e0 e1 e2
          have f0 := HT1.out.frozen ((j + 1) * 3)
          have f1 := HT1.out.frozen ((j + 1) * 3 + 1)
          have f2 := HT1.out.frozen ((j + 1) * 3 + 2)
          have q8 : (j : Int) + 1 < (ps.length : Int) + 1 := by omega
          have q9 : (0 : Int) ≤ (j : Int) + 1 := by omega
          go_wp2
          go_big_region
          all_goals go_wp2
          go_roundw
          case rel =>
            refine ⟨j, y, by go_num, by omega, ?_, ?_, ?_⟩
            · have := HT1.out.put (j + 1) y HL1.out
              rw [← HY.out, ins_move x _ (by omega), HY.out] at this
              exact this
            · intro k h1 h2
              by_cases e : k = j
              · subst e; rw [HY.out]; exact HAb.out
              · exact HA.out k (by omega) h2
            · exact (((HK1.out.setCell (p := ⟨g, (j + 1) * 3, none⟩) (fun _ => rfl) _).setCell (p := ⟨g, (j + 1) * 3 + 1, none⟩) (fun _ => rfl) _).setCell (p := ⟨g, (j + 1) * 3 + 2, none⟩) (fun _ => rfl) _).drew
          case measure => simp [intOf]
      · obtain rfl : i = 0 := by omega
        have q0 : ¬ (0 : Int) < (0 : Int) := by omega
        have HNo : Hid (0 < 0 → aheadB (h, s, n) (ps[0 - 1]?.getD (0, 0, 0)) = false) := fun e => absurd e (by omega)
        go_wp2
        go_quiet (fail)
        go_wp2_with fail
        have HT1 : Hid (Tri (wr.drewN nq) g (ps.take 0 ++ x :: ps.drop 0) sp) := HT.out.kept (Kept.no_drewN _ _) (fun e => e)
        have HK1 : Hid (Kept (Only g) w3 (wr.drewN nq)) := HK.out.drewN _
        clear HT HK q0 hi0
        generalize wr.drewN nq = wr1 at HT1 HK1

        have t6 := HC6.out wr1 HK1.out
        obtain ⟨p0, p1, p2⟩ := HPc.out wr1 HK1.out
        have f0 := HT1.out.frozen (0 * 3)
        have f1 := HT1.out.frozen (0 * 3 + 1)
        have f2 := HT1.out.frozen (0 * 3 + 2)
        have HL1 : Hid (0 < (ps.take 0 ++ x :: ps.drop 0).length) := by show _ < _; rw [ins_len x (by omega)]; omega
        have e0 := (HT1.out.cell 0 HL1.out rfl).1
        have e1 := (HT1.out.cell 0 HL1.out rfl).2.1
        have e2 := (HT1.out.cell 0 HL1.out rfl).2.2
        generalize (ps.take 0 ++ x :: ps.drop 0)[0]?.getD (0, 0, 0) = old at e0 e1 e2
        have q8 : (0 : Int) < (ps.length : Int) + 1 := by omega
        have q9 : (0 : Int) ≤ (0 : Int) := by omega
        go_wp2
        go_big_region
        all_goals go_wp2
        all_goals go_end0
        all_goals refine ⟨rfl, .slice (some ⟨g, 0, none⟩) (ps.length + 1) cap, ps.take 0 ++ (h, s, n) :: ps.drop 0, ⟨0, by omega, rfl, HA.out, HNo.out⟩, ?_, ?_, ?_⟩
        all_goals have HTf := HT1.out.put 0 (h, s, n) HL1.out
        all_goals rw [ins_put x _ (by omega)] at HTf
        all_goals have hkk := (((HK1.out.setCell (p := ⟨g, 0 * 3, none⟩) (fun _ => rfl) (.int .i64 h)).setCell (p := ⟨g, 0 * 3 + 1, none⟩) (fun _ => rfl) (.int .i64 s)).setCell (p := ⟨g, 0 * 3 + 2, none⟩) (fun _ => rfl) (.int .i64 n)).drew
        · exact HR3.out.kept hkk (fun e => hgr e.symm)
        · rw [ins_len _ (by omega)]
          exact tri_owns HGb.out.1 HTf (ins_len _ (by omega)) HSp.out.1 HSp.out.2.1 HSp.out.2.2
        · exact HK3.out.trans hkk (fun _ e => e) (fun k _ e => .inr (by have : k = g := e; rw [this]; exact HGb.out.1)))

end Go.Proofs.Ytpapbleabjpbfaa
