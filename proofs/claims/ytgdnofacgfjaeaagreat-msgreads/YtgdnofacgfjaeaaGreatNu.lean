import Derived.Test.YtgdnofacgfjaeaaGreatNq
import Derived.Test.YtgdnofacgfjaeaaGreatWiCa
namespace Go.Proofs.YtgdnofacgfjaeaaGreat.Md
open Go.RowKit
set_option linter.unusedVariables false
set_option linter.unusedSimpArgs false
def bkX (up : Int) (i j : Nat) : Bv := ⟨up, ⟨none, i, 0⟩, ⟨none, j, 0⟩⟩
def rkS (st : Wi.RS) (i j : Nat) : Wi.RS := lasS j (Wi.nS (ensS i (Wi.nS (Wi.nS st))))
def rkE (st : Wi.RS) (i : Nat) : List En := ensL i (Wi.nS (Wi.nS st))
def rkL (st : Wi.RS) (i j : Nat) : List La := lasL j (Wi.nS (ensS i (Wi.nS (Wi.nS st))))
def rkP (B rm : Int) (st : Wi.RS) (i j : Nat) : Bool := bktP B rm (bkX (Wi.nV st) i j) (rkE st i) (rkL st i j)
def rkI (st : Wi.RS) (i j : Nat) : List It := bktIts (bkX (Wi.nV st) i j) (rkE st i) (rkL st i j)
def goodK (B rm : Int) (st : Wi.RS) : Bool := Wi.wholeB false (bkS st) && rkP B rm st (bkE st) (bkL st)
theorem fl_congr {f g : Nat → List It} : ∀ {n : Nat}, (∀ k, k < n → f k = g k) → fl f n = fl g n
  | 0, _ => by rw [fl0, fl0]
  | n + 1, h => by rw [fl_succ, fl_succ, fl_congr (fun k hk => h k (by omega)), h n (by omega)]
theorem took_ens (st : Wi.RS) : ∀ n, Took st (fl (fun k => entIts (enV (ensS k st))) n) (ensS n st)
  | 0 => by rw [fl0]; exact Took.nil st
  | n + 1 => by rw [fl_succ]; exact (took_ens st n).trans (took_en _)
theorem took_las (st : Wi.RS) : ∀ n, Took st (fl (fun k => lasIts (laV (lasS k st))) n) (lasS n st)
  | 0 => by rw [fl0]; exact Took.nil st
  | n + 1 => by rw [fl_succ]; exact (took_las st n).trans (took_la _)
theorem ensL_at {n k : Nat} (st : Wi.RS) (h : k < n) : eAt (ensL n st) k = enV (ensS k st) := by
  unfold eAt ensL; rw [List.getElem?_map, List.getElem?_range h]; rfl
theorem lasL_at {n k : Nat} (st : Wi.RS) (h : k < n) : lAt (lasL n st) k = laV (lasS k st) := by
  unfold lAt lasL; rw [List.getElem?_map, List.getElem?_range h]; rfl
theorem took_bk {st : Wi.RS} {i j : Nat} (hN : Wi.nV (Wi.nS st) = ((i : Nat) : Int)) (hM : Wi.nV (ensS i (Wi.nS (Wi.nS st))) = ((j : Nat) : Int)) : Took st (rkI st i j) (rkS st i j) := by
  unfold rkI rkS bktIts rkE rkL bkX
  rw [fl_congr (f := fun k => entIts (eAt (ensL i (Wi.nS (Wi.nS st))) k)) (fun k hk => by rw [ensL_at _ hk]), fl_congr (f := fun k => lasIts (lAt (lasL j (Wi.nS (ensS i (Wi.nS (Wi.nS st))))) k)) (fun k hk => by rw [lasL_at _ hk])]
  have h1 := took_2 st
  rw [hN] at h1
  have h2 := took_n (ensS i (Wi.nS (Wi.nS st)))
  rw [hM] at h2
  exact ((h1.trans (took_ens _ i)).trans h2).trans (took_las _ j)
def okB (st : Wi.RS) : Prop := ∃ zs a, st = .ok zs a
theorem took_back {st st' : Wi.RS} {L : List It} (h : Took st L st') (hu : uR st) (ho : okB st') : okB st := by
  obtain ⟨zs, a, e⟩ := ho
  obtain ⟨z0, a0, e0, _⟩ := (h hu).2 zs a e
  exact ⟨z0, a0, e0⟩
theorem ens_back {st : Wi.RS} (hu : uR st) {i : Nat} : ∀ {n : Nat}, i ≤ n → okB (ensS n st) → okB (ensS i st)
  | 0, h, ho => by have : i = 0 := by omega
                   rw [this]; exact ho
  | n + 1, h, ho => by
    by_cases e : i = n + 1
    · rw [e]; exact ho
    · exact ens_back hu (n := n) (by omega) (took_back (took_en _) (ens_u hu n) ho)
theorem las_back {st : Wi.RS} (hu : uR st) {i : Nat} : ∀ {n : Nat}, i ≤ n → okB (lasS n st) → okB (lasS i st)
  | 0, h, ho => by have : i = 0 := by omega
                   rw [this]; exact ho
  | n + 1, h, ho => by
    by_cases e : i = n + 1
    · rw [e]; exact ho
    · exact las_back hu (n := n) (by omega) (took_back (took_la _) (las_u hu n) ho)
theorem ok_err {st : Wi.RS} (h : okB st) : ((Wi.errS st).2 == 0) = true := by
  obtain ⟨zs, a, rfl⟩ := h; rfl
theorem bkt_bd {B rm : Int} {x : Bv} {es : List En} {ls : List La} (hr : rm ≤ 256) (he : es.length = x.e.l) (hl : ls.length = x.l.l) (h : bktP B rm x es ls = true) : x.e.l ≤ 256 ∧ x.l.l ≤ 255 := by
  unfold bktP at h
  cases e1 : (x.up == 0)
  · rw [e1] at h
    simp only [bsq] at h
    rw [Bool.and_eq_true, Bool.and_eq_true] at h
    have h2 := h.2.1
    unfold entsP at h2
    rw [Bool.and_eq_true] at h2
    have h3 : ¬ rm < ((es.length : Nat) : Int) := by simpa using h2.1
    have h4 := rng_all h.2.2
    have h5 := las_cnt h4
    omega
  · rw [e1] at h
    simp only [bsq] at h
    unfold empK at h
    rw [Bool.and_eq_true, Bool.and_eq_true] at h
    have h2 := eq_of_beq h.2.1
    have h3 := eq_of_beq h.2.2
    omega
theorem rk_bd {B rm : Int} (hr : rm ≤ 256) {st : Wi.RS} {i j : Nat} (h : rkP B rm st i j = true) : i ≤ 256 ∧ j ≤ 255 := bkt_bd hr (ensL_len _ _) (lasL_len _ _) h
theorem whole_ok {st : Wi.RS} (hu : uR st) (h : Wi.wholeB false st = true) : okB st := by
  cases st with
  | ok zs a => exact ⟨zs, a, rfl⟩
  | bad p c =>
    have hu : c ≠ 0 := hu
    simp only [Wi.wholeB, Wi.endS, Wi.errS, Bool.not_false, Bool.and_true, decide_eq_true_eq] at h
    exact absurd (of_decide_eq_true h) hu
theorem rk_good {B rm : Int} (hr : rm ≤ 256) {ys body : List Int} (h8 : Wi.U8 ys) (ho : (Wi.openOf ys).2 = 0) (hb : (Wi.openOf ys).1 = body) {N M i j : Nat}
    (hN : Wi.nV (Wi.nS (.ok body 0)) = ((N : Nat) : Int)) (hM : Wi.nV (ensS i (Wi.nS (Wi.nS (.ok body 0)))) = ((M : Nat) : Int)) (hi : i ≤ N) (hj : j ≤ M)
    (hei : i < N → ((Wi.errS (ensS i (Wi.nS (Wi.nS (.ok body 0))))).2 == 0) = false) (hej : j < M → ((Wi.errS (rkS (.ok body 0) i j)).2 == 0) = false) :
    goodK B rm (.ok body 0) = ((Wi.errS (rkS (.ok body 0) i j)).2 == 0 && (!Wi.moreS (rkS (.ok body 0) i j) && (rkP B rm (.ok body 0) i j && decide (Wi.sealOf (encB (rkI (.ok body 0) i j)) = ys)))) ∧
    (goodK B rm (.ok body 0) = true → i = bkE (.ok body 0) ∧ j = bkL (.ok body 0)) := by
  have hu : uR (.ok body 0) := by show Wi.U8 body; rw [← hb]; exact open_u8 h8
  have hu1 := (took_n _ hu).1
  have hu2 := (took_n _ hu1).1
  have hu3 : ∀ k, uR (Wi.nS (ensS k (Wi.nS (Wi.nS (.ok body 0))))) := fun k => (took_n _ (ens_u hu2 k)).1
  have c1 : ((Wi.errS (rkS (.ok body 0) i j)).2 == 0 && (!Wi.moreS (rkS (.ok body 0) i j) && (rkP B rm (.ok body 0) i j && decide (Wi.sealOf (encB (rkI (.ok body 0) i j)) = ys)))) = true → i = N ∧ j = M ∧ i ≤ 256 ∧ j ≤ 255 := by
    intro h
    rw [Bool.and_eq_true, Bool.and_eq_true, Bool.and_eq_true] at h
    obtain ⟨q1, _, q3, _⟩ := h
    obtain ⟨b1, b2⟩ := rk_bd hr q3
    have o1 : okB (rkS (.ok body 0) i j) := err_ok (las_u (hu3 i) j) q1
    have e2 : j = M := by
      by_cases e : j < M
      · rw [hej e] at q1; cases q1
      · omega
    have o2 := took_back (took_n _) (ens_u hu2 i) (las_back (hu3 i) (Nat.zero_le j) o1)
    have e1 : i = N := by
      by_cases e : i < N
      · have := ok_err o2; rw [hei e] at this; cases this
      · omega
    exact ⟨e1, e2, b1, b2⟩
  have c2 : goodK B rm (.ok body 0) = true → i = N ∧ j = M ∧ i ≤ 256 ∧ j ≤ 255 := by
    intro h
    unfold goodK at h
    rw [Bool.and_eq_true] at h
    obtain ⟨q1, q3⟩ := h
    obtain ⟨b1, b2⟩ := rk_bd hr q3
    have eE : bkE (.ok body 0) = N := by
      unfold bkE cntK at b1 ⊢
      rw [hN] at b1 ⊢
      split at b1 <;> split <;> omega
    have o1 : okB (bkS (.ok body 0)) := whole_ok (las_u (took_n _ (ens_u hu2 _)).1 _) q1
    have o2 : okB (bk2 (.ok body 0)) := took_back (took_n _) (ens_u hu2 _) (las_back (took_n _ (ens_u hu2 _)).1 (Nat.zero_le _) o1)
    have e1 : i = N := by
      by_cases e : i < N
      · have o3 : okB (ensS i (Wi.nS (Wi.nS (.ok body 0)))) := ens_back hu2 (n := bkE (.ok body 0)) (by omega) o2
        have := ok_err o3; rw [hei e] at this; cases this
      · omega
    have e3 : bk2 (.ok body 0) = ensS i (Wi.nS (Wi.nS (.ok body 0))) := by unfold bk2; rw [eE, e1]
    have eL : bkL (.ok body 0) = M := by
      unfold bkL cntK at b2 ⊢
      rw [e3, hM] at b2 ⊢
      split at b2 <;> split <;> omega
    have e2 : j = M := by
      by_cases e : j < M
      · have o3 : okB (rkS (.ok body 0) i j) := by
          unfold bkS at o1
          rw [e3, eL] at o1
          exact las_back (hu3 i) (n := M) (by omega) o1
        have := ok_err o3; rw [hej e] at this; cases this
      · omega
    exact ⟨e1, e2, by omega, by omega⟩
  by_cases h : i = N ∧ j = M ∧ i ≤ 256 ∧ j ≤ 255
  · obtain ⟨e1, e2, b1, b2⟩ := h
    have eE : bkE (.ok body 0) = i := by unfold bkE cntK; rw [hN]; split <;> omega
    have e3 : bk2 (.ok body 0) = ensS i (Wi.nS (Wi.nS (.ok body 0))) := by unfold bk2; rw [eE]
    have eL : bkL (.ok body 0) = j := by unfold bkL cntK; rw [e3, hM]; split <;> omega
    have eS : bkS (.ok body 0) = rkS (.ok body 0) i j := by unfold bkS rkS; rw [eL, e3]
    refine ⟨?_, fun _ => ⟨eE.symm, eL.symm⟩⟩
    unfold goodK
    rw [eE, eL, eS]
    exact fin_eq h8 ho hb (took_bk (by rw [hN, e1]) (by rw [hM, e2]))
  · have f1 : goodK B rm (.ok body 0) = false := by
      cases hg : goodK B rm (.ok body 0) with
      | false => rfl
      | true => exact absurd (c2 hg) h
    refine ⟨?_, fun hg => absurd (c2 hg) h⟩
    rw [f1]
    symm
    cases hg : ((Wi.errS (rkS (.ok body 0) i j)).2 == 0 && (!Wi.moreS (rkS (.ok body 0) i j) && (rkP B rm (.ok body 0) i j && decide (Wi.sealOf (encB (rkI (.ok body 0) i j)) = ys)))) with
    | false => rfl
    | true => exact absurd (c1 hg) h
def outK (b : Bool) (ys : List Int) (good : Bool) (i j : Nat) : Int × List En × List La × Int :=
  bif b then (bif (Wi.openOf ys).2 == 0 then (bif good then (Wi.nV (.ok (Wi.openOf ys).1 0), rkE (.ok (Wi.openOf ys).1 0) i, rkL (.ok (Wi.openOf ys).1 0) i j, 0) else (0, [], [], 11)) else (0, [], [], (Wi.openOf ys).2)) else (0, [], [], 20)
def BckO (w : World) (r : Int × List En × List La × Int) (e : Ending) (w' : World) : Prop := ∃ x y : Sl, e = .returned (.tuple #[.agg (Bv.cells ⟨r.1, x, y⟩), .int .i64 r.2.2.2]) ∧ RdE w' x r.2.1 ∧ RdL w' y r.2.2.1 ∧ x.l ≤ 281474976710656 ∧ y.l ≤ 281474976710656 ∧ Kept No w w'
theorem RdE.nilS (w : World) : RdE w slZ [] := ⟨RowsAt.nil _ _ _, rfl, fun _ => rfl⟩
theorem RdL.nilS (w : World) : RdL w slZ [] := ⟨RowsAt.nil _ _ _, rfl, fun _ => rfl⟩
theorem RdE.ofBox {w : World} {g n k : Nat} {es : List En} (hb : Box w g 92 (enL es).toArray) (hl : es.length = n) : RdE w ⟨some ⟨g, 0, none⟩, n, k⟩ es := by
  refine ⟨?_, hl, fun e => by cases e⟩
  intro i it hi
  refine ⟨g, 0, rfl, fun j v hv => ?_⟩
  have h1 := flat_get 4 _ (enL_c es) i it hi j v hv
  rw [Nat.zero_add, hb.cell, List.getElem?_toArray]
  exact h1
theorem RdL.ofBox {w : World} {g n k : Nat} {es : List La} (hb : Box w g 94 (laL es).toArray) (hl : es.length = n) : RdL w ⟨some ⟨g, 0, none⟩, n, k⟩ es := by
  refine ⟨?_, hl, fun e => by cases e⟩
  intro i it hi
  refine ⟨g, 0, rfl, fun j v hv => ?_⟩
  have h1 := flat_get 7 _ (laL_c es) i it hi j v hv
  rw [Nat.zero_add, hb.cell, List.getElem?_toArray]
  exact h1
theorem bv_one (x : Bv) : (Bv.cells x).all (·.oneCell') = true := all_one (Bv.oneL x)
theorem kr_fresh {K : Src} {w w' : World} {s : Wi.RS × Bool} {m : List (Nat × TypeId × Array Value)} (k : Kr K w w' s m) {i g : Nat} {T : TypeId} {cs : Array Value} (h : m[i]? = some (g, T, cs)) : w.heap.size ≤ g := (k.fq.low i g T cs h).elim id (fun e => absurd (K.sub _ e) (k.out i g T cs h))
theorem p_ReadK (x : Sl) (ys : List Int) (c : Cg) (zs : List Int) (w : World) (hc : CgIn w c zs) (hx : Wi.Sl w x.a x.l x.k ys) : Calls Tryz.prog 78 #[x.v, .agg (Cg.cells c)] w
    (BckO w (outK (cfgP c zs) ys (goodK c.bl c.rm (.ok (Wi.openOf ys).1 0)) (bkE (.ok (Wi.openOf ys).1 0)) (bkL (.ok (Wi.openOf ys).1 0)))) := by
  cases hq : cfgP c zs with
  | false =>
    refine (Wi.eNoReadBucket x.a x.l x.k c.sv.a c.sv.l c.sv.k zs c.f c.po c.bu c.bl c.rm w hc.wi hq).mono ?_
    rintro e w' ⟨rfl, hk⟩
    exact ⟨slZ, slZ, rfl, RdE.nilS _, RdL.nilS _, Nat.zero_le _, Nat.zero_le _, kw hk⟩
  | true =>
    cases ho : ((Wi.openOf ys).2 == 0) with
    | false =>
      refine (Wi.eReadBucket x.a x.l x.k c.sv.a c.sv.l c.sv.k zs c.f c.po c.bu c.bl c.rm w (fun W cs e w' => cs = Wi.zK ∧ e = (Wi.openOf ys).2) (fun W hW => ?_)).mono ?_
      · exact (Wi.unpackBucket_shut x.a x.l x.k ys _ _ _ c.sv.a c.sv.l c.sv.k zs c.f c.po c.bu c.bl c.rm W (hc.wi.no hW) hq (hx.no hW) (by simpa using ho)).mono (fun e w' ⟨a, b⟩ => ⟨_, _, a, rfl, Wi.zK_one, b, rfl, rfl⟩)
      · rintro e w' ⟨cs, x, W, w1, rfl, hW, ⟨rfl, rfl⟩, hk, hk'⟩
        have hv : outK true ys (goodK c.bl c.rm (.ok (Wi.openOf ys).1 0)) (bkE (.ok (Wi.openOf ys).1 0)) (bkL (.ok (Wi.openOf ys).1 0)) = (0, [], [], (Wi.openOf ys).2) := by simp only [outK, cond_true, cond_false, ho]
        rw [hv]
        exact ⟨slZ, slZ, rfl, RdE.nilS _, RdL.nilS _, Nat.zero_le _, Nat.zero_le _, kw hk'⟩
    | true =>
      have h0 : (Wi.openOf ys).2 = 0 := eq_of_beq ho
      have h8 := open_u8 hx.u8
      obtain ⟨st, hst⟩ : ∃ st, Wi.RS.ok (Wi.openOf ys).1 0 = st := ⟨_, rfl⟩
      rw [hst]
      obtain ⟨good, hg⟩ : ∃ b, goodK c.bl c.rm st = b := ⟨_, rfl⟩
      rw [hg]
      have hE : (rkE st (bkE st)).length = bkE st := ensL_len _ _
      have hL : (rkL st (bkE st) (bkL st)).length = bkL st := lasL_len _ _
      have hE2 : bkE st ≤ 257 := cntK_le _ _
      have hL2 : bkL st ≤ 256 := cntK_le _ _
      refine (Wi.eReadBucket x.a x.l x.k c.sv.a c.sv.l c.sv.k zs c.f c.po c.bu c.bl c.rm w (fun W cs e w' => ∃ ge gl, cs = (if good then Bv.cells ⟨Wi.nV st, ⟨some ⟨ge, 0, none⟩, bkE st, bkE st⟩, ⟨some ⟨gl, 0, none⟩, bkL st, bkL st⟩⟩ else Wi.zK) ∧ (e = if good then 0 else 11) ∧ Box w' ge 92 (enL (rkE st (bkE st))).toArray ∧ Box w' gl 94 (laL (rkL st (bkE st) (bkL st))).toArray ∧ W.heap.size ≤ ge ∧ W.heap.size ≤ gl) (fun W hW => ?_)).mono ?_
      · refine (Wi.unpackBucket_all x.a x.l x.k ys 11 c.sv.a c.sv.l c.sv.k zs c.f c.po c.bu c.bl c.rm W (hc.wi.no hW) hq (hx.no hW) h0 h8 (by have := (open_form hx.u8 h0).2; omega)
          false (bkS st) (rkP c.bl c.rm st (bkE st) (bkL st)) (fun W0 W1 cs => ∃ ge gl, cs = Bv.cells ⟨Wi.nV st, ⟨some ⟨ge, 0, none⟩, bkE st, bkE st⟩, ⟨some ⟨gl, 0, none⟩, bkL st, bkL st⟩⟩ ∧ Box W1 ge 92 (enL (rkE st (bkE st))).toArray ∧ Box W1 gl 94 (laL (rkL st (bkE st) (bkL st))).toArray ∧ W0.heap.size ≤ ge ∧ W0.heap.size ≤ gl)
          (fun _ _ cs h => by obtain ⟨ge, gl, rfl, _⟩ := h; exact ⟨rfl, bv_one _⟩) (fun W0 W1 W2 cs h hk => ?_) (fun W2 r g lb hk hR => ?_) (fun W0 W2 cs hk h => ?_)).mono ?_
        · obtain ⟨ge, gl, h1, h2, h3, h4, h5⟩ := h
          exact ⟨ge, gl, h1, h2.kept (kwS hk) (fun e => by have := h2.lt; rcases e with e | e <;> omega), h3.kept (kwS hk) (fun e => by have := h3.lt; rcases e with e | e <;> omega), h4, h5⟩
        · rw [hst] at hR
          refine (p_rbkt (r := r) (g := g) (lb := lb) (st := st) (odd := false) (w := W2) hR).mono ?_
          rintro e w' ⟨ge, gl, rfl, hk2⟩
          refine ⟨_, rfl, Wi.RdM.since hk2.st (wkS hk2.fq.kept), ge, gl, ?_, hk2.fq.box 0 _ _ _ rfl, hk2.fq.box 1 _ _ _ rfl, kr_fresh hk2 (i := 0) rfl, kr_fresh hk2 (i := 1) rfl⟩
          rw [ensL_len, lasL_len]
        · obtain ⟨ge, gl, rfl, h2, h3, h4, h5⟩ := h
          exact wcall (p_rightBucket ⟨Wi.nV st, ⟨some ⟨ge, 0, none⟩, bkE st, bkE st⟩, ⟨some ⟨gl, 0, none⟩, bkL st, bkL st⟩⟩ (rkE st (bkE st)) (rkL st (bkE st) (bkL st)) c W2 (cfg_bl hq) (RdE.ofBox h2 hE) (RdL.ofBox h3 hL) (by show bkE st ≤ _; omega) (by show bkL st ≤ _; omega))
        · rintro e w' ⟨cs, rfl, ⟨W0, hW0, ge, gl, rfl, h2, h3, h4, h5⟩, hk⟩
          have hg2 : (Wi.wholeB false (bkS st) && rkP c.bl c.rm st (bkE st) (bkL st)) = good := hg
          rw [hg2]
          refine ⟨_, _, rfl, ?_, ?_, hk, ge, gl, rfl, rfl, h2, h3, by omega, by omega⟩
          · cases good <;> rfl
          · cases good
            · exact Wi.zK_one
            · exact bv_one _
      · rintro e w' ⟨cs, x, W, w1, rfl, hW, ⟨ge, gl, rfl, rfl, h2, h3, h4, h5⟩, hk, hk'⟩
        have k2 := h2.kept (kwS hk) (fun e => by omega)
        have k3 := h3.kept (kwS hk) (fun e => by omega)
        cases good with
        | false =>
          have hv : outK true ys false (bkE st) (bkL st) = (0, [], [], 11) := by simp only [outK, cond_true, cond_false, ho]
          rw [hv]
          exact ⟨slZ, slZ, rfl, RdE.nilS _, RdL.nilS _, Nat.zero_le _, Nat.zero_le _, kw hk'⟩
        | true =>
          have hv : outK true ys true (bkE st) (bkL st) = (Wi.nV st, rkE st (bkE st), rkL st (bkE st) (bkL st), 0) := by simp only [outK, cond_true, cond_false, ho, hst]
          rw [hv]
          exact ⟨⟨some ⟨ge, 0, none⟩, bkE st, bkE st⟩, ⟨some ⟨gl, 0, none⟩, bkL st, bkL st⟩, rfl, RdE.ofBox k2 hE, RdL.ofBox k3 hL, by show bkE st ≤ _; omega, by show bkL st ≤ _; omega, kw hk'⟩
theorem RdE.ofOwn {w : World} {base : Nat} {a : Option Addr} {n c : Nat} {es : List En} (h : Own 92 4 w base a c n (enL es)) (hl : es.length = n) : RdE w ⟨a, n, c⟩ es := ⟨Own.rows h (enL_c es) (by omega), hl, h.cap0⟩
theorem RdL.ofOwn {w : World} {base : Nat} {a : Option Addr} {n c : Nat} {es : List La} (h : Own 94 7 w base a c n (laL es)) (hl : es.length = n) : RdL w ⟨a, n, c⟩ es := ⟨Own.rows h (laL_c es) (by omega), hl, h.cap0⟩
theorem Kr.bkt {K : Src} {w0 w w' : World} {s s' : Wi.RS × Bool} {l : List (Nat × TypeId × Array Value)} {a1 a3 : Option Addr} {m c1 q c3 : Nat} {vs us : List Value} (h : Kr K w0 w s l) (hS : K.St w' s') (hk : Kept K.Wr w w')
    (hoE : Own 92 4 w' w.heap.size a1 c1 m vs) (hoL : Own 94 7 w' w.heap.size a3 c3 q us) : Kr (lsSrc (lsSrc K 92 4 w.heap.size a1 m c1 vs) 94 7 w.heap.size a3 q c3 us) w0 w' s' l := by
  have H := h.call (v := undef) ⟨rfl, hS, hk⟩
  refine ⟨H.fq, ⟨⟨hS, hoE, fun k e e2 => ?_⟩, hoL, fun k e e2 => ?_⟩, fun i g T cs hi e => ?_⟩
  · have := hoE.base e; have := K.lt h.st k e2; omega
  · rcases e2 with e2 | e2
    · have := hoL.base e; have := K.lt h.st k e2; omega
    · obtain ⟨x, hx⟩ := own_typ hoE e2
      obtain ⟨y, hy⟩ := own_typ hoL e
      have := cells_ty hx hy
      cases this
  · have hlt := (h.fq.box i g T cs hi).lt
    rcases e with (e | e) | e
    · exact H.out i g T cs hi e
    · have := hoE.base e; omega
    · have := hoL.base e; omega
theorem r_PkK2 (st : Wi.RS) (m q : Nat) (a1 : Option Addr) (c1 : Nat) (a3 : Option Addr) (c3 : Nat) (c : Cg) (zs : List Int) (w : World) (hc : CgIn w c zs) (hE : RdE w ⟨a1, m, c1⟩ (rkE st m)) (hL : RdL w ⟨a3, q, c3⟩ (rkL st m q)) (hm : m ≤ 131073) (hq : q ≤ 131073) :
    Calls Tryz.prog 34 #[.agg (Bv.cells ⟨Wi.nV st, ⟨a1, m, c1⟩, ⟨a3, q, c3⟩⟩), .agg (Cg.cells c)] w (EncO w (jdg (cfgP c zs) (rkP c.bl c.rm st m q) 1) (encR (cfgP c zs && rkP c.bl c.rm st m q) (rkI st m q))) :=
  r_PkK ⟨Wi.nV st, ⟨a1, m, c1⟩, ⟨a3, q, c3⟩⟩ (rkE st m) (rkL st m q) c zs w hc ⟨hE, hL, by show m ≤ _; omega, by show q ≤ _; omega⟩
theorem rkI_ok {B rm : Int} {st : Wi.RS} {i j : Nat} (hB : 0 ≤ B ∧ B ≤ 4096) (hr : rm ≤ 256) (h : rkP B rm st i j = true) : okL (rkI st i j) := (bktIts_ok hB hr (ensL_len _ _) (lasL_len _ _) h).1
theorem room_of {ys : List Int} (h8 : Wi.U8 ys) (ho : ((Wi.openOf ys).2 == 0) = true) : room (.ok (Wi.openOf ys).1 0) 131072 := fun zs a e => by
  injection e with e1 _
  rw [← e1]; exact (open_form h8 (eq_of_beq ho)).2
set_option maxRecDepth 100000 in
set_option maxHeartbeats 4000000 in
theorem r_ReadK (x : Sl) (ys : List Int) (c : Cg) (zs : List Int) (w : World) (hc : CgIn w c zs) (hx : Wi.Sl w x.a x.l x.k ys) : Calls Tryz.prog 79 #[x.v, .agg (Cg.cells c)] w (BckO w (outK (cfgP c zs) ys (goodK c.bl c.rm (.ok (Wi.openOf ys).1 0)) (bkE (.ok (Wi.openOf ys).1 0)) (bkL (.ok (Wi.openOf ys).1 0)))) := by
  refine hidC fun C HC => ?_
  have HCg : Hid (CgIn w c zs) := hc
  have HX : Hid (Wi.Sl w x.a x.l x.k ys) := hx
  clear hc hx
  have HF : Hid (Fq No w w []) := Fq.start _ _
  go_enter Tryz.func79, Tryz.ntmps79
  go_upto_region 0 with fail
  refine WL.start <| xB (Cg.cells c) HF fun g1 w2 HF => xA (Bv.cells bvZ) Z43 HF fun g3 w4 HF => tK (.int .i64 0) <| WL.nil <| ?_
  try simp only [pS]
  go_upto_region 1 with fail
  refine WL.start <| tK (x.v) <| lP (Cg.cs c) HF 0 0 U24 S24 (Cg.cs c) rfl <| ?_
  try simp only [pS]
  refine wp_callW 147 #[x.v, .agg (Cg.cells c)] (by kernel_rfl) _ (r_opened x ys c zs _ (HCg.out.no HF.out.kept) (HX.out.no (wk HF.out.kept))) (by kernel_rfl) ?_
  rintro e w5 ⟨hk, hcase⟩
  rcases hcase with ⟨h1, rfl⟩ | ⟨h1, h2, rfl⟩ | ⟨h1, h2, i, g, ba, bc, rfl, hS, hI⟩
  ·skip
   refine ⟨_, rfl, ?_⟩
   try simp only [pS]
   have HF : Hid (Fq No w w5 [(g1, 24, Cg.cells c), (g3, 43, Bv.cells bvZ)]) := HF.out.no hk
   clear hk
   refine tK (.tuple #[.pointer none, .int .i64 20]) <| tK (.pointer none) <| tK (.int .i64 20) <| tK (.pointer none) <| tK (.int .i64 20) <| WL.nil <| ?_
   try simp only [pS]
   go_upto_region 2 with fail
   refine WL.start <| tK (.int .i64 20) <| bN (nI0 (show ((20 : Int) == 0) = false by decide)) <| WL.nil <| ?_
   try simp only [pS]
   go_upto_region 3 with fail
   refine WL.start <| bD (Bv.cells bvZ) <| tK (.int .i64 20) <| sB (Bv.cs bvZ) (Bv.cs bvZ) HF 1 0 (v := .agg (Bv.cells bvZ)) rfl S43 (Bv.oneL _) (Bv.cs bvZ) rfl fun w6 HF => tK (.int .i64 20) <| WL.nil <| ?_
   try simp only [pS]
   have hv : outK (cfgP c zs) ys (goodK c.bl c.rm (.ok (Wi.openOf ys).1 0)) (bkE (.ok (Wi.openOf ys).1 0)) (bkL (.ok (Wi.openOf ys).1 0)) = (0, [], [], 20) := by simp only [outK, h1, cond_true, cond_false, Bool.not_true, Bool.not_false, Bool.and_true, Bool.and_false, Bool.true_and, Bool.false_and]
   go_wp2
   rw [HC.out, hv]
   refine bodyPost_ret (Wi.results_row_tmp (by rfl) _ _ g3 (Bv.cells bvZ) (by rfl) (run_load_part (cs := Bv.cs bvZ) (sub := Bv.cs bvZ) (HF.out.box 1 _ _ _ rfl) (Part.all _) U43 rfl S43)) rfl ?_
   exact ⟨slZ, slZ, rfl, RdE.nilS _, RdL.nilS _, Nat.zero_le _, Nat.zero_le _, HF.out.kept⟩
  ·skip
   refine ⟨_, rfl, ?_⟩
   try simp only [pS]
   have HF : Hid (Fq No w w5 [(g1, 24, Cg.cells c), (g3, 43, Bv.cells bvZ)]) := HF.out.no hk
   clear hk
   refine tK (.tuple #[.pointer none, .int .i64 ((Wi.openOf ys).2)]) <| tK (.pointer none) <| tK (.int .i64 ((Wi.openOf ys).2)) <| tK (.pointer none) <| tK (.int .i64 ((Wi.openOf ys).2)) <| WL.nil <| ?_
   try simp only [pS]
   go_upto_region 2 with fail
   refine WL.start <| tK (.int .i64 ((Wi.openOf ys).2)) <| bN (nI0 h2) <| WL.nil <| ?_
   try simp only [pS]
   go_upto_region 3 with fail
   refine WL.start <| bD (Bv.cells bvZ) <| tK (.int .i64 ((Wi.openOf ys).2)) <| sB (Bv.cs bvZ) (Bv.cs bvZ) HF 1 0 (v := .agg (Bv.cells bvZ)) rfl S43 (Bv.oneL _) (Bv.cs bvZ) rfl fun w7 HF => tK (.int .i64 ((Wi.openOf ys).2)) <| WL.nil <| ?_
   try simp only [pS]
   have hv : outK (cfgP c zs) ys (goodK c.bl c.rm (.ok (Wi.openOf ys).1 0)) (bkE (.ok (Wi.openOf ys).1 0)) (bkL (.ok (Wi.openOf ys).1 0)) = (0, [], [], ((Wi.openOf ys).2)) := by simp only [outK, h1, h2, cond_true, cond_false, Bool.not_true, Bool.not_false, Bool.and_true, Bool.and_false, Bool.true_and, Bool.false_and]
   go_wp2
   rw [HC.out, hv]
   refine bodyPost_ret (Wi.results_row_tmp (by rfl) _ _ g3 (Bv.cells bvZ) (by rfl) (run_load_part (cs := Bv.cs bvZ) (sub := Bv.cs bvZ) (HF.out.box 1 _ _ _ rfl) (Part.all _) U43 rfl S43)) rfl ?_
   exact ⟨slZ, slZ, rfl, RdE.nilS _, RdL.nilS _, Nat.zero_le _, Nat.zero_le _, HF.out.kept⟩
  ·skip
   refine ⟨_, rfl, ?_⟩
   try simp only [pS]
   have HW : Hid (∀ k, (inSrc i g ba bc (Wi.openOf ys).1).Wr k → w.heap.size ≤ k) := fun k e => Nat.le_trans HF.out.kept.size (hI k (.inr (.inl e)))
   have HF : Hid (Kr (inSrc i g ba bc (Wi.openOf ys).1) w w5 (.ok (Wi.openOf ys).1 0, false) [(g1, 24, Cg.cells c), (g3, 43, Bv.cells bvZ)]) := Kr.from (HF.out.no hk) hS (fun j g' T cs hj e => by have := hI _ e; have := (HF.out.box j g' T cs hj).lt; omega)
   clear hk hS hI
   refine tK (.tuple #[.pointer (some ⟨i, 0, none⟩), .int .i64 0]) <| tK (pg i 0) <| tK (.int .i64 0) <| tK (pg i 0) <| tK (.int .i64 0) <| WL.nil <| ?_
   try simp only [pS]
   go_upto_region 2 with fail
   refine WL.start <| tK (.int .i64 0) <| bN (nI1 (show ((0 : Int) == 0) = true by decide)) <| WL.nil <| ?_
   try simp only [pS]
   go_upto_region 4 with fail
   refine WL.start <| tK (pg i 0) <| ?_
   try simp only [pS]
   refine wp_callW 156 #[.pointer (some ⟨i, 0, none⟩)] (by kernel_rfl) _ (r_rbkt HF.out.st (show uR (.ok (Wi.openOf ys).1 0) from open_u8 HX.out.u8) (room_of HX.out.u8 h2)) (by kernel_rfl) ?_
   rintro e w8 ⟨N, M, m, q, a1, c1, a3, c3, hN, hM, hi1, hj1, hm, hq, hei, hej, rfl, hS, hk, hoE, hoL⟩
   refine ⟨_, rfl, ?_⟩
   try simp only [pS]
   have HF : Hid (Kr (lsSrc (lsSrc (inSrc i g ba bc (Wi.openOf ys).1) 92 4 w5.heap.size a1 m c1 (enL (rkE (.ok (Wi.openOf ys).1 0) m))) 94 7 w5.heap.size a3 q c3 (laL (rkL (.ok (Wi.openOf ys).1 0) m q))) w w8 ((rkS (.ok (Wi.openOf ys).1 0) m q), false) [(g1, 24, Cg.cells c), (g3, 43, Bv.cells bvZ)]) := Kr.bkt HF.out hS hk hoE hoL
   clear hS hk hoE hoL
   have HG2 : Hid _ := rk_good (B := c.bl) (rm := c.rm) (ys := ys) (body := (Wi.openOf ys).1) (by have := (cfgP_bd h1).2; omega) HX.out.u8 (eq_of_beq h2) rfl hN hM hi1 hj1 hei hej
   have HG3 : Hid (goodK c.bl c.rm (.ok (Wi.openOf ys).1 0) = ((Wi.errS (rkS (.ok (Wi.openOf ys).1 0) m q)).2 == 0 && (!Wi.moreS (rkS (.ok (Wi.openOf ys).1 0) m q) && ((jdg (cfgP c zs) (rkP c.bl c.rm (.ok (Wi.openOf ys).1 0) m q) 1 == 0) && decide (encR (cfgP c zs && rkP c.bl c.rm (.ok (Wi.openOf ys).1 0) m q) (rkI (.ok (Wi.openOf ys).1 0) m q) = ys))))) := by
     show _ = _
     rw [HG2.out.1, h1]
     cases rkP c.bl c.rm (.ok (Wi.openOf ys).1 0) m q <;> rfl
   clear hN hM hi1 hj1 hei hej
   refine rA (Bv.cells bvZ) Z43 HF fun g9 w10 HF => ?_
   try simp only [pS]
   have HF : Hid (Kr (lsSrc (lsSrc (inSrc i g ba bc (Wi.openOf ys).1) 92 4 w5.heap.size a1 m c1 (enL (rkE (.ok (Wi.openOf ys).1 0) m))) 94 7 w5.heap.size a3 q c3 (laL (rkL (.ok (Wi.openOf ys).1 0) m q))) w w10 ((rkS (.ok (Wi.openOf ys).1 0) m q), false) [(g1, 24, Cg.cells c), (g3, 43, Bv.cells bvZ), (g9, 43, Bv.cells bvZ)]) := HF
   refine rW (Bv.cs (⟨Wi.nV (.ok (Wi.openOf ys).1 0), ⟨a1, m, c1⟩, ⟨a3, q, c3⟩⟩)) (Bv.cs (⟨Wi.nV (.ok (Wi.openOf ys).1 0), ⟨a1, m, c1⟩, ⟨a3, q, c3⟩⟩)) HF 2 0 (v := .agg (Bv.cells (⟨Wi.nV (.ok (Wi.openOf ys).1 0), ⟨a1, m, c1⟩, ⟨a3, q, c3⟩⟩))) rfl S43 (Bv.oneL _) (Bv.cs bvZ) rfl fun w11 HF => ?_
   try simp only [pS]
   have HF : Hid (Kr (lsSrc (lsSrc (inSrc i g ba bc (Wi.openOf ys).1) 92 4 w5.heap.size a1 m c1 (enL (rkE (.ok (Wi.openOf ys).1 0) m))) 94 7 w5.heap.size a3 q c3 (laL (rkL (.ok (Wi.openOf ys).1 0) m q))) w w11 ((rkS (.ok (Wi.openOf ys).1 0) m q), false) [(g1, 24, Cg.cells c), (g3, 43, Bv.cells bvZ), (g9, 43, Bv.cells (⟨Wi.nV (.ok (Wi.openOf ys).1 0), ⟨a1, m, c1⟩, ⟨a3, q, c3⟩⟩))]) := HF
   refine WL.nil <| ?_
   try simp only [pS]
   go_upto_region 5 with fail
   refine WL.start <| rP (Bv.cs (⟨Wi.nV (.ok (Wi.openOf ys).1 0), ⟨a1, m, c1⟩, ⟨a3, q, c3⟩⟩)) HF 2 0 U43 S43 (Bv.cs (⟨Wi.nV (.ok (Wi.openOf ys).1 0), ⟨a1, m, c1⟩, ⟨a3, q, c3⟩⟩)) rfl <| rP (Cg.cs c) HF 0 0 U24 S24 (Cg.cs c) rfl <| rEn (r_PkK2 (.ok (Wi.openOf ys).1 0) m q a1 c1 a3 c3 c zs _ (HCg.out.no (HF.out.keptNo HW.out)) (RdE.ofOwn HF.out.st.1.2.1 (ensL_len _ _)) (RdL.ofOwn HF.out.st.2.1 (lasL_len _ _)) hm hq) HF fun p12 w13 HF hkk HP hp => ?_
   try simp only [pS]
   have HF : Hid (Kr (lsSrc (lsSrc (inSrc i g ba bc (Wi.openOf ys).1) 92 4 w5.heap.size a1 m c1 (enL (rkE (.ok (Wi.openOf ys).1 0) m))) 94 7 w5.heap.size a3 q c3 (laL (rkL (.ok (Wi.openOf ys).1 0) m q))) w w13 ((rkS (.ok (Wi.openOf ys).1 0) m q), false) [(g1, 24, Cg.cells c), (g3, 43, Bv.cells bvZ), (g9, 43, Bv.cells (⟨Wi.nV (.ok (Wi.openOf ys).1 0), ⟨a1, m, c1⟩, ⟨a3, q, c3⟩⟩))]) := HF
   refine tK (.tuple #[p12.v, .int .i64 (jdg (cfgP c zs) (rkP c.bl c.rm (.ok (Wi.openOf ys).1 0) m q) 1)]) <| tK (p12.v) <| tK (.int .i64 (jdg (cfgP c zs) (rkP c.bl c.rm (.ok (Wi.openOf ys).1 0) m q) 1)) <| tK (p12.v) <| tK (.int .i64 (jdg (cfgP c zs) (rkP c.bl c.rm (.ok (Wi.openOf ys).1 0) m q) 1)) <| WL.nil <| ?_
   try simp only [pS]
   go_upto_region 6 with fail
   refine WL.start <| tK (pg i 0) <| tK (pg i 0) <| tK (pg i 0) <| lR (load_one (Src.pt _ HF.out.st) U170 rfl) <| tK (pg g 0) <| tK (pg g 2) <| lR (load_one (inErr HF.out.st.1.1) U3 rfl) <| ?_
   try simp only [pS]
   cases q1 : (((Wi.errS (rkS (.ok (Wi.openOf ys).1 0) m q)).2) == 0)
   ·skip
    refine bN (nI0 q1) <| tK (.bool true) <| sK <| sK <| sK <| sK <| sK <| tK (.bool true) <| tK (.bool true) <| sK <| sK <| tK (.bool true) <| tK (.bool true) <| sK <| sK <| sK <| sK <| tK (.bool true) <| WL.nil <| ?_
    try simp only [pS]
    go_upto_region 7 with fail
    refine WL.start <| bD (Bv.cells bvZ) <| rW (Bv.cs bvZ) (Bv.cs bvZ) HF 1 0 (v := .agg (Bv.cells bvZ)) rfl S43 (Bv.oneL _) (Bv.cs bvZ) rfl fun w14 HF => ?_
    try simp only [pS]
    have HF : Hid (Kr (lsSrc (lsSrc (inSrc i g ba bc (Wi.openOf ys).1) 92 4 w5.heap.size a1 m c1 (enL (rkE (.ok (Wi.openOf ys).1 0) m))) 94 7 w5.heap.size a3 q c3 (laL (rkL (.ok (Wi.openOf ys).1 0) m q))) w w14 ((rkS (.ok (Wi.openOf ys).1 0) m q), false) [(g1, 24, Cg.cells c), (g3, 43, Bv.cells bvZ), (g9, 43, Bv.cells (⟨Wi.nV (.ok (Wi.openOf ys).1 0), ⟨a1, m, c1⟩, ⟨a3, q, c3⟩⟩))]) := HF
    refine tK (.int .i64 11) <| WL.nil <| ?_
    try simp only [pS]
    have hgd : goodK c.bl c.rm (.ok (Wi.openOf ys).1 0) = false := by rw [HG3.out]; simp only [q1, cond_true, cond_false, Bool.not_true, Bool.not_false, Bool.and_true, Bool.and_false, Bool.true_and, Bool.false_and]
    have hv : outK (cfgP c zs) ys (goodK c.bl c.rm (.ok (Wi.openOf ys).1 0)) (bkE (.ok (Wi.openOf ys).1 0)) (bkL (.ok (Wi.openOf ys).1 0)) = (0, [], [], 11) := by rw [hgd]; simp only [outK, h1, h2, cond_true, cond_false, Bool.not_true, Bool.not_false, Bool.and_true, Bool.and_false, Bool.true_and, Bool.false_and]
    go_wp2
    rw [HC.out, hv]
    refine bodyPost_ret (Wi.results_row_tmp (by rfl) _ _ g3 (Bv.cells bvZ) (by rfl) (run_load_part (cs := Bv.cs bvZ) (sub := Bv.cs bvZ) (HF.out.fq.box 1 _ _ _ rfl) (Part.all _) U43 rfl S43)) rfl ?_
    exact ⟨slZ, slZ, rfl, RdE.nilS _, RdL.nilS _, Nat.zero_le _, Nat.zero_le _, HF.out.keptNo HW.out⟩
   refine bN (nI1 q1) <| tK (.bool false) <| tK (pg i 0) <| tK (pg i 0) <| tK (pg i 0) <| lR (load_one (Src.pt _ HF.out.st) U170 rfl) <| ?_
   try simp only [pS]
   cases q2 : (Wi.moreS (rkS (.ok (Wi.openOf ys).1 0) m q))
   rotate_left
   ·skip
    refine rcB (inMore HF.out.st.1.1) q2 HF fun w21 HF hkk => ?_
    try simp only [pS]
    replace HP : Hid _ := HP.out.no hkk.out
    have HF : Hid (Kr (lsSrc (lsSrc (inSrc i g ba bc (Wi.openOf ys).1) 92 4 w5.heap.size a1 m c1 (enL (rkE (.ok (Wi.openOf ys).1 0) m))) 94 7 w5.heap.size a3 q c3 (laL (rkL (.ok (Wi.openOf ys).1 0) m q))) w w21 ((rkS (.ok (Wi.openOf ys).1 0) m q), false) [(g1, 24, Cg.cells c), (g3, 43, Bv.cells bvZ), (g9, 43, Bv.cells (⟨Wi.nV (.ok (Wi.openOf ys).1 0), ⟨a1, m, c1⟩, ⟨a3, q, c3⟩⟩))]) := HF
    refine tK (.bool true) <| tK (.bool true) <| sK <| sK <| tK (.bool true) <| tK (.bool true) <| sK <| sK <| sK <| sK <| tK (.bool true) <| WL.nil <| ?_
    try simp only [pS]
    go_upto_region 7 with fail
    refine WL.start <| bD (Bv.cells bvZ) <| rW (Bv.cs bvZ) (Bv.cs bvZ) HF 1 0 (v := .agg (Bv.cells bvZ)) rfl S43 (Bv.oneL _) (Bv.cs bvZ) rfl fun w22 HF => ?_
    try simp only [pS]
    have HF : Hid (Kr (lsSrc (lsSrc (inSrc i g ba bc (Wi.openOf ys).1) 92 4 w5.heap.size a1 m c1 (enL (rkE (.ok (Wi.openOf ys).1 0) m))) 94 7 w5.heap.size a3 q c3 (laL (rkL (.ok (Wi.openOf ys).1 0) m q))) w w22 ((rkS (.ok (Wi.openOf ys).1 0) m q), false) [(g1, 24, Cg.cells c), (g3, 43, Bv.cells bvZ), (g9, 43, Bv.cells (⟨Wi.nV (.ok (Wi.openOf ys).1 0), ⟨a1, m, c1⟩, ⟨a3, q, c3⟩⟩))]) := HF
    refine tK (.int .i64 11) <| WL.nil <| ?_
    try simp only [pS]
    have hgd : goodK c.bl c.rm (.ok (Wi.openOf ys).1 0) = false := by rw [HG3.out]; simp only [q1, q2, cond_true, cond_false, Bool.not_true, Bool.not_false, Bool.and_true, Bool.and_false, Bool.true_and, Bool.false_and]
    have hv : outK (cfgP c zs) ys (goodK c.bl c.rm (.ok (Wi.openOf ys).1 0)) (bkE (.ok (Wi.openOf ys).1 0)) (bkL (.ok (Wi.openOf ys).1 0)) = (0, [], [], 11) := by rw [hgd]; simp only [outK, h1, h2, cond_true, cond_false, Bool.not_true, Bool.not_false, Bool.and_true, Bool.and_false, Bool.true_and, Bool.false_and]
    go_wp2
    rw [HC.out, hv]
    refine bodyPost_ret (Wi.results_row_tmp (by rfl) _ _ g3 (Bv.cells bvZ) (by rfl) (run_load_part (cs := Bv.cs bvZ) (sub := Bv.cs bvZ) (HF.out.fq.box 1 _ _ _ rfl) (Part.all _) U43 rfl S43)) rfl ?_
    exact ⟨slZ, slZ, rfl, RdE.nilS _, RdL.nilS _, Nat.zero_le _, Nat.zero_le _, HF.out.keptNo HW.out⟩
   refine rcB (inMore HF.out.st.1.1) q2 HF fun w15 HF hkk => ?_
   try simp only [pS]
   replace HP : Hid _ := HP.out.no hkk.out
   have HF : Hid (Kr (lsSrc (lsSrc (inSrc i g ba bc (Wi.openOf ys).1) 92 4 w5.heap.size a1 m c1 (enL (rkE (.ok (Wi.openOf ys).1 0) m))) 94 7 w5.heap.size a3 q c3 (laL (rkL (.ok (Wi.openOf ys).1 0) m q))) w w15 ((rkS (.ok (Wi.openOf ys).1 0) m q), false) [(g1, 24, Cg.cells c), (g3, 43, Bv.cells bvZ), (g9, 43, Bv.cells (⟨Wi.nV (.ok (Wi.openOf ys).1 0), ⟨a1, m, c1⟩, ⟨a3, q, c3⟩⟩))]) := HF
   refine tK (.bool false) <| tK (.bool false) <| tK (.int .i64 (jdg (cfgP c zs) (rkP c.bl c.rm (.ok (Wi.openOf ys).1 0) m q) 1)) <| ?_
   try simp only [pS]
   cases q3 : ((jdg (cfgP c zs) (rkP c.bl c.rm (.ok (Wi.openOf ys).1 0) m q) 1) == 0)
   ·skip
    refine bN (nI0 q3) <| tK (.bool true) <| tK (.bool true) <| sK <| sK <| sK <| sK <| tK (.bool true) <| WL.nil <| ?_
    try simp only [pS]
    go_upto_region 7 with fail
    refine WL.start <| bD (Bv.cells bvZ) <| rW (Bv.cs bvZ) (Bv.cs bvZ) HF 1 0 (v := .agg (Bv.cells bvZ)) rfl S43 (Bv.oneL _) (Bv.cs bvZ) rfl fun w16 HF => ?_
    try simp only [pS]
    have HF : Hid (Kr (lsSrc (lsSrc (inSrc i g ba bc (Wi.openOf ys).1) 92 4 w5.heap.size a1 m c1 (enL (rkE (.ok (Wi.openOf ys).1 0) m))) 94 7 w5.heap.size a3 q c3 (laL (rkL (.ok (Wi.openOf ys).1 0) m q))) w w16 ((rkS (.ok (Wi.openOf ys).1 0) m q), false) [(g1, 24, Cg.cells c), (g3, 43, Bv.cells bvZ), (g9, 43, Bv.cells (⟨Wi.nV (.ok (Wi.openOf ys).1 0), ⟨a1, m, c1⟩, ⟨a3, q, c3⟩⟩))]) := HF
    refine tK (.int .i64 11) <| WL.nil <| ?_
    try simp only [pS]
    have hgd : goodK c.bl c.rm (.ok (Wi.openOf ys).1 0) = false := by rw [HG3.out]; simp only [q1, q2, q3, cond_true, cond_false, Bool.not_true, Bool.not_false, Bool.and_true, Bool.and_false, Bool.true_and, Bool.false_and]
    have hv : outK (cfgP c zs) ys (goodK c.bl c.rm (.ok (Wi.openOf ys).1 0)) (bkE (.ok (Wi.openOf ys).1 0)) (bkL (.ok (Wi.openOf ys).1 0)) = (0, [], [], 11) := by rw [hgd]; simp only [outK, h1, h2, cond_true, cond_false, Bool.not_true, Bool.not_false, Bool.and_true, Bool.and_false, Bool.true_and, Bool.false_and]
    go_wp2
    rw [HC.out, hv]
    refine bodyPost_ret (Wi.results_row_tmp (by rfl) _ _ g3 (Bv.cells bvZ) (by rfl) (run_load_part (cs := Bv.cs bvZ) (sub := Bv.cs bvZ) (HF.out.fq.box 1 _ _ _ rfl) (Part.all _) U43 rfl S43)) rfl ?_
    exact ⟨slZ, slZ, rfl, RdE.nilS _, RdL.nilS _, Nat.zero_le _, Nat.zero_le _, HF.out.keptNo HW.out⟩
   refine bN (nI1 q3) <| tK (.bool false) <| tK (.bool false) <| tK (p12.v) <| tK (x.v) <| ?_
   try simp only [pS]
   cases q4 : (decide (encR (cfgP c zs && rkP c.bl c.rm (.ok (Wi.openOf ys).1 0) m q) (rkI (.ok (Wi.openOf ys).1 0) m q) = ys))
   ·skip
    refine rcB (r_same p12 x (encR (cfgP c zs && rkP c.bl c.rm (.ok (Wi.openOf ys).1 0) m q) (rkI (.ok (Wi.openOf ys).1 0) m q)) ys _ HP.out (HX.out.no (wk (HF.out.keptNo HW.out))) (encR_u8 (fun h => rkI_ok (cfg_bl (and_l h)) (by have := (cfgP_bd (and_l h)).2; omega) (and_r h)))) q4 HF fun w17 HF hkk => tK (.bool true) <| tK (.bool true) <| WL.nil <| ?_
    try simp only [pS]
    go_upto_region 7 with fail
    refine WL.start <| bD (Bv.cells bvZ) <| rW (Bv.cs bvZ) (Bv.cs bvZ) HF 1 0 (v := .agg (Bv.cells bvZ)) rfl S43 (Bv.oneL _) (Bv.cs bvZ) rfl fun w18 HF => ?_
    try simp only [pS]
    have HF : Hid (Kr (lsSrc (lsSrc (inSrc i g ba bc (Wi.openOf ys).1) 92 4 w5.heap.size a1 m c1 (enL (rkE (.ok (Wi.openOf ys).1 0) m))) 94 7 w5.heap.size a3 q c3 (laL (rkL (.ok (Wi.openOf ys).1 0) m q))) w w18 ((rkS (.ok (Wi.openOf ys).1 0) m q), false) [(g1, 24, Cg.cells c), (g3, 43, Bv.cells bvZ), (g9, 43, Bv.cells (⟨Wi.nV (.ok (Wi.openOf ys).1 0), ⟨a1, m, c1⟩, ⟨a3, q, c3⟩⟩))]) := HF
    refine tK (.int .i64 11) <| WL.nil <| ?_
    try simp only [pS]
    have hgd : goodK c.bl c.rm (.ok (Wi.openOf ys).1 0) = false := by rw [HG3.out]; simp only [q1, q2, q3, q4, cond_true, cond_false, Bool.not_true, Bool.not_false, Bool.and_true, Bool.and_false, Bool.true_and, Bool.false_and]
    have hv : outK (cfgP c zs) ys (goodK c.bl c.rm (.ok (Wi.openOf ys).1 0)) (bkE (.ok (Wi.openOf ys).1 0)) (bkL (.ok (Wi.openOf ys).1 0)) = (0, [], [], 11) := by rw [hgd]; simp only [outK, h1, h2, cond_true, cond_false, Bool.not_true, Bool.not_false, Bool.and_true, Bool.and_false, Bool.true_and, Bool.false_and]
    go_wp2
    rw [HC.out, hv]
    refine bodyPost_ret (Wi.results_row_tmp (by rfl) _ _ g3 (Bv.cells bvZ) (by rfl) (run_load_part (cs := Bv.cs bvZ) (sub := Bv.cs bvZ) (HF.out.fq.box 1 _ _ _ rfl) (Part.all _) U43 rfl S43)) rfl ?_
    exact ⟨slZ, slZ, rfl, RdE.nilS _, RdL.nilS _, Nat.zero_le _, Nat.zero_le _, HF.out.keptNo HW.out⟩
   refine rcB (r_same p12 x (encR (cfgP c zs && rkP c.bl c.rm (.ok (Wi.openOf ys).1 0) m q) (rkI (.ok (Wi.openOf ys).1 0) m q)) ys _ HP.out (HX.out.no (wk (HF.out.keptNo HW.out))) (encR_u8 (fun h => rkI_ok (cfg_bl (and_l h)) (by have := (cfgP_bd (and_l h)).2; omega) (and_r h)))) q4 HF fun w19 HF hkk => tK (.bool false) <| tK (.bool false) <| WL.nil <| ?_
   try simp only [pS]
   go_upto_region 8 with fail
   refine WL.start <| rP (Bv.cs (⟨Wi.nV (.ok (Wi.openOf ys).1 0), ⟨a1, m, c1⟩, ⟨a3, q, c3⟩⟩)) HF 2 0 U43 S43 (Bv.cs (⟨Wi.nV (.ok (Wi.openOf ys).1 0), ⟨a1, m, c1⟩, ⟨a3, q, c3⟩⟩)) rfl <| rW (Bv.cs (⟨Wi.nV (.ok (Wi.openOf ys).1 0), ⟨a1, m, c1⟩, ⟨a3, q, c3⟩⟩)) (Bv.cs (⟨Wi.nV (.ok (Wi.openOf ys).1 0), ⟨a1, m, c1⟩, ⟨a3, q, c3⟩⟩)) HF 1 0 (v := .agg (Bv.cells (⟨Wi.nV (.ok (Wi.openOf ys).1 0), ⟨a1, m, c1⟩, ⟨a3, q, c3⟩⟩))) rfl S43 (Bv.oneL _) (Bv.cs bvZ) rfl fun w20 HF => ?_
   try simp only [pS]
   have HF : Hid (Kr (lsSrc (lsSrc (inSrc i g ba bc (Wi.openOf ys).1) 92 4 w5.heap.size a1 m c1 (enL (rkE (.ok (Wi.openOf ys).1 0) m))) 94 7 w5.heap.size a3 q c3 (laL (rkL (.ok (Wi.openOf ys).1 0) m q))) w w20 ((rkS (.ok (Wi.openOf ys).1 0) m q), false) [(g1, 24, Cg.cells c), (g3, 43, Bv.cells (⟨Wi.nV (.ok (Wi.openOf ys).1 0), ⟨a1, m, c1⟩, ⟨a3, q, c3⟩⟩)), (g9, 43, Bv.cells (⟨Wi.nV (.ok (Wi.openOf ys).1 0), ⟨a1, m, c1⟩, ⟨a3, q, c3⟩⟩))]) := HF
   refine tK (.int .i64 0) <| WL.nil <| ?_
   try simp only [pS]
   have hgd : goodK c.bl c.rm (.ok (Wi.openOf ys).1 0) = true := by rw [HG3.out]; simp only [q1, q2, q3, q4, cond_true, cond_false, Bool.not_true, Bool.not_false, Bool.and_true, Bool.and_false, Bool.true_and, Bool.false_and]
   obtain ⟨e1, e2⟩ := HG2.out.2 hgd
   have hv : outK (cfgP c zs) ys (goodK c.bl c.rm (.ok (Wi.openOf ys).1 0)) (bkE (.ok (Wi.openOf ys).1 0)) (bkL (.ok (Wi.openOf ys).1 0)) = (Wi.nV (.ok (Wi.openOf ys).1 0), rkE (.ok (Wi.openOf ys).1 0) m, rkL (.ok (Wi.openOf ys).1 0) m q, 0) := by rw [← e1, ← e2, hgd]; simp only [outK, h1, h2, cond_true, cond_false, Bool.not_true, Bool.not_false, Bool.and_true, Bool.and_false, Bool.true_and, Bool.false_and]
   go_wp2
   rw [HC.out, hv]
   refine bodyPost_ret (Wi.results_row_tmp (by rfl) _ _ g3 (Bv.cells (⟨Wi.nV (.ok (Wi.openOf ys).1 0), ⟨a1, m, c1⟩, ⟨a3, q, c3⟩⟩)) (by rfl) (run_load_part (cs := Bv.cs (⟨Wi.nV (.ok (Wi.openOf ys).1 0), ⟨a1, m, c1⟩, ⟨a3, q, c3⟩⟩)) (sub := Bv.cs (⟨Wi.nV (.ok (Wi.openOf ys).1 0), ⟨a1, m, c1⟩, ⟨a3, q, c3⟩⟩)) (HF.out.fq.box 1 _ _ _ rfl) (Part.all _) U43 rfl S43)) rfl ?_
   exact ⟨⟨a1, m, c1⟩, ⟨a3, q, c3⟩, rfl, RdE.ofOwn HF.out.st.1.2.1 (ensL_len _ _), RdL.ofOwn HF.out.st.2.1 (lasL_len _ _), by show m ≤ _; omega, by show q ≤ _; omega, HF.out.keptNo HW.out⟩
theorem slLent {w w' : World} {g : Nat} {x : Sl} {ys : List Int} (hb : Box w' g 5 (u8L (ys ++ mk3 3)).toArray) (h : Wi.Sl w x.a x.l x.k ys) : Wi.Sl w' (some ⟨g, 0, none⟩) x.l (x.l + 3) ys :=
  ⟨h.len, (RdB.lent (k := x.l + 3) hb h.len).row, h.u8, by omega, by have := h.bd; omega, h.bd, fun e => by cases e⟩
section
variable {ops : Array Oper} {rest : List Oper} {o : Oper} {a : Act} {w : World} {Q : Exit → Act → World → Prop} {S : Nat → Prop} {w0 : World} {l : List (Nat × TypeId × Array Value)}
theorem cBlk {f : FuncId} {args : Array Value} {r : Sp × List Int × Int} (hc : Calls Tryz.prog f args w (BlkO w r)) (HF : Hid (Fq S w0 w l))
    (h : ∀ (s : Sl) w', Hid (Fq S w0 w' l) → Hid (RdB w' s r.2.1) → s.l ≤ 281474976710656 → WL ops Q rest (a.put o.dst (.tuple #[.agg (Bl.cells ⟨r.1, s⟩), .int .i64 r.2.2])) w') (hrun : (execOp a.eval o).run Tryz.prog w = .ok (.enter f args) w := by kernel_rfl) (hw : Region.wanted o (yielded ops a.tmps) = true := by kernel_rfl) : WL ops Q (o :: rest) a w :=
  wp_callW f args hrun _ hc hw (by rintro e w' ⟨s, rfl, h1, h2, hk⟩; exact ⟨_, rfl, h s w' (HF.out.no hk) h1 h2⟩)
theorem cIns {f : FuncId} {args : Array Value} {r : In × Int} (hc : Calls Tryz.prog f args w (InsO w r)) (HF : Hid (Fq S w0 w l))
    (h : ∀ w', Hid (Fq S w0 w' l) → WL ops Q rest (a.put o.dst (.tuple #[.agg (In.cells r.1), .int .i64 r.2])) w') (hrun : (execOp a.eval o).run Tryz.prog w = .ok (.enter f args) w := by kernel_rfl) (hw : Region.wanted o (yielded ops a.tmps) = true := by kernel_rfl) : WL ops Q (o :: rest) a w :=
  wp_callW f args hrun _ hc hw (by rintro e w' ⟨rfl, hk⟩; exact ⟨_, rfl, h w' (HF.out.no hk)⟩)
theorem cBck {f : FuncId} {args : Array Value} {r : Int × List En × List La × Int} (hc : Calls Tryz.prog f args w (BckO w r)) (HF : Hid (Fq S w0 w l))
    (h : ∀ (x y : Sl) w', Hid (Fq S w0 w' l) → Hid (RdE w' x r.2.1 ∧ RdL w' y r.2.2.1) → x.l ≤ 281474976710656 → y.l ≤ 281474976710656 → WL ops Q rest (a.put o.dst (.tuple #[.agg (Bv.cells ⟨r.1, x, y⟩), .int .i64 r.2.2.2])) w') (hrun : (execOp a.eval o).run Tryz.prog w = .ok (.enter f args) w := by kernel_rfl) (hw : Region.wanted o (yielded ops a.tmps) = true := by kernel_rfl) : WL ops Q (o :: rest) a w :=
  wp_callW f args hrun _ hc hw (by rintro e w' ⟨x, y, rfl, h1, h2, h3, h4, hk⟩; exact ⟨_, rfl, h x y w' (HF.out.no hk) ⟨h1, h2⟩ h3 h4⟩)
end
theorem flds78 : (Tryz.prog.fieldsOf 78).toList = [fld "Promised" 34 0 0, fld "Accepted" 34 2 16, fld "Command" 39 4 32, fld "Decided" 4 13 112] := by kernel_rfl
theorem eqIn_self (x : In) (w : World) : (Op.equalIn 10000 78 (.agg (In.cells x)) (.agg (In.cells x))).run Tryz.prog w = .ok true w := by
  have h0 : ∀ (w : World), (part 34 (In.cells x) 0).run Tryz.prog w = .ok (.agg (Sp.cells x.p)) w := fun w => by kernel_rfl
  have h1 : ∀ (w : World), (part 34 (In.cells x) 2).run Tryz.prog w = .ok (.agg (Sp.cells x.a)) w := fun w => by kernel_rfl
  have h2 : ∀ (w : World), (part 39 (In.cells x) 4).run Tryz.prog w = .ok (.agg (Cm.cells x.c)) w := fun w => by kernel_rfl
  have h3 : ∀ (w : World), (part 4 (In.cells x) 13).run Tryz.prog w = .ok (.bool x.d) w := fun w => by kernel_rfl
  have g1 : ∀ (a : Sp) (w : World), (Op.equalIn 9999 34 (.agg (Sp.cells a)) (.agg (Sp.cells a))).run Tryz.prog w = .ok true w := fun a w => by rw [show (9999 : Nat) = 9997 + 2 from rfl, eq25 9997, eqS_refl]
  have g2 : ∀ (a : Cm) (w : World), (Op.equalIn 9999 39 (.agg (Cm.cells a)) (.agg (Cm.cells a))).run Tryz.prog w = .ok true w := fun a w => by rw [show (9999 : Nat) = 9996 + 3 from rfl, eq47 9996, eqC_refl]
  have g3 : ∀ (b : Bool) (w : World), (Op.equalIn 9999 4 (.bool b) (.bool b)).run Tryz.prog w = .ok true w := fun b w => by rw [show (9999 : Nat) = 9998 + 1 from rfl, run_equalIn_bool' w 9998 4 b b (by kernel_rfl), beq_self_eq_true]
  rw [show (10000 : Nat) = 9999 + 1 from rfl, run_equalIn_struct w 9999 78 _ _ U78 (by kernel_rfl), flds78]
  simp [Op.eqFields, fld, h0, h1, h2, h3, g1, g2, g3, Result.andThen]
theorem neqIn0 (x : In) (w : World) : (binOp .neq 78 (.agg (In.cells x)) (.agg (In.cells x))).run Tryz.prog w = .ok (.bool false) w := by
  rw [run_neq_struct, eqIn_self]; rfl
set_option maxRecDepth 100000 in
set_option maxHeartbeats 4000000 in
theorem readWalk (x : Sl) (ys : List Int) (c : Cg) (zs : List Int) (w : World) (hc : CgIn w c zs) (hx : Wi.Sl w x.a x.l x.k ys) : Calls Tryz.prog 35 #[x.v, .agg (Cg.cells c)] w (fun e w' => e = .returned (.bool true) ∧ Kept No w w') := by
  refine hidC fun C HC => ?_
  have HCg : Hid (CgIn w c zs) := hc
  have HX : Hid (Wi.Sl w x.a x.l x.k ys) := hx
  clear hc hx
  obtain ⟨PB, hPB⟩ : ∃ P, outB (cfgP c zs) ys (Wi.wholeB false (blkS (.ok (Wi.openOf ys).1 0)) && blkP c.bl (.ok (Wi.openOf ys).1 0)) = P := ⟨_, rfl⟩
  obtain ⟨PI, hPI⟩ : ∃ P, outI (cfgP c zs) ys (Wi.wholeB (Wi.fO false (cmS (Wi.aS (Wi.aS (.ok (Wi.openOf ys).1 0))))) (inS (.ok (Wi.openOf ys).1 0)) && insP c.bl (inV (.ok (Wi.openOf ys).1 0))) = P := ⟨_, rfl⟩
  obtain ⟨PK, hPK⟩ : ∃ P, outK (cfgP c zs) ys (goodK c.bl c.rm (.ok (Wi.openOf ys).1 0)) (bkE (.ok (Wi.openOf ys).1 0)) (bkL (.ok (Wi.openOf ys).1 0)) = P := ⟨_, rfl⟩
  have HpB : ∀ (y : Sl) W, CgIn W c zs → Wi.Sl W y.a y.l y.k ys → Calls Tryz.prog 74 #[y.v, .agg (Cg.cells c)] W (BlkO W PB) := fun y W h1 h2 => by rw [← hPB]; exact p_ReadB y ys c zs W h1 h2
  have HrB : ∀ (y : Sl) W, CgIn W c zs → Wi.Sl W y.a y.l y.k ys → Calls Tryz.prog 75 #[y.v, .agg (Cg.cells c)] W (BlkO W PB) := fun y W h1 h2 => by rw [← hPB]; exact r_ReadB y ys c zs W h1 h2
  have HpI : ∀ (y : Sl) W, CgIn W c zs → Wi.Sl W y.a y.l y.k ys → Calls Tryz.prog 76 #[y.v, .agg (Cg.cells c)] W (InsO W PI) := fun y W h1 h2 => by rw [← hPI]; exact p_ReadI0 y ys c zs W h1 h2
  have HrI : ∀ (y : Sl) W, CgIn W c zs → Wi.Sl W y.a y.l y.k ys → Calls Tryz.prog 77 #[y.v, .agg (Cg.cells c)] W (InsO W PI) := fun y W h1 h2 => by rw [← hPI]; exact r_ReadI y ys c zs W h1 h2
  have HpK : ∀ (y : Sl) W, CgIn W c zs → Wi.Sl W y.a y.l y.k ys → Calls Tryz.prog 78 #[y.v, .agg (Cg.cells c)] W (BckO W PK) := fun y W h1 h2 => by rw [← hPK]; exact p_ReadK y ys c zs W h1 h2
  have HrK : ∀ (y : Sl) W, CgIn W c zs → Wi.Sl W y.a y.l y.k ys → Calls Tryz.prog 79 #[y.v, .agg (Cg.cells c)] W (BckO W PK) := fun y W h1 h2 => by rw [← hPK]; exact r_ReadK y ys c zs W h1 h2
  clear hPB hPI hPK
  have HF : Hid (Fq No w w []) := Fq.start _ _
  go_enter Tryz.func35, Tryz.ntmps35
  go_upto_region 0 with fail
  refine WL.start <| xB (Cg.cells c) HF fun g1 w2 HF => tK (.bool false) <| WL.nil <| ?_
  try simp only [pS]
  go_upto_region 1 with fail
  refine WL.start <| tK (x.v) <| cJ (lendB x ys _ (sl_rd (HX.out.no (wk HF.out.kept))) HX.out.bd) HF fun g3 w4 HF => ?_
  try simp only [pS]
  have HX2 : Hid (Wi.Sl w4 (some ⟨g3, 0, none⟩) x.l (x.l + 3) ys) := slLent (HF.out.box 1 _ _ _ rfl) HX.out
  replace HX : Hid _ := HX.out.no (wk HF.out.kept)
  replace HCg : Hid _ := HCg.out.no HF.out.kept
  have HBg1 : Hid (Box w4 g1 24 (Cg.cells c)) := HF.out.box 0 _ _ _ rfl
  have HBg3 : Hid (Box w4 g3 5 ((u8L (ys ++ mk3 3)).toArray)) := HF.out.box 1 _ _ _ rfl
  have HKN : Hid (Kept No w w4) := HF.out.kept
  have HF : Hid (Fq No w4 w4 []) := Fq.start _ _
  refine tK (.slice (some ⟨g3, 0, none⟩) x.l (x.l + 3)) <| WL.nil <| ?_
  try simp only [pS]
  go_upto_region 2 with fail
  refine WL.start <| tK (.slice (some ⟨g3, 0, none⟩) x.l (x.l + 3)) <| lR (run_load_part (off := 0) (cs := Cg.cs c) (sub := Cg.cs c) (HBg1.out.kept HF.out.kept (fun e => e)) (part_of (by kernel_rfl)) U24 rfl S24) <| cBlk (HpB ⟨some ⟨g3, 0, none⟩, x.l, x.l + 3⟩ _ (HCg.out.no HF.out.kept) (HX2.out.no (wk HF.out.kept))) HF fun s6 w5 HF HR7 hHR7 => ?_
  try simp only [pS]
  replace HBg1 : Hid (Box w5 g1 24 (Cg.cells c)) := HBg1.out.kept HF.out.kept (fun e => e)
  replace HBg3 : Hid (Box w5 g3 5 ((u8L (ys ++ mk3 3)).toArray)) := HBg3.out.kept HF.out.kept (fun e => e)
  replace HX : Hid _ := HX.out.no (wk HF.out.kept)
  replace HX2 : Hid _ := HX2.out.no (wk HF.out.kept)
  replace HCg : Hid _ := HCg.out.no HF.out.kept
  have HKN : Hid (Kept No w w5) := HKN.out.thenNo HF.out.kept
  have HF : Hid (Fq No w5 w5 []) := Fq.start _ _
  refine tK (.tuple #[.agg (Bl.cells ⟨PB.1, s6⟩), .int .i64 PB.2.2]) <| tK (.agg (Bl.cells ⟨PB.1, s6⟩)) <| tK (.int .i64 PB.2.2) <| xA (Bl.cells blZ) Z73 HF fun g8 w9 HF => sB (Bl.cs ⟨PB.1, s6⟩) (Bl.cs ⟨PB.1, s6⟩) HF 0 0 (v := .agg (Bl.cells ⟨PB.1, s6⟩)) rfl S73 (Bl.oneL _) (Bl.cs blZ) rfl fun w10 HF => tK (.int .i64 PB.2.2) <| WL.nil <| ?_
  try simp only [pS]
  go_upto_region 3 with fail
  refine WL.start <| tK (x.v) <| lR (run_load_part (off := 0) (cs := Cg.cs c) (sub := Cg.cs c) (HBg1.out.kept HF.out.kept (fun e => e)) (part_of (by kernel_rfl)) U24 rfl S24) <| cBlk (HrB x _ (HCg.out.no HF.out.kept) (HX.out.no (wk HF.out.kept))) HF fun s12 w11 HF HR13 hHR13 => ?_
  try simp only [pS]
  replace HBg1 : Hid (Box w11 g1 24 (Cg.cells c)) := HBg1.out.kept HF.out.kept (fun e => e)
  replace HBg3 : Hid (Box w11 g3 5 ((u8L (ys ++ mk3 3)).toArray)) := HBg3.out.kept HF.out.kept (fun e => e)
  have HBg8 : Hid (Box w11 g8 73 (Bl.cells ⟨PB.1, s6⟩)) := HF.out.box 0 _ _ _ rfl
  replace HX : Hid _ := HX.out.no (wk HF.out.kept)
  replace HX2 : Hid _ := HX2.out.no (wk HF.out.kept)
  replace HCg : Hid _ := HCg.out.no HF.out.kept
  replace HR7 : Hid _ := HR7.out.no HF.out.kept
  have HKN : Hid (Kept No w w11) := HKN.out.thenNo HF.out.kept
  have HF : Hid (Fq No w11 w11 []) := Fq.start _ _
  refine tK (.tuple #[.agg (Bl.cells ⟨PB.1, s12⟩), .int .i64 PB.2.2]) <| tK (.agg (Bl.cells ⟨PB.1, s12⟩)) <| tK (.int .i64 PB.2.2) <| xA (Bl.cells blZ) Z73 HF fun g14 w15 HF => sB (Bl.cs ⟨PB.1, s12⟩) (Bl.cs ⟨PB.1, s12⟩) HF 0 0 (v := .agg (Bl.cells ⟨PB.1, s12⟩)) rfl S73 (Bl.oneL _) (Bl.cs blZ) rfl fun w16 HF => tK (.int .i64 PB.2.2) <| WL.nil <| ?_
  try simp only [pS]
  go_upto_region 4 with fail
  refine WL.start <| tK (.int .i64 PB.2.2) <| tK (.int .i64 PB.2.2) <| bN (nI1 (beq_self_eq_true (PB.2.2))) <| tK (.bool false) <| tK (pg g8 0) <| lR (run_load_part (off := 0) (cs := Bl.cs ⟨PB.1, s6⟩) (sub := Sp.cs PB.1) (HBg8.out.kept HF.out.kept (fun e => e)) (part_of (by kernel_rfl)) U34 rfl S34) <| tK (pg g14 0) <| lP (Sp.cs PB.1) HF 0 0 U34 S34 (Bl.cs ⟨PB.1, s12⟩) rfl <| bN (qn1S (eqS_refl PB.1)) <| tK (.bool false) <| tK (.bool false) <| tK (pg g8 2) <| lR (load_one (((HBg8.out.kept HF.out.kept (fun e => e)).cell 2).trans (by kernel_rfl : _ = some (s6.v))) U35 rfl) <| tK (pg g14 2) <| lD (s12.v) HF 0 2 U35 rfl <| cB (sameB s6 s12 PB.2.1 _ (HR7.out.no HF.out.kept) (HR13.out.no HF.out.kept) (by omega)) rfl HF fun w17 HF => tK (.bool false) <| tK (.bool false) <| WL.nil <| ?_
  try simp only [pS]
  go_upto_region 6 with fail
  refine WL.start <| tK (.slice (some ⟨g3, 0, none⟩) x.l (x.l + 3)) <| lR (run_load_part (off := 0) (cs := Cg.cs c) (sub := Cg.cs c) (HBg1.out.kept HF.out.kept (fun e => e)) (part_of (by kernel_rfl)) U24 rfl S24) <| cIns (HpI ⟨some ⟨g3, 0, none⟩, x.l, x.l + 3⟩ _ (HCg.out.no HF.out.kept) (HX2.out.no (wk HF.out.kept))) HF fun w18 HF => ?_
  try simp only [pS]
  replace HBg1 : Hid (Box w18 g1 24 (Cg.cells c)) := HBg1.out.kept HF.out.kept (fun e => e)
  replace HBg3 : Hid (Box w18 g3 5 ((u8L (ys ++ mk3 3)).toArray)) := HBg3.out.kept HF.out.kept (fun e => e)
  replace HBg8 : Hid (Box w18 g8 73 (Bl.cells ⟨PB.1, s6⟩)) := HBg8.out.kept HF.out.kept (fun e => e)
  have HBg14 : Hid (Box w18 g14 73 (Bl.cells ⟨PB.1, s12⟩)) := HF.out.box 0 _ _ _ rfl
  replace HX : Hid _ := HX.out.no (wk HF.out.kept)
  replace HX2 : Hid _ := HX2.out.no (wk HF.out.kept)
  replace HCg : Hid _ := HCg.out.no HF.out.kept
  replace HR7 : Hid _ := HR7.out.no HF.out.kept
  replace HR13 : Hid _ := HR13.out.no HF.out.kept
  have HKN : Hid (Kept No w w18) := HKN.out.thenNo HF.out.kept
  have HF : Hid (Fq No w18 w18 []) := Fq.start _ _
  refine tK (.tuple #[.agg (In.cells PI.1), .int .i64 PI.2]) <| tK (.agg (In.cells PI.1)) <| tK (.int .i64 PI.2) <| xA (In.cells inZ') Z78 HF fun g19 w20 HF => sB (In.cs PI.1) (In.cs PI.1) HF 0 0 (v := .agg (In.cells PI.1)) rfl S78 (In.oneL _) (In.cs inZ') rfl fun w21 HF => tK (.int .i64 PI.2) <| WL.nil <| ?_
  try simp only [pS]
  go_upto_region 7 with fail
  refine WL.start <| tK (x.v) <| lR (run_load_part (off := 0) (cs := Cg.cs c) (sub := Cg.cs c) (HBg1.out.kept HF.out.kept (fun e => e)) (part_of (by kernel_rfl)) U24 rfl S24) <| cIns (HrI x _ (HCg.out.no HF.out.kept) (HX.out.no (wk HF.out.kept))) HF fun w22 HF => ?_
  try simp only [pS]
  replace HBg1 : Hid (Box w22 g1 24 (Cg.cells c)) := HBg1.out.kept HF.out.kept (fun e => e)
  replace HBg3 : Hid (Box w22 g3 5 ((u8L (ys ++ mk3 3)).toArray)) := HBg3.out.kept HF.out.kept (fun e => e)
  replace HBg8 : Hid (Box w22 g8 73 (Bl.cells ⟨PB.1, s6⟩)) := HBg8.out.kept HF.out.kept (fun e => e)
  replace HBg14 : Hid (Box w22 g14 73 (Bl.cells ⟨PB.1, s12⟩)) := HBg14.out.kept HF.out.kept (fun e => e)
  have HBg19 : Hid (Box w22 g19 78 (In.cells PI.1)) := HF.out.box 0 _ _ _ rfl
  replace HX : Hid _ := HX.out.no (wk HF.out.kept)
  replace HX2 : Hid _ := HX2.out.no (wk HF.out.kept)
  replace HCg : Hid _ := HCg.out.no HF.out.kept
  replace HR7 : Hid _ := HR7.out.no HF.out.kept
  replace HR13 : Hid _ := HR13.out.no HF.out.kept
  have HKN : Hid (Kept No w w22) := HKN.out.thenNo HF.out.kept
  have HF : Hid (Fq No w22 w22 []) := Fq.start _ _
  refine tK (.tuple #[.agg (In.cells PI.1), .int .i64 PI.2]) <| tK (.agg (In.cells PI.1)) <| tK (.int .i64 PI.2) <| xA (In.cells inZ') Z78 HF fun g23 w24 HF => sB (In.cs PI.1) (In.cs PI.1) HF 0 0 (v := .agg (In.cells PI.1)) rfl S78 (In.oneL _) (In.cs inZ') rfl fun w25 HF => tK (.int .i64 PI.2) <| WL.nil <| ?_
  try simp only [pS]
  go_upto_region 8 with fail
  refine WL.start <| tK (.int .i64 PI.2) <| tK (.int .i64 PI.2) <| bN (nI1 (beq_self_eq_true (PI.2))) <| tK (.bool false) <| lR (run_load_part (off := 0) (cs := In.cs PI.1) (sub := In.cs PI.1) (HBg19.out.kept HF.out.kept (fun e => e)) (part_of (by kernel_rfl)) U78 rfl S78) <| lP (In.cs PI.1) HF 0 0 U78 S78 (In.cs PI.1) rfl <| bN (neqIn0 PI.1) <| tK (.bool false) <| WL.nil <| ?_
  try simp only [pS]
  go_upto_region 10 with fail
  refine WL.start <| tK (.slice (some ⟨g3, 0, none⟩) x.l (x.l + 3)) <| lR (run_load_part (off := 0) (cs := Cg.cs c) (sub := Cg.cs c) (HBg1.out.kept HF.out.kept (fun e => e)) (part_of (by kernel_rfl)) U24 rfl S24) <| cBck (HpK ⟨some ⟨g3, 0, none⟩, x.l, x.l + 3⟩ _ (HCg.out.no HF.out.kept) (HX2.out.no (wk HF.out.kept))) HF fun s27 t28 w26 HF HR29 haHR29 hbHR29 => ?_
  try simp only [pS]
  replace HBg1 : Hid (Box w26 g1 24 (Cg.cells c)) := HBg1.out.kept HF.out.kept (fun e => e)
  replace HBg3 : Hid (Box w26 g3 5 ((u8L (ys ++ mk3 3)).toArray)) := HBg3.out.kept HF.out.kept (fun e => e)
  replace HBg8 : Hid (Box w26 g8 73 (Bl.cells ⟨PB.1, s6⟩)) := HBg8.out.kept HF.out.kept (fun e => e)
  replace HBg14 : Hid (Box w26 g14 73 (Bl.cells ⟨PB.1, s12⟩)) := HBg14.out.kept HF.out.kept (fun e => e)
  replace HBg19 : Hid (Box w26 g19 78 (In.cells PI.1)) := HBg19.out.kept HF.out.kept (fun e => e)
  have HBg23 : Hid (Box w26 g23 78 (In.cells PI.1)) := HF.out.box 0 _ _ _ rfl
  replace HX : Hid _ := HX.out.no (wk HF.out.kept)
  replace HX2 : Hid _ := HX2.out.no (wk HF.out.kept)
  replace HCg : Hid _ := HCg.out.no HF.out.kept
  replace HR7 : Hid _ := HR7.out.no HF.out.kept
  replace HR13 : Hid _ := HR13.out.no HF.out.kept
  have HKN : Hid (Kept No w w26) := HKN.out.thenNo HF.out.kept
  have HF : Hid (Fq No w26 w26 []) := Fq.start _ _
  refine tK (.tuple #[.agg (Bv.cells ⟨PK.1, s27, t28⟩), .int .i64 PK.2.2.2]) <| tK (.agg (Bv.cells ⟨PK.1, s27, t28⟩)) <| tK (.int .i64 PK.2.2.2) <| xA (Bv.cells bvZ) Z43 HF fun g30 w31 HF => sB (Bv.cs ⟨PK.1, s27, t28⟩) (Bv.cs ⟨PK.1, s27, t28⟩) HF 0 0 (v := .agg (Bv.cells ⟨PK.1, s27, t28⟩)) rfl S43 (Bv.oneL _) (Bv.cs bvZ) rfl fun w32 HF => tK (.int .i64 PK.2.2.2) <| WL.nil <| ?_
  try simp only [pS]
  go_upto_region 11 with fail
  refine WL.start <| tK (x.v) <| lR (run_load_part (off := 0) (cs := Cg.cs c) (sub := Cg.cs c) (HBg1.out.kept HF.out.kept (fun e => e)) (part_of (by kernel_rfl)) U24 rfl S24) <| cBck (HrK x _ (HCg.out.no HF.out.kept) (HX.out.no (wk HF.out.kept))) HF fun s34 t35 w33 HF HR36 haHR36 hbHR36 => ?_
  try simp only [pS]
  replace HBg1 : Hid (Box w33 g1 24 (Cg.cells c)) := HBg1.out.kept HF.out.kept (fun e => e)
  replace HBg3 : Hid (Box w33 g3 5 ((u8L (ys ++ mk3 3)).toArray)) := HBg3.out.kept HF.out.kept (fun e => e)
  replace HBg8 : Hid (Box w33 g8 73 (Bl.cells ⟨PB.1, s6⟩)) := HBg8.out.kept HF.out.kept (fun e => e)
  replace HBg14 : Hid (Box w33 g14 73 (Bl.cells ⟨PB.1, s12⟩)) := HBg14.out.kept HF.out.kept (fun e => e)
  replace HBg19 : Hid (Box w33 g19 78 (In.cells PI.1)) := HBg19.out.kept HF.out.kept (fun e => e)
  replace HBg23 : Hid (Box w33 g23 78 (In.cells PI.1)) := HBg23.out.kept HF.out.kept (fun e => e)
  have HBg30 : Hid (Box w33 g30 43 (Bv.cells ⟨PK.1, s27, t28⟩)) := HF.out.box 0 _ _ _ rfl
  replace HX : Hid _ := HX.out.no (wk HF.out.kept)
  replace HX2 : Hid _ := HX2.out.no (wk HF.out.kept)
  replace HCg : Hid _ := HCg.out.no HF.out.kept
  replace HR7 : Hid _ := HR7.out.no HF.out.kept
  replace HR13 : Hid _ := HR13.out.no HF.out.kept
  replace HR29 : Hid _ := And.intro (HR29.out.1.no HF.out.kept) (HR29.out.2.no HF.out.kept)
  have HKN : Hid (Kept No w w33) := HKN.out.thenNo HF.out.kept
  have HF : Hid (Fq No w33 w33 []) := Fq.start _ _
  refine tK (.tuple #[.agg (Bv.cells ⟨PK.1, s34, t35⟩), .int .i64 PK.2.2.2]) <| tK (.agg (Bv.cells ⟨PK.1, s34, t35⟩)) <| tK (.int .i64 PK.2.2.2) <| xA (Bv.cells bvZ) Z43 HF fun g37 w38 HF => sB (Bv.cs ⟨PK.1, s34, t35⟩) (Bv.cs ⟨PK.1, s34, t35⟩) HF 0 0 (v := .agg (Bv.cells ⟨PK.1, s34, t35⟩)) rfl S43 (Bv.oneL _) (Bv.cs bvZ) rfl fun w39 HF => tK (.int .i64 PK.2.2.2) <| WL.nil <| ?_
  try simp only [pS]
  go_upto_region 12 with fail
  refine WL.start <| tK (.int .i64 PK.2.2.2) <| tK (.int .i64 PK.2.2.2) <| bN (eI (beq_self_eq_true (PK.2.2.2))) <| tK (.bool true) <| lR (run_load_part (off := 0) (cs := Bv.cs ⟨PK.1, s27, t28⟩) (sub := Bv.cs ⟨PK.1, s27, t28⟩) (HBg30.out.kept HF.out.kept (fun e => e)) (part_of (by kernel_rfl)) U43 rfl S43) <| lP (Bv.cs ⟨PK.1, s34, t35⟩) HF 0 0 U43 S43 (Bv.cs ⟨PK.1, s34, t35⟩) rfl <| cB (sameK PK.1 s27 s34 t28 t35 PK.2.1 PK.2.2.1 _ (HR29.out.1.no HF.out.kept) (HR36.out.1.no HF.out.kept) (HR29.out.2.no HF.out.kept) (HR36.out.2.no HF.out.kept) (by omega) (by omega)) rfl HF fun w40 HF => tK (.bool true) <| tK (.bool true) <| tK (.slice (some ⟨g3, 0, none⟩) x.l (x.l + 3)) <| tK (x.v) <| cB (keptB x g3 ys _ (sl_rd (HX.out.no (wk HF.out.kept))) (HBg3.out.kept HF.out.kept (fun e => e)) HX.out.bd) rfl HF fun w41 HF => tK (.bool true) <| tK (.bool true) <| WL.nil <| ?_
  try simp only [pS]
  go_wp2
  rw [HC.out]
  exact ⟨rfl, HKN.out.thenNo HF.out.kept⟩
end Go.Proofs.YtgdnofacgfjaeaaGreat.Md
