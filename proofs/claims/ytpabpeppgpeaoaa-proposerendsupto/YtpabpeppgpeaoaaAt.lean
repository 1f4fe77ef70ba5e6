import Derived.Test.YtpabpeppgpeaoaaAs
/-! ProposerAgrees and ProposerEnds, pure: what the hall comes to. -/

namespace Go.Proofs.Ytpabpeppgpeaoaa
open Go.RowKit Gt
set_option linter.unusedVariables false
set_option linter.unusedSimpArgs false

namespace Pax

def itF (F : Hl → Hl) : Nat → Hl → Hl
  | 0, h => h
  | n + 1, h => itF F n (F h)
theorem itF_succ (F : Hl → Hl) : ∀ (n : Nat) (h : Hl), itF F (n + 1) h = F (itF F n h)
  | 0, h => rfl
  | n + 1, h => itF_succ F n (F h)
theorem Mt.look {zs : List Int} {j : Nat} {h : Hl} {s : PS} {p : List Ms} {A : Int → In} (M : Mt zs j h s p A) : Mt zs j (lookH h) s p A := ⟨M.z, M.hs, M.wy, M.ia, M.cl, M.pl, M.po⟩
theorem decJ_deliver {j : Nat} {h : Hl} (d : DecJ j h) (m : Ms) : DecJ j (deliverH h m) := by
  obtain ⟨s, hs, hd⟩ := d
  rcases deliver_ps h m with e | ⟨i, x, e1, e2⟩
  · exact ⟨s, by rw [e]; exact hs, hd⟩
  · by_cases ei : i = j
    · subst ei
      rw [hs] at e1
      cases Option.some.inj e1
      refine ⟨s, ?_, hd⟩
      rw [e2, tak_dec hd, List.getElem?_set_self (List.getElem?_eq_some_iff.1 hs).1]
    · exact ⟨s, by rw [e2, List.getElem?_set_ne ei]; exact hs, hd⟩
theorem decJ_delivers {j : Nat} : ∀ (l : List Ms) {h : Hl}, DecJ j h → DecJ j (l.foldl deliverH h)
  | [], h, d => d
  | m :: l, h, d => decJ_delivers l (decJ_deliver d m)
theorem tick_dec {s : PS} (h : Dec s) : tickS s = (s, []) := by obtain ⟨d, h⟩ := h; unfold tickS; rw [h]
theorem decJ_ex {zs : List Int} (hz : zs.Nodup) {up : Nat → Bool} {j : Nat} {h : Hl} (z : h.zs = zs) (d : DecJ j h) : DecJ j (exS up j h) := by
  obtain ⟨s, hs, hd⟩ := d
  unfold exS
  rw [hs]
  show DecJ j (exchH up h j s)
  unfold exchH
  simp only
  rw [relays_all hz up _ (h := { h with ps := h.ps.set j (tickS s).1, way := [] }) z, tick_dec hd]
  have d1 : DecJ j { h with ps := h.ps.set j s, way := [] } := ⟨s, by show (h.ps.set j s)[j]? = _; rw [List.getElem?_set_self (List.getElem?_eq_some_iff.1 hs).1], hd⟩
  have d2 := decJ_delivers ((h.way.filter (fromJ j) ++ []).filter (fun m => live zs up m.ti)) d1
  obtain ⟨s2, hs2, hd2⟩ := d2
  exact decJ_delivers _ ⟨s2, hs2, hd2⟩
theorem deliver_nk {e : Int} {h : Hl} (n : Num e h) (he : e + 1 ≤ 1099511627776) (m : Ms) (j : Nat) : nkJ h j ≤ nkJ (deliverH h m) j := by
  have hits : ∀ (l : List Nat) (h : Hl), (l.foldl (hitsH m) h).nks = h.nks := by
    intro l
    induction l with
    | nil => exact fun h => rfl
    | cons i l ih =>
      intro h
      rw [List.foldl_cons, ih]
      unfold hitsH hitH sendH
      repeat (first | split | rfl)
  unfold deliverH
  split
  · split
    · next s hs =>
      split
      · show nkJ h j ≤ (nackH h _ m s).nks[j]?.getD 0
        rcases nack_nks h (m.ti - 1).toNat m s with k | ⟨_, _, k⟩
        · rw [k]; exact Int.le_refl _
        · rw [k, List.getElem?_set]
          split
          · next e1 =>
            rw [e1]
            split
            · have hb : 0 ≤ nkJ h j ∧ nkJ h j ≤ e := by
                unfold nkJ
                cases hq : h.nks[j]? with
                | none => exact ⟨Int.le_refl _, n.e0⟩
                | some q => exact n.nks j q hq
              have w := wr1_ok (n := nkJ h j) hb.1 (by omega)
              show nkJ h j ≤ wr1 (nkJ h j)
              omega
            · next hl =>
              show h.nks[j]?.getD 0 ≤ 0
              rw [List.getElem?_eq_none (by omega)]; exact Int.le_refl _
          · exact Int.le_refl _
      · exact Int.le_refl _
    · exact Int.le_refl _
  · show nkJ h j ≤ (List.foldl (hitsH m) h _).nks[j]?.getD 0
    rw [hits]; exact Int.le_refl _
theorem delivers_nk {zs : List Int} {P : Cm → Prop} (j : Nat) : ∀ (l : List Ms) {t : Hist Cm} {e : Int} {h : Hl}, Iv zs P t e h → e + l.length ≤ 1099511627776 → (∀ m, m ∈ l → Mok zs t m ∧ m.st.n ≤ e) → nkJ h j ≤ nkJ (l.foldl deliverH h) j
  | [], t, e, h, v, _, _ => Int.le_refl _
  | m :: l, t, e, h, v, he, hl => by
    simp only [List.length_cons] at he
    have hm := hl m List.mem_cons_self
    obtain ⟨t1, l1, v1⟩ := v.deliver (by omega) hm.1 hm.2
    exact Int.le_trans (deliver_nk v.nu (by omega) m j) (delivers_nk j l v1 (by omega) (fun k hk => ⟨(hl k (List.mem_cons_of_mem _ hk)).1.le l1, by have := (hl k (List.mem_cons_of_mem _ hk)).2; omega⟩))
/-- An exchange, whatever stands. -/
theorem Iv.ex {zs : List Int} {P : Cm → Prop} {t : Hist Cm} {e : Int} {h : Hl} (v : Iv zs P t e h) (he : e + 20000 ≤ 1099511627776) (hw : h.way.length ≤ 4000) (hz9 : zs.length ≤ 100) (up : Nat → Bool) (j : Nat) :
    ∃ t', Le t t' ∧ Iv zs P t' (e + 10000) (exS up j h) ∧ (exS up j h).way.length ≤ 4000 ∧ nkJ h j ≤ nkJ (exS up j h) j := by
  unfold exS
  cases hj : h.ps[j]? with
  | none => exact ⟨t, Le.refl t, v.mono (by omega), hw, Int.le_refl _⟩
  | some s =>
    show ∃ t', Le t t' ∧ Iv zs P t' (e + 10000) (exchH up h j s) ∧ (exchH up h j s).way.length ≤ 4000 ∧ nkJ h j ≤ nkJ (exchH up h j s) j
    obtain ⟨t', l, v', w'⟩ := v.exch he hw hz9 up hj
    refine ⟨t', l, v', w', ?_⟩
    have g := (v.hi.ps j s hj).1.g
    obtain ⟨t1, l1, v1, hm⟩ := v.ask (by omega) hj
    have tl := tick_len g (v.lk s (List.mem_of_getElem? hj))
    have v2 := v1.gone (l := []) (fun m hm => absurd hm (by simp))
    have e1 := relays_all v.hi.nd up (h.way.filter (fromJ j) ++ (tickS s).2) (h := { h with ps := h.ps.set j (tickS s).1, way := [] }) v.hi.z
    have hfl : (h.way.filter (fromJ j)).length ≤ h.way.length := List.length_filter_le _ _
    have hll : ((h.way.filter (fromJ j) ++ (tickS s).2).filter (fun m => live zs up m.ti)).length ≤ 4100 := by
      refine Nat.le_trans (List.length_filter_le _ _) ?_
      rw [List.length_append]; omega
    have hout : ∀ m, m ∈ (h.way.filter (fromJ j) ++ (tickS s).2).filter (fun m => live zs up m.ti) → Mok zs t1 m ∧ m.st.n ≤ e + 1 := fun m hm' => by
      rw [List.mem_filter, List.mem_append, List.mem_filter] at hm'
      rcases hm'.1 with hm' | hm'
      · exact ⟨(v.hi.way m hm'.1).le l1, by have := v.nu.way m hm'.1; omega⟩
      · exact hm m hm'
    unfold exchH
    simp only
    rw [e1]
    generalize (h.way.filter (fromJ j) ++ (tickS s).2).filter (fun m => live zs up m.ti) = out at *
    have k1 := delivers_nk j out v2 (by omega) hout
    obtain ⟨t2, l2, v3⟩ := Iv.delivers out v2 (by omega) hout
    have w3 : (out.foldl deliverH { h with ps := h.ps.set j (tickS s).1, way := [] }).way.length ≤ 4000 := fold_len out (h := { h with ps := h.ps.set j (tickS s).1, way := [] }) (by simp)
    generalize out.foldl deliverH { h with ps := h.ps.set j (tickS s).1, way := [] } = h2 at *
    exact Int.le_trans k1 (delivers_nk j h2.way (v3.gone (l := []) (fun m hm => absurd hm (by simp))) (by omega) (fun m hm => ⟨v3.hi.way m hm, v3.nu.way m hm⟩))
/-- So many exchanges. -/
theorem run_ends {zs : List Int} {P : Cm → Prop} (hz9 : zs.length ≤ 100) {up : Nat → Bool} {j : Nat} {F : Hl → Hl} (hF : ∀ h, F h = exS up j h ∨ F h = lookH (exS up j h)) : ∀ (n : Nat) {t : Hist Cm} {e : Int} {h : Hl} {s : PS} {p : List Ms} {A : Int → In}, Ends (live zs up) n (s, p, A) → Iv zs P t e h → e + 10000 * n + 20000 ≤ 1099511627776 → h.way.length ≤ 4000 → Mt zs j h s p A → ∃ k, k ≤ n ∧ DecJ j (itF F k h)
  | 0, t, e, h, s, p, A, hE, v, he, hw, M => by
    obtain ⟨k, hk, d⟩ := hE
    have e0 : k = 0 := by omega
    subst e0
    exact ⟨0, Nat.le_refl _, s, M.hs, d⟩
  | n + 1, t, e, h, s, p, A, hE, v, he, hw, M => by
    obtain ⟨k, hk, d⟩ := hE
    cases k with
    | zero => exact ⟨0, Nat.zero_le _, s, M.hs, d⟩
    | succ k =>
      have d : Dec (xs (live zs up) k (xch (live zs up) s p A)).1 := d
      obtain ⟨c1, c2, _⟩ := exch_mt (up := up) v (by omega) hz9 M
      by_cases hd : Dec (xch (live zs up) s p A).1
      · refine ⟨1, by omega, ?_⟩
        show DecJ j (F h)
        rcases hF h with e1 | e1 <;> rw [e1]
        · exact ⟨_, c1, hd⟩
        · exact ⟨_, c1, hd⟩
      · have M' := c2 hd
        obtain ⟨t', _, v', w', _⟩ := v.ex (by omega) hw hz9 up j
        have hE' : Ends (live zs up) n ((xch (live zs up) s p A).1, (xch (live zs up) s p A).2.1, (xch (live zs up) s p A).2.2) := ⟨k, by omega, d⟩
        rcases hF h with e1 | e1
        · obtain ⟨q, hq, dq⟩ := run_ends hz9 hF n hE' v' (by omega) w' M'
          exact ⟨q + 1, by omega, by show DecJ j (itF F q (F h)); rw [e1]; exact dq⟩
        · obtain ⟨q, hq, dq⟩ := run_ends hz9 hF n hE' v'.look (by omega) w' M'.look
          exact ⟨q + 1, by omega, by show DecJ j (itF F q (F h)); rw [e1]; exact dq⟩
theorem Mt.bd {zs : List Int} {P : Cm → Prop} {t : Hist Cm} {e : Int} {h : Hl} {j : Nat} {s : PS} {p : List Ms} {A : Int → In} (M : Mt zs j h s p A) (v : Iv zs P t e h) : Bd e zs s A := by
  have n := v.nu.ps s (List.mem_of_getElem? M.hs)
  refine ⟨(v.hi.ps j s M.hs).1.g, n.n1, n.nt, n.te, by have := n.r1; omega, n.re, fun a ha => ?_, by have := M.cl; omega⟩
  obtain ⟨i, hi, ei⟩ := List.getElem_of_mem ha
  have := M.ia i a (by rw [List.getElem?_eq_getElem hi, ei])
  exact v.nu.ins _ (List.mem_of_getElem? this)
/-- The servers by their numbers. -/
def insA (zs : List Int) (l : List In) (a : Int) : In := ((List.range zs.length).find? (fun i => decide (zs[i]? = some a))).elim iZ (fun i => l[i]?.getD iZ)
theorem insA_at {zs : List Int} (hz : zs.Nodup) {l : List In} (hl : l.length = zs.length) {i : Nat} {a : Int} (h : zs[i]? = some a) : l[i]? = some (insA zs l a) := by
  have hi := (List.getElem?_eq_some_iff.1 h).1
  have hf : (List.range zs.length).find? (fun i => decide (zs[i]? = some a)) = some i := by
    cases hq : (List.range zs.length).find? (fun i => decide (zs[i]? = some a)) with
    | none =>
      rw [List.find?_eq_none] at hq
      exact absurd (decide_eq_true h) (hq i (List.mem_range.2 hi))
    | some k =>
      have := List.find?_some hq
      rw [decide_eq_true_eq] at this
      rw [zs_inj hz this h]
  unfold insA
  rw [hf]
  show l[i]? = some (l[i]?.getD iZ)
  rw [List.getElem?_eq_getElem (by omega)]
  rfl
theorem Iv.mt {zs : List Int} {P : Cm → Prop} {t : Hist Cm} {e : Int} {h : Hl} (v : Iv zs P t e h) {j : Nat} {s : PS} (hs : h.ps[j]? = some s) (hw : h.way = []) : Mt zs j h s [] (insA zs h.ins) :=
  ⟨v.hi.z, hs, by rw [hw]; rfl, fun i a hi => insA_at v.hi.nd v.hi.len hi, (v.hi.ps j s hs).2, Nat.zero_le _, fun m hm => absurd hm (by simp)⟩
/-- A proposer that was begun is asking, or is done. -/
inductive Asks (zs : List Int) (s : PS) : Prop
  | pre (x : TS Unit) (y : TS Vt) (rf : Bool) (h : s.ph = .pre x y rf) (q : QOk zs x y rf)
  | acc (c : Cm) (x y : TS Unit) (rf : Bool) (h : s.ph = .acc c x y rf) (q : QOk zs x y rf)
  | dec (c : Cm) (h : s.ph = .dec c)
theorem asks_of {zs : List Int} {P : Cm → Prop} {t : Hist Cm} {e : Int} {h : Hl} (v : Iv zs P t e h) {j : Nat} {s : PS} (hs : h.ps[j]? = some s) (hf : s.ph ≠ .fresh) : Asks zs s := by
  have m := List.mem_of_getElem? hs
  have al := (v.nu.ps s m).al
  have lk := v.lk s m
  cases hp : s.ph with
  | fresh => exact absurd hp hf
  | pre x y rf => rw [hp] at lk; exact .pre x y rf hp lk
  | acc c x y rf => rw [hp] at lk; exact .acc c x y rf hp lk
  | dec c => exact .dec c hp
  | tri u es ls => rw [hp] at al; exact al.elim
  | worn => rw [hp] at al; exact al.elim
theorem beg_asks {e : Int} {s : PS} (n : NumP e s) (he : e ≤ 1099511627776) : (begS s).1.ph ≠ .fresh ∧ (0 < (begS s).2.length → ∃ a b, (begS s).1.ph = .pre (tNew Unit s.zs a) (tNew Vt s.zs b) false) := by
  unfold begS
  cases hp : s.ph with
  | fresh =>
    have ho : (okN s.n && okN s.rd) = true := by
      have a1 := n.n1; have a2 := n.nt; have a3 := n.te; have a4 := n.r1; have a5 := n.re
      rw [Bool.and_eq_true, okN_iff, okN_iff]; omega
    show (prepS s s.n s.rd).1.ph ≠ .fresh ∧ (0 < (prepS s s.n s.rd).2.length → ∃ a b, (prepS s s.n s.rd).1.ph = .pre (tNew Unit s.zs a) (tNew Vt s.zs b) false)
    unfold prepS
    rw [if_pos ho]
    exact ⟨nofun, fun _ => ⟨_, _, rfl⟩⟩
  | _ => exact ⟨by show s.ph ≠ _; rw [hp]; nofun, fun h => absurd h (by simp)⟩
/-- It ends behind four exchanges. -/
theorem ends_four {zs : List Int} {P : Cm → Prop} {t : Hist Cm} {e : Int} {h : Hl} (v : Iv zs P t e h) (he : e + 100000 ≤ 1099511627776) (hz9 : zs.length ≤ 100) {up : Nat → Bool} (hM : Maj zs (live zs up)) {j : Nat} {s : PS} (hs : h.ps[j]? = some s) (hw : h.way = []) (hf : s.ph ≠ .fresh)
    {F : Hl → Hl} (hF : ∀ h, F h = exS up j h ∨ F h = lookH (exS up j h)) : ∃ k, k ≤ 4 ∧ DecJ j (itF F k h) := by
  have M := v.mt hs hw
  have hE : Ends (live zs up) 4 (s, [], insA zs h.ins) := by
    cases asks_of v hs hf with
    | pre x y rf h q => exact (ends_pre v.hi.nd hM (by omega) (M.bd v) h q).1
    | acc c x y rf h q => exact ends_acc v.hi.nd hM (by omega) (M.bd v) h q
    | dec c h => exact .now ⟨c, h⟩
  exact run_ends hz9 hF 4 hE v (by omega) (by rw [hw]; simp) M
theorem ends_three {zs : List Int} {P : Cm → Prop} {t : Hist Cm} {e : Int} {h : Hl} (v : Iv zs P t e h) (he : e + 100000 ≤ 1099511627776) (hz9 : zs.length ≤ 100) {up : Nat → Bool} (hM : Maj zs (live zs up)) {j : Nat} {s : PS} (hs : h.ps[j]? = some s) (hw : h.way = []) {l : List Int} {a b : Int} (hf : s.ph = .pre (tNew Unit l a) (tNew Vt l b) false)
    {F : Hl → Hl} (hF : ∀ h, F h = exS up j h ∨ F h = lookH (exS up j h)) : ∃ k, k ≤ 3 ∧ DecJ j (itF F k h) := by
  have M := v.mt hs hw
  have lk := v.lk s (List.mem_of_getElem? hs)
  rw [hf] at lk
  exact run_ends hz9 hF 3 ((ends_pre v.hi.nd hM (by omega) (M.bd v) hf lk).2 rfl (fun _ => rfl)) v (by omega) (by rw [hw]; simp) M
/-- Two, where nothing is refused. -/
theorem ends_two {zs : List Int} {P : Cm → Prop} {t : Hist Cm} {e : Int} {h : Hl} (v : Iv zs P t e h) (he : e + 100000 ≤ 1099511627776) (hz9 : zs.length ≤ 100) {up : Nat → Bool} (hM : Maj zs (live zs up)) {j : Nat} {s : PS} (hs : h.ps[j]? = some s) (hw : h.way = []) (hf : s.ph ≠ .fresh) (hr : rfP s.ph = false) :
    (∃ k, k ≤ 2 ∧ DecJ j (itF (exS up j) k h)) ∨ nkJ h j < nkJ (itF (exS up j) 2 h) j := by
  have M := v.mt hs hw
  obtain ⟨c1, c2, c3, c4⟩ := exch_mt (up := up) v (by omega) hz9 M
  obtain ⟨t1, _, v1, w1, _⟩ := v.ex (by omega) (by rw [hw]; simp) hz9 up j
  obtain ⟨t2, _, v2, w2, n2⟩ := v1.ex (by omega) w1 hz9 up j
  have one : Dec (xch (live zs up) s [] (insA zs h.ins)).1 → (∃ k, k ≤ 2 ∧ DecJ j (itF (exS up j) k h)) ∨ nkJ h j < nkJ (itF (exS up j) 2 h) j := fun d => .inl ⟨1, by omega, _, c1, d⟩
  have rfd : rfP (xch (live zs up) s [] (insA zs h.ins)).1.ph = true → (∃ k, k ≤ 2 ∧ DecJ j (itF (exS up j) k h)) ∨ nkJ h j < nkJ (itF (exS up j) 2 h) j := fun r => .inr (by
    have := c4 r
    show nkJ h j < nkJ (exS up j (exS up j h)) j
    omega)
  have krf : ∀ {s' : PS} {p : List Ms}, KRf zs s' p → rfP s'.ph = true := fun k => by
    rcases k.2 with ⟨x, y, e, _⟩ | ⟨c, x, y, e, _⟩ <;> (rw [e]; rfl)
  cases asks_of v hs hf with
  | pre x y rf h0 q =>
    have e : rf = false := by rw [h0] at hr; exact hr
    subst e
    rcases xPre v.hi.nd hM (by omega) (M.bd v) h0 q with d | ⟨b', ⟨k1, _⟩ | ⟨k1, _⟩⟩
    · exact one d
    · by_cases d : Dec (xch (live zs up) s [] (insA zs h.ins)).1
      · exact one d
      · have M' := c2 d
        obtain ⟨d1, d2, d3, d4⟩ := exch_mt (up := up) v1 (by omega) hz9 M'
        rcases xNew v.hi.nd hM b' k1 with d | ⟨_, k2, _⟩
        · exact .inl ⟨2, by omega, _, d1, d⟩
        · refine .inr ?_
          have := d4 (krf k2)
          show nkJ h j < nkJ (exS up j (exS up j h)) j
          omega
    · exact rfd (krf k1)
  | acc c x y rf h0 q =>
    have e : rf = false := by rw [h0] at hr; exact hr
    subst e
    rcases xAcc v.hi.nd hM (M.bd v) h0 q with d | ⟨b', k1⟩
    · exact one d
    · exact rfd (krf k1)
  | dec c h0 => exact .inl ⟨0, by omega, s, hs, c, h0⟩

/-- The hall at its start. -/
def grp (n : Nat) : List Int := (List.range n).map (fun (i : Nat) => 10 + (3 * (i : Int)) % 7 + 10 * (i : Int))
def hKey : Ky := ⟨3, 3, 9, 0⟩
def newP (zs : List Int) (i : Nat) : PS := newS ((i : Int) + 1) 1 hKey zs (cmdOf ((i : Int) + 1)) 1 1
def openH (n k : Nat) : Hl := ⟨grp n, List.replicate n iZ, (List.range k).map (newP (grp n)), [], [], List.replicate k 0, List.replicate k 0⟩
def OwnC (k : Nat) (c : Cm) : Prop := ∃ i : Nat, i < k ∧ c = cmdOf ((i : Int) + 1)
theorem grp_nd {n : Nat} (h : n ≤ 7) : (grp n).Nodup := by
  have : n = 0 ∨ n = 1 ∨ n = 2 ∨ n = 3 ∨ n = 4 ∨ n = 5 ∨ n = 6 ∨ n = 7 := by omega
  rcases this with rfl | rfl | rfl | rfl | rfl | rfl | rfl | rfl <;> decide
theorem grp_len (n : Nat) : (grp n).length = n := by unfold grp; simp
theorem open_iv {n k : Nat} (hn : n ≤ 7) (hk : k ≤ 4) : Iv (grp n) (OwnC k) h0 1 (openH n k) := by
  have get : ∀ (j : Nat) (s : PS), (openH n k).ps[j]? = some s → j < k ∧ s = newP (grp n) j := fun j s hj => by
    have hj : ((List.range k).map (newP (grp n)))[j]? = some s := hj
    rw [List.getElem?_map] at hj
    cases hq : (List.range k)[j]? with
    | none => rw [hq] at hj; exact nomatch hj
    | some q =>
      rw [hq] at hj
      obtain ⟨hl, e⟩ := List.getElem?_eq_some_iff.1 hq
      rw [List.getElem_range] at e
      rw [List.length_range] at hl
      subst e
      exact ⟨hl, (Option.some.inj hj).symm⟩
  have mem : ∀ s, s ∈ (openH n k).ps → ∃ j, j < k ∧ s = newP (grp n) j := fun s hs => by
    obtain ⟨j, hj, e⟩ := List.getElem_of_mem hs
    exact ⟨j, get j s (by rw [List.getElem?_eq_getElem hj, e])⟩
  refine ⟨⟨rfl, grp_nd hn, ok0 _ _, ?_, fun i a x _ hx => ?_, fun j s hs => ?_, ?_, fun m hm => absurd hm (by show ¬ (m ∈ ([] : List Ms)); simp), fun c hc => absurd hc (by show ¬ (c ∈ ([] : List Cm)); simp)⟩, ⟨by decide, fun s hs => ?_, fun i hi => ?_, fun m hm => absurd hm (by show ¬ (m ∈ ([] : List Ms)); simp), fun j x hx => ?_, fun j s hs r => ?_, ?_, ?_⟩, fun s hs => ?_⟩
  · show (List.replicate n iZ).length = (grp n).length; rw [List.length_replicate, grp_len]
  · have := List.mem_of_getElem? hx
    rw [List.eq_of_mem_replicate this]; exact aok0 _ _
  · obtain ⟨hl, rfl⟩ := get j s hs
    exact ⟨new_ok (grp_nd hn) (by omega) (by omega) ⟨j, hl, rfl⟩ (by decide) (by decide), rfl⟩
  · show ((List.range k).map (newP (grp n))).length ≤ 200; simp; omega
  · obtain ⟨j, hl, rfl⟩ := mem s hs
    exact ⟨show (1 : Int) ≤ 1 by decide, Int.le_refl _, Int.le_refl _, show (1 : Int) ≤ 1 by decide, Int.le_refl _, trivial⟩
  · rw [List.eq_of_mem_replicate hi]; decide
  · have := List.mem_of_getElem? hx
    rw [List.eq_of_mem_replicate this]; decide
  · obtain ⟨hl, rfl⟩ := get j s hs
    exact nomatch r
  · show (List.replicate k (0 : Int)).length = ((List.range k).map (newP (grp n))).length; simp
  · show (List.replicate k (0 : Int)).length = ((List.range k).map (newP (grp n))).length; simp
  · obtain ⟨j, hl, rfl⟩ := mem s hs
    trivial
theorem live_at {zs : List Int} (hz : zs.Nodup) {up : Nat → Bool} {i : Nat} {a : Int} (h : zs[i]? = some a) : live zs up a = up i := by
  have hi := (List.getElem?_eq_some_iff.1 h).1
  cases hu : up i
  · unfold live
    rw [List.any_eq_false]
    intro k _ e
    rw [Bool.and_eq_true, decide_eq_true_eq] at e
    rw [zs_inj hz e.1 h, hu] at e
    exact nomatch e.2
  · unfold live
    rw [List.any_eq_true]
    exact ⟨i, List.mem_range.2 hi, by rw [hu, h]; simp⟩
theorem cnt_live {zs : List Int} (hz : zs.Nodup) (up : Nat → Bool) : zs.countP (live zs up) = (List.range zs.length).countP up := by
  have e : zs = (List.range zs.length).map (fun i => zs[i]?.getD 0) := by
    apply List.ext_getElem?
    intro i
    rw [List.getElem?_map]
    by_cases hi : i < zs.length
    · rw [List.getElem?_eq_getElem (l := List.range zs.length) (by simpa using hi), List.getElem_range]
      show zs[i]? = some (zs[i]?.getD 0)
      rw [List.getElem?_eq_getElem hi]; rfl
    · rw [List.getElem?_eq_none (by omega), List.getElem?_eq_none (l := List.range zs.length) (by simp; omega)]; rfl
  conv => lhs; rw [e, List.countP_map]
  apply List.countP_congr
  intro i hi
  rw [List.mem_range] at hi
  show live _ up (zs[i]?.getD 0) = true ↔ up i = true
  rw [← e, live_at hz (i := i) (by rw [List.getElem?_eq_getElem hi]; rfl)]

end Pax

end Go.Proofs.Ytpabpeppgpeaoaa
