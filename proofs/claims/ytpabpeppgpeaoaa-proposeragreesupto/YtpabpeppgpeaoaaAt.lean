import Derived.Test.YtpabpeppgpeaoaaAr
/-! An exchange of the hall is an exchange of the proposer alone; so it ends. -/

namespace Go.Proofs.Ytpabpeppgpeaoaa
open Go.RowKit Gt
set_option linter.unusedVariables false
set_option linter.unusedSimpArgs false

namespace Pax

/-- A proposer's question to a server. -/
structure Out (zs : List Int) (c : Int) (m : Ms) : Prop where
  tc : m.tc = false
  fc : m.fc = true
  fi : m.fi = c
  ti : m.ti ∈ zs
  kk : m.k = 3 ∨ m.k = 4
theorem prep_out' {zs : List Int} {s : PS} (g : s.zs = zs) (n r : Int) : ∀ m, m ∈ (prepS s n r).2 → Out zs s.cl m := fun m hm => by
  unfold prepS at hm
  split at hm
  · obtain ⟨z, hz, rfl⟩ := List.mem_map.1 hm
    exact ⟨rfl, rfl, rfl, g ▸ hz, .inl rfl⟩
  · exact absurd hm (by simp)
theorem tick_out {zs : List Int} {s : PS} (g : s.zs = zs) (k : Lok zs s.ph) : ∀ m, m ∈ (tickS s).2 → Out zs s.cl m := by
  have hp : ∀ {x : TS Unit}, x.g = zs → ∀ m, m ∈ (missL x).map (prepM s.v0).to → Out zs s.cl m := fun e m hm => by
    obtain ⟨z, hz, rfl⟩ := List.mem_map.1 hm
    exact ⟨rfl, rfl, rfl, e ▸ (mem_miss.1 hz).1, .inl rfl⟩
  have ha : ∀ {x : TS Unit} (c : Cm), x.g = zs → ∀ m, m ∈ (missL x).map (accM s.v0 c).to → Out zs s.cl m := fun c e m hm => by
    obtain ⟨z, hz, rfl⟩ := List.mem_map.1 hm
    exact ⟨rfl, rfl, rfl, e ▸ (mem_miss.1 hz).1, .inr rfl⟩
  unfold tickS
  revert k
  cases s.ph with
  | pre x y rf => intro k; cases rf; exact hp k.gx; exact prep_out' g _ _
  | acc c x y rf => intro k; cases rf; exact ha c k.gx; exact prep_out' g _ _
  | _ => exact fun _ m hm => absurd hm (by simp)
def pot : Ph → Nat
  | .pre _ _ _ => 2
  | .acc _ _ _ _ => 1
  | _ => 0
/-- What a message makes a proposer tell. -/
structure Emi (zs : List Int) (s : PS) (t : PS × List Ms) : Prop where
  cl : t.1.cl = s.cl
  g : t.1.zs = s.zs
  len : t.2.length + pot t.1.ph * zs.length ≤ pot s.ph * zs.length
  out : ¬ Dec t.1 → ∀ m, m ∈ t.2 → Out zs s.cl m
theorem Emi.same {zs : List Int} (s : PS) : Emi zs s (s, []) := ⟨rfl, rfl, by simp, fun _ m hm => absurd hm (by simp)⟩
theorem emi_oth {zs : List Int} {s : PS} {x : TS Unit} {nk : TS Unit → Ph} (hn : ∀ y, pot (nk y) = pot s.ph) {m : Ms} {t : PS × List Ms} (ht : Emi zs s t) : Emi zs s (othS s x nk m [] [] t) := by
  unfold othS
  split
  · split
    · exact ⟨rfl, rfl, by simp [pot], fun _ m hm => absurd hm (by simp)⟩
    · split
      · exact ⟨rfl, rfl, by simp [pot], fun _ m hm => absurd hm (by simp)⟩
      · split
        · split
          · exact ⟨rfl, rfl, by simp [hn], fun _ m hm => absurd hm (by simp)⟩
          · exact .same s
        · split
          · exact ht
          · exact .same s
  · exact .same s
theorem emi_tak {zs : List Int} {s : PS} (g : s.zs = zs) (m : Ms) : Emi zs s (taksS s m [] []) := by
  unfold taksS
  cases hs : s.ph with
  | pre x y rf =>
    refine emi_oth (fun _ => by rw [hs]; rfl) ?_
    unfold takP
    split
    · split
      · unfold accS
        split
        · refine ⟨rfl, rfl, ?_, fun _ k hk => ?_⟩
          · rw [hs, List.length_map, g]; simp only [pot]; omega
          · obtain ⟨z, hz, rfl⟩ := List.mem_map.1 hk
            exact ⟨rfl, rfl, rfl, g ▸ hz, .inr rfl⟩
        · exact ⟨rfl, rfl, by simp [pot], fun _ m hm => absurd hm (by simp)⟩
      · exact ⟨rfl, rfl, by simp [hs, pot], fun _ m hm => absurd hm (by simp)⟩
    · exact .same s
  | acc c x y rf =>
    refine emi_oth (fun _ => by rw [hs]; rfl) ?_
    unfold takA
    split
    · split
      · refine ⟨rfl, rfl, ?_, fun h => absurd ⟨c, rfl⟩ h⟩
        rw [hs, List.length_map, g]; simp only [pot]; omega
      · exact ⟨rfl, rfl, by simp [hs, pot], fun _ m hm => absurd hm (by simp)⟩
    · exact .same s
  | _ => exact .same s
theorem tak_dec {s : PS} (h : Dec s) (m : Ms) : taksS s m [] [] = (s, []) := by
  obtain ⟨d, h⟩ := h
  unfold taksS; rw [h]
theorem emi_fold {zs : List Int} : ∀ (l : List Ms) {s : PS}, s.zs = zs → Emi zs s (foldT s l)
  | [], s, _ => .same s
  | m :: l, s, g => by
    have a := emi_tak g m
    have b := emi_fold l (a.g.trans g)
    refine ⟨b.cl.trans a.cl, b.g.trans a.g, ?_, fun hd k hk => ?_⟩
    · show ((taksS s m [] []).2 ++ (foldT (taksS s m [] []).1 l).2).length + pot (foldT (taksS s m [] []).1 l).1.ph * zs.length ≤ _
      have h1 := a.len
      have h2 := b.len
      rw [List.length_append]
      omega
    · have hd : ¬ Dec (foldT (taksS s m [] []).1 l).1 := hd
      have hk : k ∈ (taksS s m [] []).2 ++ (foldT (taksS s m [] []).1 l).2 := hk
      rw [List.mem_append] at hk
      rcases hk with hk | hk
      · refine a.out (fun d => hd ?_) k hk
        obtain ⟨c, d⟩ := d
        rw [foldT_dec d l]; exact ⟨c, d⟩
      · rw [← a.cl]; exact b.out hd k hk

/-- Where proposer j and the servers stand in the hall. -/
structure Mt (zs : List Int) (j : Nat) (h : Hl) (s : PS) (p : List Ms) (A : Int → In) : Prop where
  z : h.zs = zs
  hs : h.ps[j]? = some s
  wy : h.way.filter (fromJ j) = p
  ia : ∀ (i : Nat) a, zs[i]? = some a → h.ins[i]? = some (A a)
  cl : s.cl = (j : Int) + 1
  pl : p.length ≤ 2 * zs.length
  po : ∀ m, m ∈ p → Out zs s.cl m
theorem serv_to {zs : List Int} {c : Int} : ∀ (l : List Ms) (A : Int → In), (∀ m, m ∈ l → Out zs c m) → (∀ r, r ∈ (servS A l).2 → r.tc = true ∧ r.ti = c) ∧ (servS A l).2.length = l.length
  | [], A, _ => ⟨fun r hr => absurd hr (by show ¬ (r ∈ ([] : List Ms)); simp), rfl⟩
  | m :: l, A, h => by
    obtain ⟨i1, i2⟩ := serv_to l (updA A m.ti (servO A m).1) (fun k hk => h k (List.mem_cons_of_mem _ hk))
    have o := h m List.mem_cons_self
    refine ⟨fun r hr => ?_, by show (_ :: (servS _ l).2).length = _; simp only [List.length_cons, i2]⟩
    rcases List.mem_cons.1 hr with rfl | hr
    · have : ∀ k st hd cc, (ans m k st hd cc).tc = true ∧ (ans m k st hd cc).ti = c := fun k st hd cc => ⟨o.fc, o.fi⟩
      unfold servO prepA accA
      repeat (first | split | exact this _ _ _ _)
    · exact i1 r hr
theorem sendW_fit {way l : List Ms} (h : way.length + l.length ≤ 4000) : sendW way l = way ++ l := by
  unfold sendW
  rw [List.take_of_length_le (by omega)]
/-- The servers' part. -/
theorem serve_fold {zs : List Int} (hz : zs.Nodup) {c : Int} : ∀ (l : List Ms) (A : Int → In) {h : Hl}, (∀ m, m ∈ l → Out zs c m) → h.zs = zs → (∀ (i : Nat) a, zs[i]? = some a → h.ins[i]? = some (A a)) → h.way.length + l.length ≤ 4000 →
    ∃ h2, l.foldl deliverH h = h2 ∧ h2.zs = zs ∧ h2.ps = h.ps ∧ h2.nks = h.nks ∧ h2.dec = h.dec ∧ (∀ (i : Nat) a, zs[i]? = some a → h2.ins[i]? = some ((servS A l).1 a)) ∧ h2.way = h.way ++ (servS A l).2
  | [], A, h, _, z, hi, _ => ⟨h, rfl, z, rfl, rfl, rfl, hi, by show h.way = h.way ++ []; simp⟩
  | m :: l, A, h, ho, z, hi, hw => by
    have o := ho m List.mem_cons_self
    simp only [List.length_cons] at hw
    obtain ⟨i, hil, hit⟩ := List.getElem_of_mem o.ti
    have hit : zs[i]? = some m.ti := by rw [List.getElem?_eq_getElem hil, hit]
    obtain ⟨q1, _⟩ := fold_once (hitsH m) (fun h k => hitsH m h k) (fun k => zs[k]? = some m.ti) (fun h => h.zs = zs) (fun _ _ _ _ => rfl) (fun h k hI hc => by unfold hitsH; rw [hI, if_neg hc]) (fun h k hI _ => (hits_zs m h k).1.trans hI)
      (List.range zs.length) List.nodup_range (fun a b _ _ ca cb => zs_inj hz ca cb) h z
    have e0 : deliverH h m = sendH { h with ins := h.ins.set i (servO A m).1 } [(servO A m).2] := by
      unfold deliverH
      rw [if_neg (by rw [o.tc]; decide)]
      have ez : (List.range h.zs.length).foldl (hitsH m) h = hitsH m h i := by rw [z]; exact q1 i (List.mem_range.2 hil) hit
      rw [ez]
      unfold hitsH
      rw [if_pos (by rw [z]; exact hit), hi i m.ti hit]
      show hitH h m i (A m.ti) = _
      unfold hitH servO
      rcases o.kk with e | e
      · rw [if_pos e, if_pos e]
      · rw [if_neg (by rw [e]; decide), if_pos e, if_neg (by rw [e]; decide)]
    have ew : sendW h.way [(servO A m).2] = h.way ++ [(servO A m).2] := sendW_fit (by simp; omega)
    have hil2 : i < h.ins.length := (List.getElem?_eq_some_iff.1 (hi i m.ti hit)).1
    rw [List.foldl_cons, e0]
    obtain ⟨h2, f1, f2, f3, f4, f5, f6, f7⟩ := serve_fold hz l (updA A m.ti (servO A m).1) (h := sendH { h with ins := h.ins.set i (servO A m).1 } [(servO A m).2]) (fun k hk => ho k (List.mem_cons_of_mem _ hk)) z
      (fun k a hk => by
        show (h.ins.set i (servO A m).1)[k]? = _
        rw [List.getElem?_set]
        unfold updA
        by_cases e : i = k
        · subst e
          rw [hit] at hk
          cases Option.some.inj hk
          rw [if_pos rfl, if_pos hil2, if_pos rfl]
        · rw [if_neg e, if_neg (fun (ea : a = m.ti) => e (zs_inj hz hit (ea ▸ hk))), hi k a hk])
      (by show (sendW h.way [(servO A m).2]).length + l.length ≤ 4000; rw [ew]; simp; omega)
    refine ⟨h2, f1, f2, f3, f4, f5, f6, ?_⟩
    rw [f7]
    show sendW h.way [(servO A m).2] ++ _ = h.way ++ ((servO A m).2 :: _)
    rw [ew]; simp
def nkJ (h : Hl) (j : Nat) : Int := h.nks[j]?.getD 0
theorem sendW_take (X l : List Ms) : sendW (X.take 4000) l = (X ++ l).take 4000 := by
  unfold sendW
  rw [List.take_append, List.length_take]
  congr 2
  omega
/-- One answer comes to proposer j. -/
theorem come_one {h : Hl} {j : Nat} {s : PS} {m : Ms} {e : Int} (n : Num e h) (he : e + 1 ≤ 1099511627776) (hs : h.ps[j]? = some s) (tc : m.tc = true) (ti : m.ti = (j : Int) + 1) :
    (deliverH h m).zs = h.zs ∧ (deliverH h m).ins = h.ins ∧ (deliverH h m).ps[j]? = some (taksS s m [] []).1 ∧ (deliverH h m).way = sendW h.way (taksS s m [] []).2 ∧ nkJ h j ≤ nkJ (deliverH h m) j ∧
      (rfP s.ph = false → rfP (taksS s m [] []).1.ph = true → NumP e s → m.st.n ≤ e → m.k ≠ 17 → nkJ h j < nkJ (deliverH h m) j) := by
  have ej : (m.ti - 1).toNat = j := by rw [ti]; omega
  have hlt := (List.getElem?_eq_some_iff.1 hs).1
  have e0 : deliverH h m = lookH (playH (nackH h j m s) j (taksS s m [] [])) := by
    unfold deliverH
    rw [if_pos tc, ej, hs]
    show (if 1 ≤ m.ti then _ else h) = _
    rw [if_pos (by rw [ti]; omega)]
  rw [e0]
  obtain ⟨a1, a2, a3⟩ := nack_zs h j m s
  have hb : 0 ≤ nkJ h j ∧ nkJ h j ≤ e := by
    unfold nkJ
    cases hq : h.nks[j]? with
    | none => exact ⟨Int.le_refl _, n.e0⟩
    | some q => exact n.nks j q hq
  have w := wr1_ok (n := nkJ h j) hb.1 (by omega)
  have hset : (h.nks.set j (wr1 (nkJ h j)))[j]?.getD 0 = wr1 (nkJ h j) := by rw [List.getElem?_set_self (by rw [n.ls]; exact hlt)]; rfl
  have hN : nkJ (lookH (playH (nackH h j m s) j (taksS s m [] []))) j = (nackH h j m s).nks[j]?.getD 0 := rfl
  refine ⟨a1, a2, ?_, ?_, ?_, fun r1 r2 np hm h17 => ?_⟩
  · show ((nackH h j m s).ps.set j (taksS s m [] []).1)[j]? = _
    rw [nack_ps, List.getElem?_set_self hlt]
  · show sendW (nackH h j m s).way _ = _
    rw [a3]
  · rw [hN]
    rcases nack_nks h j m s with k | ⟨_, _, k⟩
    · rw [k]; exact Int.le_refl _
    · rw [k]
      show _ ≤ (h.nks.set j (wr1 (nkJ h j)))[j]?.getD 0
      rw [hset]; omega
  · rw [hN]
    obtain ⟨_, r4⟩ := (num_tak np he hm h17).rf r2
    rcases r4 with r4 | ⟨r4, r5⟩
    · rw [r1] at r4; exact nomatch r4
    · have k : (nackH h j m s).nks = h.nks.set j (wr1 (h.nks[j]?.getD 0)) := by unfold nackH; rw [if_pos ⟨r4, r5⟩]
      rw [k]
      show _ < (h.nks.set j (wr1 (nkJ h j)))[j]?.getD 0
      rw [hset]; omega
/-- The answers come. -/
theorem come_fold {zs : List Int} {P : Cm → Prop} {j : Nat} : ∀ (l : List Ms) {t : Hist Cm} {e : Int} {h : Hl} {s : PS} (X : List Ms), Iv zs P t e h → e + l.length ≤ 1099511627776 → h.ps[j]? = some s → h.way = X.take 4000 → (∀ m, m ∈ l → m.tc = true ∧ m.ti = (j : Int) + 1 ∧ Mok zs t m ∧ m.st.n ≤ e) →
    (l.foldl deliverH h).zs = h.zs ∧ (l.foldl deliverH h).ins = h.ins ∧ (l.foldl deliverH h).ps[j]? = some (foldT s l).1 ∧ (l.foldl deliverH h).way = (X ++ (foldT s l).2).take 4000 ∧ nkJ h j ≤ nkJ (l.foldl deliverH h) j ∧
      (rfP s.ph = false → rfP (foldT s l).1.ph = true → nkJ h j < nkJ (l.foldl deliverH h) j)
  | [], t, e, h, s, X, v, _, hs, hw, _ => ⟨rfl, rfl, hs, by show h.way = (X ++ []).take 4000; rw [List.append_nil]; exact hw, Int.le_refl _, fun r1 r2 => by have r2 : rfP s.ph = true := r2; rw [r1] at r2; exact nomatch r2⟩
  | m :: l, t, e, h, s, X, v, he, hs, hw, hl => by
    simp only [List.length_cons] at he
    obtain ⟨m1, m2, m3, m4⟩ := hl m List.mem_cons_self
    have np := v.nu.ps s (List.mem_of_getElem? hs)
    obtain ⟨a1, a2, a3, a4, a5, a6⟩ := come_one v.nu (by omega) hs m1 m2
    obtain ⟨t', l1, v'⟩ := v.deliver (by omega) m3 m4
    obtain ⟨b1, b2, b3, b4, b5, b6⟩ := come_fold l (X ++ (taksS s m [] []).2) v' (by omega) a3 (by rw [a4, hw, sendW_take]) (fun k hk => by
      obtain ⟨k1, k2, k3, k4⟩ := hl k (List.mem_cons_of_mem _ hk)
      exact ⟨k1, k2, k3.le l1, by omega⟩)
    refine ⟨b1.trans a1, b2.trans a2, b3, ?_, Int.le_trans a5 b5, fun r1 r2 => ?_⟩
    · rw [List.foldl_cons, b4, List.append_assoc]; rfl
    · rw [List.foldl_cons]
      cases r3 : rfP (taksS s m [] []).1.ph
      · have := b6 r3 r2; omega
      · have := a6 r1 r3 np m4 m3.k17; omega
def DecJ (j : Nat) (h : Hl) : Prop := ∃ s, h.ps[j]? = some s ∧ Dec s
def exS (up : Nat → Bool) (j : Nat) (h : Hl) : Hl := match h.ps[j]? with | some s => exchH up h j s | none => h
theorem filter_from {zs : List Int} {j : Nat} {p : List Ms} (h : ∀ m, m ∈ p → Out zs ((j : Int) + 1) m) : p.filter (fromJ j) = p := by
  rw [List.filter_eq_self]
  intro m hm
  unfold fromJ
  rw [(h m hm).fc, (h m hm).fi]
  simp
/-- An exchange of the hall is an exchange of the proposer. -/
theorem exch_mt {zs : List Int} {P : Cm → Prop} {t : Hist Cm} {e : Int} {h : Hl} (v : Iv zs P t e h) (he : e + 20000 ≤ 1099511627776) (hz9 : zs.length ≤ 100) {up : Nat → Bool} {j : Nat} {s : PS} {p : List Ms} {A : Int → In} (M : Mt zs j h s p A) :
    (exS up j h).ps[j]? = some (xch (live zs up) s p A).1 ∧ (¬ Dec (xch (live zs up) s p A).1 → Mt zs j (exS up j h) (xch (live zs up) s p A).1 (xch (live zs up) s p A).2.1 (xch (live zs up) s p A).2.2) ∧
      nkJ h j ≤ nkJ (exS up j h) j ∧ (rfP (xch (live zs up) s p A).1.ph = true → nkJ h j < nkJ (exS up j h) j) := by
  obtain ⟨z, hs, wy, ia, cl, pl, po⟩ := M
  have g := (v.hi.ps j s hs).1.g
  have hm0 := List.mem_of_getElem? hs
  have lk := v.lk s hm0
  have tl := tick_len g lk
  have tou := tick_out g lk
  obtain ⟨t1, l1, v1, hmk⟩ := v.ask (by omega) hs
  have v2 := v1.gone (l := []) (fun m hm => absurd hm (by simp))
  have rf0 := (num_tick (v.nu.ps s hm0) (by omega)).2.2
  have eE : exS up j h = exchH up h j s := by unfold exS; rw [hs]
  have hOut : ∀ m, m ∈ (p ++ (tickS s).2).filter (fun m => live zs up m.ti) → Out zs s.cl m := fun m hm => by
    rw [List.mem_filter, List.mem_append] at hm
    exact hm.1.elim (po m) (tou m)
  have hMok : ∀ m, m ∈ (p ++ (tickS s).2).filter (fun m => live zs up m.ti) → Mok zs t1 m ∧ m.st.n ≤ e + 1 := fun m hm => by
    rw [List.mem_filter, List.mem_append, ← wy, List.mem_filter] at hm
    rcases hm.1 with hm | hm
    · exact ⟨(v.hi.way m hm.1).le l1, by have := v.nu.way m hm.1; omega⟩
    · exact hmk m hm
  have hll : ((p ++ (tickS s).2).filter (fun m => live zs up m.ti)).length ≤ 300 := by
    refine Nat.le_trans (List.length_filter_le _ _) ?_
    rw [List.length_append]; omega
  have e1 := relays_all v.hi.nd up (h.way.filter (fromJ j) ++ (tickS s).2) (h := { h with ps := h.ps.set j (tickS s).1, way := [] }) z
  rw [eE]
  unfold exchH xch
  simp only
  rw [e1, wy]
  generalize (p ++ (tickS s).2).filter (fun m => live zs up m.ti) = out at *
  obtain ⟨t2, l2, v3⟩ := Iv.delivers out v2 (by omega) hMok
  obtain ⟨h2, f1, f2, f3, f4, f5, f6, f7⟩ := serve_fold v.hi.nd out A (h := { h with ps := h.ps.set j (tickS s).1, way := [] }) hOut z ia (by simp; omega)
  rw [f1] at v3 ⊢
  have f7 : h2.way = (servS A out).2 := by rw [f7]; rfl
  obtain ⟨s1, s2⟩ := serv_to out A hOut
  have hs2 : h2.ps[j]? = some (tickS s).1 := by
    rw [f3]
    show (h.ps.set j _)[j]? = _
    rw [List.getElem?_set_self (List.getElem?_eq_some_iff.1 hs).1]
  have tg : (tickS s).1.zs = zs := (v1.hi.ps j _ (by show (h.ps.set j _)[j]? = _; rw [List.getElem?_set_self (List.getElem?_eq_some_iff.1 hs).1])).1.g
  have tcl : (tickS s).1.cl = s.cl := tick_cl s
  obtain ⟨c1, c2, c3, c4, c5, c6⟩ := come_fold h2.way (j := j) (h := { h2 with way := [] }) (s := (tickS s).1) [] (v3.gone (l := []) (fun m hm => absurd hm (by simp))) (by rw [f7, s2]; omega) hs2 rfl (fun m hm => by
    have hm' := hm
    rw [f7] at hm'
    exact ⟨(s1 m hm').1, by rw [(s1 m hm').2, cl], v3.hi.way m hm, v3.nu.way m hm⟩)
  rw [f7] at c1 c2 c3 c4 c5 c6 ⊢
  have em := emi_fold (servS A out).2 tg
  have nk0 : nkJ { h2 with way := [] } j = nkJ h j := by unfold nkJ; show h2.nks[j]?.getD 0 = _; rw [f4]
  rw [nk0] at c5 c6
  refine ⟨c3, fun hd => ?_, c5, fun r => c6 rf0 r⟩
  have ho : ∀ m, m ∈ (foldT (tickS s).1 (servS A out).2).2 → Out zs ((j : Int) + 1) m := fun m hm => by
    have := em.out hd m hm
    rw [tcl, cl] at this
    exact this
  have hpt : ∀ ph : Ph, pot ph ≤ 2 := fun ph => by cases ph <;> simp [pot]
  have hlen : (foldT (tickS s).1 (servS A out).2).2.length ≤ 2 * zs.length := by
    have h1 := em.len
    have h2 : pot (tickS s).1.ph * zs.length ≤ 2 * zs.length := Nat.mul_le_mul_right _ (hpt _)
    omega
  rw [List.nil_append, List.take_of_length_le (by omega)] at c4
  have ecl : (foldT (tickS s).1 (servS A out).2).1.cl = (j : Int) + 1 := by rw [em.cl, tcl, cl]
  exact ⟨c1.trans f2, c3, by rw [c4]; exact filter_from ho, fun i a hi => by rw [c2]; exact f6 i a hi, ecl, hlen, fun m hm => by rw [ecl]; exact ho m hm⟩

end Pax

end Go.Proofs.Ytpabpeppgpeaoaa
/-! ProposerAgrees and ProposerEnds, pure: what the hall comes to. -/

namespace Go.Proofs.Ytpabpeppgpeaoaa
open Go.RowKit Gt
set_option linter.unusedVariables false
set_option linter.unusedSimpArgs false

namespace Pax

def itF (F : Hl → Hl) : Nat → Hl → Hl
  | 0, h => h
  | n + 1, h => itF F n (F h)
theorem itF_succ (F : Hl → Hl) : ∀ (n : Nat) (h : Hl), itF F (n + 1) h = F (itF F n h)
  | 0, h => rfl
  | n + 1, h => itF_succ F n (F h)
theorem Mt.look {zs : List Int} {j : Nat} {h : Hl} {s : PS} {p : List Ms} {A : Int → In} (M : Mt zs j h s p A) : Mt zs j (lookH h) s p A := ⟨M.z, M.hs, M.wy, M.ia, M.cl, M.pl, M.po⟩
theorem decJ_deliver {j : Nat} {h : Hl} (d : DecJ j h) (m : Ms) : DecJ j (deliverH h m) := by
  obtain ⟨s, hs, hd⟩ := d
  rcases deliver_ps h m with e | ⟨i, x, e1, e2⟩
  · exact ⟨s, by rw [e]; exact hs, hd⟩
  · by_cases ei : i = j
    · subst ei
      rw [hs] at e1
      cases Option.some.inj e1
      refine ⟨s, ?_, hd⟩
      rw [e2, tak_dec hd, List.getElem?_set_self (List.getElem?_eq_some_iff.1 hs).1]
    · exact ⟨s, by rw [e2, List.getElem?_set_ne ei]; exact hs, hd⟩
theorem decJ_delivers {j : Nat} : ∀ (l : List Ms) {h : Hl}, DecJ j h → DecJ j (l.foldl deliverH h)
  | [], h, d => d
  | m :: l, h, d => decJ_delivers l (decJ_deliver d m)
theorem tick_dec {s : PS} (h : Dec s) : tickS s = (s, []) := by obtain ⟨d, h⟩ := h; unfold tickS; rw [h]
theorem decJ_ex {zs : List Int} (hz : zs.Nodup) {up : Nat → Bool} {j : Nat} {h : Hl} (z : h.zs = zs) (d : DecJ j h) : DecJ j (exS up j h) := by
  obtain ⟨s, hs, hd⟩ := d
  unfold exS
  rw [hs]
  show DecJ j (exchH up h j s)
  unfold exchH
  simp only
  rw [relays_all hz up _ (h := { h with ps := h.ps.set j (tickS s).1, way := [] }) z, tick_dec hd]
  have d1 : DecJ j { h with ps := h.ps.set j s, way := [] } := ⟨s, by show (h.ps.set j s)[j]? = _; rw [List.getElem?_set_self (List.getElem?_eq_some_iff.1 hs).1], hd⟩
  have d2 := decJ_delivers ((h.way.filter (fromJ j) ++ []).filter (fun m => live zs up m.ti)) d1
  obtain ⟨s2, hs2, hd2⟩ := d2
  exact decJ_delivers _ ⟨s2, hs2, hd2⟩
theorem deliver_nk {e : Int} {h : Hl} (n : Num e h) (he : e + 1 ≤ 1099511627776) (m : Ms) (j : Nat) : nkJ h j ≤ nkJ (deliverH h m) j := by
  have hits : ∀ (l : List Nat) (h : Hl), (l.foldl (hitsH m) h).nks = h.nks := by
    intro l
    induction l with
    | nil => exact fun h => rfl
    | cons i l ih =>
      intro h
      rw [List.foldl_cons, ih]
      unfold hitsH hitH sendH
      repeat (first | split | rfl)
  unfold deliverH
  split
  · split
    · next s hs =>
      split
      · show nkJ h j ≤ (nackH h _ m s).nks[j]?.getD 0
        rcases nack_nks h (m.ti - 1).toNat m s with k | ⟨_, _, k⟩
        · rw [k]; exact Int.le_refl _
        · rw [k, List.getElem?_set]
          split
          · next e1 =>
            rw [e1]
            split
            · have hb : 0 ≤ nkJ h j ∧ nkJ h j ≤ e := by
                unfold nkJ
                cases hq : h.nks[j]? with
                | none => exact ⟨Int.le_refl _, n.e0⟩
                | some q => exact n.nks j q hq
              have w := wr1_ok (n := nkJ h j) hb.1 (by omega)
              show nkJ h j ≤ wr1 (nkJ h j)
              omega
            · next hl =>
              show h.nks[j]?.getD 0 ≤ 0
              rw [List.getElem?_eq_none (by omega)]; exact Int.le_refl _
          · exact Int.le_refl _
      · exact Int.le_refl _
    · exact Int.le_refl _
  · show nkJ h j ≤ (List.foldl (hitsH m) h _).nks[j]?.getD 0
    rw [hits]; exact Int.le_refl _
theorem delivers_nk {zs : List Int} {P : Cm → Prop} (j : Nat) : ∀ (l : List Ms) {t : Hist Cm} {e : Int} {h : Hl}, Iv zs P t e h → e + l.length ≤ 1099511627776 → (∀ m, m ∈ l → Mok zs t m ∧ m.st.n ≤ e) → nkJ h j ≤ nkJ (l.foldl deliverH h) j
  | [], t, e, h, v, _, _ => Int.le_refl _
  | m :: l, t, e, h, v, he, hl => by
    simp only [List.length_cons] at he
    have hm := hl m List.mem_cons_self
    obtain ⟨t1, l1, v1⟩ := v.deliver (by omega) hm.1 hm.2
    exact Int.le_trans (deliver_nk v.nu (by omega) m j) (delivers_nk j l v1 (by omega) (fun k hk => ⟨(hl k (List.mem_cons_of_mem _ hk)).1.le l1, by have := (hl k (List.mem_cons_of_mem _ hk)).2; omega⟩))
/-- An exchange, whatever stands. -/
theorem Iv.ex {zs : List Int} {P : Cm → Prop} {t : Hist Cm} {e : Int} {h : Hl} (v : Iv zs P t e h) (he : e + 20000 ≤ 1099511627776) (hw : h.way.length ≤ 4000) (hz9 : zs.length ≤ 100) (up : Nat → Bool) (j : Nat) :
    ∃ t', Le t t' ∧ Iv zs P t' (e + 10000) (exS up j h) ∧ (exS up j h).way.length ≤ 4000 ∧ nkJ h j ≤ nkJ (exS up j h) j := by
  unfold exS
  cases hj : h.ps[j]? with
  | none => exact ⟨t, Le.refl t, v.mono (by omega), hw, Int.le_refl _⟩
  | some s =>
    show ∃ t', Le t t' ∧ Iv zs P t' (e + 10000) (exchH up h j s) ∧ (exchH up h j s).way.length ≤ 4000 ∧ nkJ h j ≤ nkJ (exchH up h j s) j
    obtain ⟨t', l, v', w'⟩ := v.exch he hw hz9 up hj
    refine ⟨t', l, v', w', ?_⟩
    have g := (v.hi.ps j s hj).1.g
    obtain ⟨t1, l1, v1, hm⟩ := v.ask (by omega) hj
    have tl := tick_len g (v.lk s (List.mem_of_getElem? hj))
    have v2 := v1.gone (l := []) (fun m hm => absurd hm (by simp))
    have e1 := relays_all v.hi.nd up (h.way.filter (fromJ j) ++ (tickS s).2) (h := { h with ps := h.ps.set j (tickS s).1, way := [] }) v.hi.z
    have hfl : (h.way.filter (fromJ j)).length ≤ h.way.length := List.length_filter_le _ _
    have hll : ((h.way.filter (fromJ j) ++ (tickS s).2).filter (fun m => live zs up m.ti)).length ≤ 4100 := by
      refine Nat.le_trans (List.length_filter_le _ _) ?_
      rw [List.length_append]; omega
    have hout : ∀ m, m ∈ (h.way.filter (fromJ j) ++ (tickS s).2).filter (fun m => live zs up m.ti) → Mok zs t1 m ∧ m.st.n ≤ e + 1 := fun m hm' => by
      rw [List.mem_filter, List.mem_append, List.mem_filter] at hm'
      rcases hm'.1 with hm' | hm'
      · exact ⟨(v.hi.way m hm'.1).le l1, by have := v.nu.way m hm'.1; omega⟩
      · exact hm m hm'
    unfold exchH
    simp only
    rw [e1]
    generalize (h.way.filter (fromJ j) ++ (tickS s).2).filter (fun m => live zs up m.ti) = out at *
    have k1 := delivers_nk j out v2 (by omega) hout
    obtain ⟨t2, l2, v3⟩ := Iv.delivers out v2 (by omega) hout
    have w3 : (out.foldl deliverH { h with ps := h.ps.set j (tickS s).1, way := [] }).way.length ≤ 4000 := fold_len out (h := { h with ps := h.ps.set j (tickS s).1, way := [] }) (by simp)
    generalize out.foldl deliverH { h with ps := h.ps.set j (tickS s).1, way := [] } = h2 at *
    exact Int.le_trans k1 (delivers_nk j h2.way (v3.gone (l := []) (fun m hm => absurd hm (by simp))) (by omega) (fun m hm => ⟨v3.hi.way m hm, v3.nu.way m hm⟩))
/-- So many exchanges. -/
theorem run_ends {zs : List Int} {P : Cm → Prop} (hz9 : zs.length ≤ 100) {up : Nat → Bool} {j : Nat} {F : Hl → Hl} (hF : ∀ h, F h = exS up j h ∨ F h = lookH (exS up j h)) : ∀ (n : Nat) {t : Hist Cm} {e : Int} {h : Hl} {s : PS} {p : List Ms} {A : Int → In}, Ends (live zs up) n (s, p, A) → Iv zs P t e h → e + 10000 * n + 20000 ≤ 1099511627776 → h.way.length ≤ 4000 → Mt zs j h s p A → ∃ k, k ≤ n ∧ DecJ j (itF F k h)
  | 0, t, e, h, s, p, A, hE, v, he, hw, M => by
    obtain ⟨k, hk, d⟩ := hE
    have e0 : k = 0 := by omega
    subst e0
    exact ⟨0, Nat.le_refl _, s, M.hs, d⟩
  | n + 1, t, e, h, s, p, A, hE, v, he, hw, M => by
    obtain ⟨k, hk, d⟩ := hE
    cases k with
    | zero => exact ⟨0, Nat.zero_le _, s, M.hs, d⟩
    | succ k =>
      have d : Dec (xs (live zs up) k (xch (live zs up) s p A)).1 := d
      obtain ⟨c1, c2, _⟩ := exch_mt (up := up) v (by omega) hz9 M
      by_cases hd : Dec (xch (live zs up) s p A).1
      · refine ⟨1, by omega, ?_⟩
        show DecJ j (F h)
        rcases hF h with e1 | e1 <;> rw [e1]
        · exact ⟨_, c1, hd⟩
        · exact ⟨_, c1, hd⟩
      · have M' := c2 hd
        obtain ⟨t', _, v', w', _⟩ := v.ex (by omega) hw hz9 up j
        have hE' : Ends (live zs up) n ((xch (live zs up) s p A).1, (xch (live zs up) s p A).2.1, (xch (live zs up) s p A).2.2) := ⟨k, by omega, d⟩
        rcases hF h with e1 | e1
        · obtain ⟨q, hq, dq⟩ := run_ends hz9 hF n hE' v' (by omega) w' M'
          exact ⟨q + 1, by omega, by show DecJ j (itF F q (F h)); rw [e1]; exact dq⟩
        · obtain ⟨q, hq, dq⟩ := run_ends hz9 hF n hE' v'.look (by omega) w' M'.look
          exact ⟨q + 1, by omega, by show DecJ j (itF F q (F h)); rw [e1]; exact dq⟩
theorem Mt.bd {zs : List Int} {P : Cm → Prop} {t : Hist Cm} {e : Int} {h : Hl} {j : Nat} {s : PS} {p : List Ms} {A : Int → In} (M : Mt zs j h s p A) (v : Iv zs P t e h) : Bd e zs s A := by
  have n := v.nu.ps s (List.mem_of_getElem? M.hs)
  refine ⟨(v.hi.ps j s M.hs).1.g, n.n1, n.nt, n.te, by have := n.r1; omega, n.re, fun a ha => ?_, by have := M.cl; omega⟩
  obtain ⟨i, hi, ei⟩ := List.getElem_of_mem ha
  have := M.ia i a (by rw [List.getElem?_eq_getElem hi, ei])
  exact v.nu.ins _ (List.mem_of_getElem? this)
/-- The servers by their numbers. -/
def insA (zs : List Int) (l : List In) (a : Int) : In := ((List.range zs.length).find? (fun i => decide (zs[i]? = some a))).elim iZ (fun i => l[i]?.getD iZ)
theorem insA_at {zs : List Int} (hz : zs.Nodup) {l : List In} (hl : l.length = zs.length) {i : Nat} {a : Int} (h : zs[i]? = some a) : l[i]? = some (insA zs l a) := by
  have hi := (List.getElem?_eq_some_iff.1 h).1
  have hf : (List.range zs.length).find? (fun i => decide (zs[i]? = some a)) = some i := by
    cases hq : (List.range zs.length).find? (fun i => decide (zs[i]? = some a)) with
    | none =>
      rw [List.find?_eq_none] at hq
      exact absurd (decide_eq_true h) (hq i (List.mem_range.2 hi))
    | some k =>
      have := List.find?_some hq
      rw [decide_eq_true_eq] at this
      rw [zs_inj hz this h]
  unfold insA
  rw [hf]
  show l[i]? = some (l[i]?.getD iZ)
  rw [List.getElem?_eq_getElem (by omega)]
  rfl
/-- A proposer that was begun is asking, or is done. -/
inductive Asks (zs : List Int) (s : PS) : Prop
  | pre (x : TS Unit) (y : TS Vt) (rf : Bool) (h : s.ph = .pre x y rf) (q : QOk zs x y rf)
  | acc (c : Cm) (x y : TS Unit) (rf : Bool) (h : s.ph = .acc c x y rf) (q : QOk zs x y rf)
  | dec (c : Cm) (h : s.ph = .dec c)
theorem asks_of {zs : List Int} {P : Cm → Prop} {t : Hist Cm} {e : Int} {h : Hl} (v : Iv zs P t e h) {j : Nat} {s : PS} (hs : h.ps[j]? = some s) (hf : s.ph ≠ .fresh) : Asks zs s := by
  have m := List.mem_of_getElem? hs
  have al := (v.nu.ps s m).al
  have lk := v.lk s m
  cases hp : s.ph with
  | fresh => exact absurd hp hf
  | pre x y rf => rw [hp] at lk; exact .pre x y rf hp lk
  | acc c x y rf => rw [hp] at lk; exact .acc c x y rf hp lk
  | dec c => exact .dec c hp
  | tri u es ls => rw [hp] at al; exact al.elim
  | worn => rw [hp] at al; exact al.elim
theorem beg_asks {e : Int} {s : PS} (n : NumP e s) (he : e ≤ 1099511627776) : (begS s).1.ph ≠ .fresh ∧ (0 < (begS s).2.length → ∃ a b, (begS s).1.ph = .pre (tNew Unit s.zs a) (tNew Vt s.zs b) false) := by
  unfold begS
  cases hp : s.ph with
  | fresh =>
    have ho : (okN s.n && okN s.rd) = true := by
      have a1 := n.n1; have a2 := n.nt; have a3 := n.te; have a4 := n.r1; have a5 := n.re
      rw [Bool.and_eq_true, okN_iff, okN_iff]; omega
    show (prepS s s.n s.rd).1.ph ≠ .fresh ∧ (0 < (prepS s s.n s.rd).2.length → ∃ a b, (prepS s s.n s.rd).1.ph = .pre (tNew Unit s.zs a) (tNew Vt s.zs b) false)
    unfold prepS
    rw [if_pos ho]
    exact ⟨nofun, fun _ => ⟨_, _, rfl⟩⟩
  | _ => exact ⟨by show s.ph ≠ _; rw [hp]; nofun, fun h => absurd h (by simp)⟩
/-- The hall at its start. -/
def grp (n : Nat) : List Int := (List.range n).map (fun (i : Nat) => 10 + (3 * (i : Int)) % 7 + 10 * (i : Int))
def hKey : Ky := ⟨3, 3, 9, 0⟩
def newP (zs : List Int) (i : Nat) : PS := newS ((i : Int) + 1) 1 hKey zs (cmdOf ((i : Int) + 1)) 1 1
def openH (n k : Nat) : Hl := ⟨grp n, List.replicate n iZ, (List.range k).map (newP (grp n)), [], [], List.replicate k 0, List.replicate k 0⟩
def OwnC (k : Nat) (c : Cm) : Prop := ∃ i : Nat, i < k ∧ c = cmdOf ((i : Int) + 1)
theorem grp_nd {n : Nat} (h : n ≤ 7) : (grp n).Nodup := by
  have : n = 0 ∨ n = 1 ∨ n = 2 ∨ n = 3 ∨ n = 4 ∨ n = 5 ∨ n = 6 ∨ n = 7 := by omega
  rcases this with rfl | rfl | rfl | rfl | rfl | rfl | rfl | rfl <;> decide
theorem grp_len (n : Nat) : (grp n).length = n := by unfold grp; simp
theorem open_iv {n k : Nat} (hn : n ≤ 7) (hk : k ≤ 4) : Iv (grp n) (OwnC k) h0 1 (openH n k) := by
  have get : ∀ (j : Nat) (s : PS), (openH n k).ps[j]? = some s → j < k ∧ s = newP (grp n) j := fun j s hj => by
    have hj : ((List.range k).map (newP (grp n)))[j]? = some s := hj
    rw [List.getElem?_map] at hj
    cases hq : (List.range k)[j]? with
    | none => rw [hq] at hj; exact nomatch hj
    | some q =>
      rw [hq] at hj
      obtain ⟨hl, e⟩ := List.getElem?_eq_some_iff.1 hq
      rw [List.getElem_range] at e
      rw [List.length_range] at hl
      subst e
      exact ⟨hl, (Option.some.inj hj).symm⟩
  have mem : ∀ s, s ∈ (openH n k).ps → ∃ j, j < k ∧ s = newP (grp n) j := fun s hs => by
    obtain ⟨j, hj, e⟩ := List.getElem_of_mem hs
    exact ⟨j, get j s (by rw [List.getElem?_eq_getElem hj, e])⟩
  refine ⟨⟨rfl, grp_nd hn, ok0 _ _, ?_, fun i a x _ hx => ?_, fun j s hs => ?_, ?_, fun m hm => absurd hm (by show ¬ (m ∈ ([] : List Ms)); simp), fun c hc => absurd hc (by show ¬ (c ∈ ([] : List Cm)); simp)⟩, ⟨by decide, fun s hs => ?_, fun i hi => ?_, fun m hm => absurd hm (by show ¬ (m ∈ ([] : List Ms)); simp), fun j x hx => ?_, fun j s hs r => ?_, ?_, ?_⟩, fun s hs => ?_⟩
  · show (List.replicate n iZ).length = (grp n).length; rw [List.length_replicate, grp_len]
  · have := List.mem_of_getElem? hx
    rw [List.eq_of_mem_replicate this]; exact aok0 _ _
  · obtain ⟨hl, rfl⟩ := get j s hs
    exact ⟨new_ok (grp_nd hn) (by omega) (by omega) ⟨j, hl, rfl⟩ (by decide) (by decide), rfl⟩
  · show ((List.range k).map (newP (grp n))).length ≤ 200; simp; omega
  · obtain ⟨j, hl, rfl⟩ := mem s hs
    exact ⟨show (1 : Int) ≤ 1 by decide, Int.le_refl _, Int.le_refl _, show (1 : Int) ≤ 1 by decide, Int.le_refl _, trivial⟩
  · rw [List.eq_of_mem_replicate hi]; decide
  · have := List.mem_of_getElem? hx
    rw [List.eq_of_mem_replicate this]; decide
  · obtain ⟨hl, rfl⟩ := get j s hs
    exact nomatch r
  · show (List.replicate k (0 : Int)).length = ((List.range k).map (newP (grp n))).length; simp
  · show (List.replicate k (0 : Int)).length = ((List.range k).map (newP (grp n))).length; simp
  · obtain ⟨j, hl, rfl⟩ := mem s hs
    trivial
theorem maj_all {zs : List Int} (h0 : 0 < zs.length) {up : Nat → Bool} (hu : ∀ k, up k = true) : Maj zs (live zs up) := by
  unfold Maj
  have : zs.countP (live zs up) = zs.length := by
    rw [List.countP_eq_length]
    intro a ha
    obtain ⟨i, hi, e⟩ := List.getElem_of_mem ha
    unfold live
    rw [List.any_eq_true]
    exact ⟨i, List.mem_range.2 hi, by rw [hu, List.getElem?_eq_getElem hi, e]; simp⟩
  omega
end Pax

end Go.Proofs.Ytpabpeppgpeaoaa
