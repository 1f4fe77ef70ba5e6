import Derived.Test.YtpabpeppgpeaoaaAr
/-! An exchange of the hall is an exchange of the proposer alone; so it ends. -/

namespace Go.Proofs.Ytpabpeppgpeaoaa
open Go.RowKit Gt
set_option linter.unusedVariables false
set_option linter.unusedSimpArgs false

namespace Pax

/-- A proposer's question to a server. -/
structure Out (zs : List Int) (c : Int) (m : Ms) : Prop where
  tc : m.tc = false
  fc : m.fc = true
  fi : m.fi = c
  ti : m.ti ∈ zs
  kk : m.k = 3 ∨ m.k = 4
theorem prep_out' {zs : List Int} {s : PS} (g : s.zs = zs) (n r : Int) : ∀ m, m ∈ (prepS s n r).2 → Out zs s.cl m := fun m hm => by
  unfold prepS at hm
  split at hm
  · obtain ⟨z, hz, rfl⟩ := List.mem_map.1 hm
    exact ⟨rfl, rfl, rfl, g ▸ hz, .inl rfl⟩
  · exact absurd hm (by simp)
theorem tick_out {zs : List Int} {s : PS} (g : s.zs = zs) (k : Lok zs s.ph) : ∀ m, m ∈ (tickS s).2 → Out zs s.cl m := by
  have hp : ∀ {x : TS Unit}, x.g = zs → ∀ m, m ∈ (missL x).map (prepM s.v0).to → Out zs s.cl m := fun e m hm => by
    obtain ⟨z, hz, rfl⟩ := List.mem_map.1 hm
    exact ⟨rfl, rfl, rfl, e ▸ (mem_miss.1 hz).1, .inl rfl⟩
  have ha : ∀ {x : TS Unit} (c : Cm), x.g = zs → ∀ m, m ∈ (missL x).map (accM s.v0 c).to → Out zs s.cl m := fun c e m hm => by
    obtain ⟨z, hz, rfl⟩ := List.mem_map.1 hm
    exact ⟨rfl, rfl, rfl, e ▸ (mem_miss.1 hz).1, .inr rfl⟩
  unfold tickS
  revert k
  cases s.ph with
  | pre x y rf => intro k; cases rf; exact hp k.gx; exact prep_out' g _ _
  | acc c x y rf => intro k; cases rf; exact ha c k.gx; exact prep_out' g _ _
  | _ => exact fun _ m hm => absurd hm (by simp)
def pot : Ph → Nat
  | .pre _ _ _ => 2
  | .acc _ _ _ _ => 1
  | _ => 0
/-- What a message makes a proposer tell. -/
structure Emi (zs : List Int) (s : PS) (t : PS × List Ms) : Prop where
  cl : t.1.cl = s.cl
  g : t.1.zs = s.zs
  len : t.2.length + pot t.1.ph * zs.length ≤ pot s.ph * zs.length
  out : ¬ Dec t.1 → ∀ m, m ∈ t.2 → Out zs s.cl m
theorem Emi.same {zs : List Int} (s : PS) : Emi zs s (s, []) := ⟨rfl, rfl, by simp, fun _ m hm => absurd hm (by simp)⟩
theorem emi_oth {zs : List Int} {s : PS} {x : TS Unit} {nk : TS Unit → Ph} (hn : ∀ y, pot (nk y) = pot s.ph) {m : Ms} {t : PS × List Ms} (ht : Emi zs s t) : Emi zs s (othS s x nk m [] [] t) := by
  unfold othS
  split
  · split
    · exact ⟨rfl, rfl, by simp [pot], fun _ m hm => absurd hm (by simp)⟩
    · split
      · exact ⟨rfl, rfl, by simp [pot], fun _ m hm => absurd hm (by simp)⟩
      · split
        · split
          · exact ⟨rfl, rfl, by simp [hn], fun _ m hm => absurd hm (by simp)⟩
          · exact .same s
        · split
          · exact ht
          · exact .same s
  · exact .same s
theorem emi_tak {zs : List Int} {s : PS} (g : s.zs = zs) (m : Ms) : Emi zs s (taksS s m [] []) := by
  unfold taksS
  cases hs : s.ph with
  | pre x y rf =>
    refine emi_oth (fun _ => by rw [hs]; rfl) ?_
    unfold takP
    split
    · split
      · unfold accS
        split
        · refine ⟨rfl, rfl, ?_, fun _ k hk => ?_⟩
          · rw [hs, List.length_map, g]; simp only [pot]; omega
          · obtain ⟨z, hz, rfl⟩ := List.mem_map.1 hk
            exact ⟨rfl, rfl, rfl, g ▸ hz, .inr rfl⟩
        · exact ⟨rfl, rfl, by simp [pot], fun _ m hm => absurd hm (by simp)⟩
      · exact ⟨rfl, rfl, by simp [hs, pot], fun _ m hm => absurd hm (by simp)⟩
    · exact .same s
  | acc c x y rf =>
    refine emi_oth (fun _ => by rw [hs]; rfl) ?_
    unfold takA
    split
    · split
      · refine ⟨rfl, rfl, ?_, fun h => absurd ⟨c, rfl⟩ h⟩
        rw [hs, List.length_map, g]; simp only [pot]; omega
      · exact ⟨rfl, rfl, by simp [hs, pot], fun _ m hm => absurd hm (by simp)⟩
    · exact .same s
  | _ => exact .same s
theorem tak_dec {s : PS} (h : Dec s) (m : Ms) : taksS s m [] [] = (s, []) := by
  obtain ⟨d, h⟩ := h
  unfold taksS; rw [h]
theorem emi_fold {zs : List Int} : ∀ (l : List Ms) {s : PS}, s.zs = zs → Emi zs s (foldT s l)
  | [], s, _ => .same s
  | m :: l, s, g => by
    have a := emi_tak g m
    have b := emi_fold l (a.g.trans g)
    refine ⟨b.cl.trans a.cl, b.g.trans a.g, ?_, fun hd k hk => ?_⟩
    · show ((taksS s m [] []).2 ++ (foldT (taksS s m [] []).1 l).2).length + pot (foldT (taksS s m [] []).1 l).1.ph * zs.length ≤ _
      have h1 := a.len
      have h2 := b.len
      rw [List.length_append]
      omega
    · have hd : ¬ Dec (foldT (taksS s m [] []).1 l).1 := hd
      have hk : k ∈ (taksS s m [] []).2 ++ (foldT (taksS s m [] []).1 l).2 := hk
      rw [List.mem_append] at hk
      rcases hk with hk | hk
      · refine a.out (fun d => hd ?_) k hk
        obtain ⟨c, d⟩ := d
        rw [foldT_dec d l]; exact ⟨c, d⟩
      · rw [← a.cl]; exact b.out hd k hk

/-- Where proposer j and the servers stand in the hall. -/
structure Mt (zs : List Int) (j : Nat) (h : Hl) (s : PS) (p : List Ms) (A : Int → In) : Prop where
  z : h.zs = zs
  hs : h.ps[j]? = some s
  wy : h.way.filter (fromJ j) = p
  ia : ∀ (i : Nat) a, zs[i]? = some a → h.ins[i]? = some (A a)
  cl : s.cl = (j : Int) + 1
  pl : p.length ≤ 2 * zs.length
  po : ∀ m, m ∈ p → Out zs s.cl m
theorem serv_to {zs : List Int} {c : Int} : ∀ (l : List Ms) (A : Int → In), (∀ m, m ∈ l → Out zs c m) → (∀ r, r ∈ (servS A l).2 → r.tc = true ∧ r.ti = c) ∧ (servS A l).2.length = l.length
  | [], A, _ => ⟨fun r hr => absurd hr (by show ¬ (r ∈ ([] : List Ms)); simp), rfl⟩
  | m :: l, A, h => by
    obtain ⟨i1, i2⟩ := serv_to l (updA A m.ti (servO A m).1) (fun k hk => h k (List.mem_cons_of_mem _ hk))
    have o := h m List.mem_cons_self
    refine ⟨fun r hr => ?_, by show (_ :: (servS _ l).2).length = _; simp only [List.length_cons, i2]⟩
    rcases List.mem_cons.1 hr with rfl | hr
    · have : ∀ k st hd cc, (ans m k st hd cc).tc = true ∧ (ans m k st hd cc).ti = c := fun k st hd cc => ⟨o.fc, o.fi⟩
      unfold servO prepA accA
      repeat (first | split | exact this _ _ _ _)
    · exact i1 r hr
theorem sendW_fit {way l : List Ms} (h : way.length + l.length ≤ 4000) : sendW way l = way ++ l := by
  unfold sendW
  rw [List.take_of_length_le (by omega)]
/-- The servers' part. -/
theorem serve_fold {zs : List Int} (hz : zs.Nodup) {c : Int} : ∀ (l : List Ms) (A : Int → In) {h : Hl}, (∀ m, m ∈ l → Out zs c m) → h.zs = zs → (∀ (i : Nat) a, zs[i]? = some a → h.ins[i]? = some (A a)) → h.way.length + l.length ≤ 4000 →
    ∃ h2, l.foldl deliverH h = h2 ∧ h2.zs = zs ∧ h2.ps = h.ps ∧ h2.nks = h.nks ∧ h2.dec = h.dec ∧ (∀ (i : Nat) a, zs[i]? = some a → h2.ins[i]? = some ((servS A l).1 a)) ∧ h2.way = h.way ++ (servS A l).2
  | [], A, h, _, z, hi, _ => ⟨h, rfl, z, rfl, rfl, rfl, hi, by show h.way = h.way ++ []; simp⟩
  | m :: l, A, h, ho, z, hi, hw => by
    have o := ho m List.mem_cons_self
    simp only [List.length_cons] at hw
    obtain ⟨i, hil, hit⟩ := List.getElem_of_mem o.ti
    have hit : zs[i]? = some m.ti := by rw [List.getElem?_eq_getElem hil, hit]
    obtain ⟨q1, _⟩ := fold_once (hitsH m) (fun h k => hitsH m h k) (fun k => zs[k]? = some m.ti) (fun h => h.zs = zs) (fun _ _ _ _ => rfl) (fun h k hI hc => by unfold hitsH; rw [hI, if_neg hc]) (fun h k hI _ => (hits_zs m h k).1.trans hI)
      (List.range zs.length) List.nodup_range (fun a b _ _ ca cb => zs_inj hz ca cb) h z
    have e0 : deliverH h m = sendH { h with ins := h.ins.set i (servO A m).1 } [(servO A m).2] := by
      unfold deliverH
      rw [if_neg (by rw [o.tc]; decide)]
      have ez : (List.range h.zs.length).foldl (hitsH m) h = hitsH m h i := by rw [z]; exact q1 i (List.mem_range.2 hil) hit
      rw [ez]
      unfold hitsH
      rw [if_pos (by rw [z]; exact hit), hi i m.ti hit]
      show hitH h m i (A m.ti) = _
      unfold hitH servO
      rcases o.kk with e | e
      · rw [if_pos e, if_pos e]
      · rw [if_neg (by rw [e]; decide), if_pos e, if_neg (by rw [e]; decide)]
    have ew : sendW h.way [(servO A m).2] = h.way ++ [(servO A m).2] := sendW_fit (by simp; omega)
    have hil2 : i < h.ins.length := (List.getElem?_eq_some_iff.1 (hi i m.ti hit)).1
    rw [List.foldl_cons, e0]
    obtain ⟨h2, f1, f2, f3, f4, f5, f6, f7⟩ := serve_fold hz l (updA A m.ti (servO A m).1) (h := sendH { h with ins := h.ins.set i (servO A m).1 } [(servO A m).2]) (fun k hk => ho k (List.mem_cons_of_mem _ hk)) z
      (fun k a hk => by
        show (h.ins.set i (servO A m).1)[k]? = _
        rw [List.getElem?_set]
        unfold updA
        by_cases e : i = k
        · subst e
          rw [hit] at hk
          cases Option.some.inj hk
          rw [if_pos rfl, if_pos hil2, if_pos rfl]
        · rw [if_neg e, if_neg (fun (ea : a = m.ti) => e (zs_inj hz hit (ea ▸ hk))), hi k a hk])
      (by show (sendW h.way [(servO A m).2]).length + l.length ≤ 4000; rw [ew]; simp; omega)
    refine ⟨h2, f1, f2, f3, f4, f5, f6, ?_⟩
    rw [f7]
    show sendW h.way [(servO A m).2] ++ _ = h.way ++ ((servO A m).2 :: _)
    rw [ew]; simp
def nkJ (h : Hl) (j : Nat) : Int := h.nks[j]?.getD 0
theorem sendW_take (X l : List Ms) : sendW (X.take 4000) l = (X ++ l).take 4000 := by
  unfold sendW
  rw [List.take_append, List.length_take]
  congr 2
  omega
/-- One answer comes to proposer j. -/
theorem come_one {h : Hl} {j : Nat} {s : PS} {m : Ms} {e : Int} (n : Num e h) (he : e + 1 ≤ 1099511627776) (hs : h.ps[j]? = some s) (tc : m.tc = true) (ti : m.ti = (j : Int) + 1) :
    (deliverH h m).zs = h.zs ∧ (deliverH h m).ins = h.ins ∧ (deliverH h m).ps[j]? = some (taksS s m [] []).1 ∧ (deliverH h m).way = sendW h.way (taksS s m [] []).2 ∧ nkJ h j ≤ nkJ (deliverH h m) j ∧
      (rfP s.ph = false → rfP (taksS s m [] []).1.ph = true → NumP e s → m.st.n ≤ e → m.k ≠ 17 → nkJ h j < nkJ (deliverH h m) j) := by
  have ej : (m.ti - 1).toNat = j := by rw [ti]; omega
  have hlt := (List.getElem?_eq_some_iff.1 hs).1
  have e0 : deliverH h m = lookH (playH (nackH h j m s) j (taksS s m [] [])) := by
    unfold deliverH
    rw [if_pos tc, ej, hs]
    show (if 1 ≤ m.ti then _ else h) = _
    rw [if_pos (by rw [ti]; omega)]
  rw [e0]
  obtain ⟨a1, a2, a3⟩ := nack_zs h j m s
  have hb : 0 ≤ nkJ h j ∧ nkJ h j ≤ e := by
    unfold nkJ
    cases hq : h.nks[j]? with
    | none => exact ⟨Int.le_refl _, n.e0⟩
    | some q => exact n.nks j q hq
  have w := wr1_ok (n := nkJ h j) hb.1 (by omega)
  have hset : (h.nks.set j (wr1 (nkJ h j)))[j]?.getD 0 = wr1 (nkJ h j) := by rw [List.getElem?_set_self (by rw [n.ls]; exact hlt)]; rfl
  have hN : nkJ (lookH (playH (nackH h j m s) j (taksS s m [] []))) j = (nackH h j m s).nks[j]?.getD 0 := rfl
  refine ⟨a1, a2, ?_, ?_, ?_, fun r1 r2 np hm h17 => ?_⟩
  · show ((nackH h j m s).ps.set j (taksS s m [] []).1)[j]? = _
    rw [nack_ps, List.getElem?_set_self hlt]
  · show sendW (nackH h j m s).way _ = _
    rw [a3]
  · rw [hN]
    rcases nack_nks h j m s with k | ⟨_, _, k⟩
    · rw [k]; exact Int.le_refl _
    · rw [k]
      show _ ≤ (h.nks.set j (wr1 (nkJ h j)))[j]?.getD 0
      rw [hset]; omega
  · rw [hN]
    obtain ⟨_, r4⟩ := (num_tak np he hm h17).rf r2
    rcases r4 with r4 | ⟨r4, r5⟩
    · rw [r1] at r4; exact nomatch r4
    · have k : (nackH h j m s).nks = h.nks.set j (wr1 (h.nks[j]?.getD 0)) := by unfold nackH; rw [if_pos ⟨r4, r5⟩]
      rw [k]
      show _ < (h.nks.set j (wr1 (nkJ h j)))[j]?.getD 0
      rw [hset]; omega
/-- The answers come. -/
theorem come_fold {zs : List Int} {P : Cm → Prop} {j : Nat} : ∀ (l : List Ms) {t : Hist Cm} {e : Int} {h : Hl} {s : PS} (X : List Ms), Iv zs P t e h → e + l.length ≤ 1099511627776 → h.ps[j]? = some s → h.way = X.take 4000 → (∀ m, m ∈ l → m.tc = true ∧ m.ti = (j : Int) + 1 ∧ Mok zs t m ∧ m.st.n ≤ e) →
    (l.foldl deliverH h).zs = h.zs ∧ (l.foldl deliverH h).ins = h.ins ∧ (l.foldl deliverH h).ps[j]? = some (foldT s l).1 ∧ (l.foldl deliverH h).way = (X ++ (foldT s l).2).take 4000 ∧ nkJ h j ≤ nkJ (l.foldl deliverH h) j ∧
      (rfP s.ph = false → rfP (foldT s l).1.ph = true → nkJ h j < nkJ (l.foldl deliverH h) j)
  | [], t, e, h, s, X, v, _, hs, hw, _ => ⟨rfl, rfl, hs, by show h.way = (X ++ []).take 4000; rw [List.append_nil]; exact hw, Int.le_refl _, fun r1 r2 => by have r2 : rfP s.ph = true := r2; rw [r1] at r2; exact nomatch r2⟩
  | m :: l, t, e, h, s, X, v, he, hs, hw, hl => by
    simp only [List.length_cons] at he
    obtain ⟨m1, m2, m3, m4⟩ := hl m List.mem_cons_self
    have np := v.nu.ps s (List.mem_of_getElem? hs)
    obtain ⟨a1, a2, a3, a4, a5, a6⟩ := come_one v.nu (by omega) hs m1 m2
    obtain ⟨t', l1, v'⟩ := v.deliver (by omega) m3 m4
    obtain ⟨b1, b2, b3, b4, b5, b6⟩ := come_fold l (X ++ (taksS s m [] []).2) v' (by omega) a3 (by rw [a4, hw, sendW_take]) (fun k hk => by
      obtain ⟨k1, k2, k3, k4⟩ := hl k (List.mem_cons_of_mem _ hk)
      exact ⟨k1, k2, k3.le l1, by omega⟩)
    refine ⟨b1.trans a1, b2.trans a2, b3, ?_, Int.le_trans a5 b5, fun r1 r2 => ?_⟩
    · rw [List.foldl_cons, b4, List.append_assoc]; rfl
    · rw [List.foldl_cons]
      cases r3 : rfP (taksS s m [] []).1.ph
      · have := b6 r3 r2; omega
      · have := a6 r1 r3 np m4 m3.k17; omega
def DecJ (j : Nat) (h : Hl) : Prop := ∃ s, h.ps[j]? = some s ∧ Dec s
def exS (up : Nat → Bool) (j : Nat) (h : Hl) : Hl := match h.ps[j]? with | some s => exchH up h j s | none => h
theorem filter_from {zs : List Int} {j : Nat} {p : List Ms} (h : ∀ m, m ∈ p → Out zs ((j : Int) + 1) m) : p.filter (fromJ j) = p := by
  rw [List.filter_eq_self]
  intro m hm
  unfold fromJ
  rw [(h m hm).fc, (h m hm).fi]
  simp
/-- An exchange of the hall is an exchange of the proposer. -/
theorem exch_mt {zs : List Int} {P : Cm → Prop} {t : Hist Cm} {e : Int} {h : Hl} (v : Iv zs P t e h) (he : e + 20000 ≤ 1099511627776) (hz9 : zs.length ≤ 100) {up : Nat → Bool} {j : Nat} {s : PS} {p : List Ms} {A : Int → In} (M : Mt zs j h s p A) :
    (exS up j h).ps[j]? = some (xch (live zs up) s p A).1 ∧ (¬ Dec (xch (live zs up) s p A).1 → Mt zs j (exS up j h) (xch (live zs up) s p A).1 (xch (live zs up) s p A).2.1 (xch (live zs up) s p A).2.2) ∧
      nkJ h j ≤ nkJ (exS up j h) j ∧ (rfP (xch (live zs up) s p A).1.ph = true → nkJ h j < nkJ (exS up j h) j) := by
  obtain ⟨z, hs, wy, ia, cl, pl, po⟩ := M
  have g := (v.hi.ps j s hs).1.g
  have hm0 := List.mem_of_getElem? hs
  have lk := v.lk s hm0
  have tl := tick_len g lk
  have tou := tick_out g lk
  obtain ⟨t1, l1, v1, hmk⟩ := v.ask (by omega) hs
  have v2 := v1.gone (l := []) (fun m hm => absurd hm (by simp))
  have rf0 := (num_tick (v.nu.ps s hm0) (by omega)).2.2
  have eE : exS up j h = exchH up h j s := by unfold exS; rw [hs]
  have hOut : ∀ m, m ∈ (p ++ (tickS s).2).filter (fun m => live zs up m.ti) → Out zs s.cl m := fun m hm => by
    rw [List.mem_filter, List.mem_append] at hm
    exact hm.1.elim (po m) (tou m)
  have hMok : ∀ m, m ∈ (p ++ (tickS s).2).filter (fun m => live zs up m.ti) → Mok zs t1 m ∧ m.st.n ≤ e + 1 := fun m hm => by
    rw [List.mem_filter, List.mem_append, ← wy, List.mem_filter] at hm
    rcases hm.1 with hm | hm
    · exact ⟨(v.hi.way m hm.1).le l1, by have := v.nu.way m hm.1; omega⟩
    · exact hmk m hm
  have hll : ((p ++ (tickS s).2).filter (fun m => live zs up m.ti)).length ≤ 300 := by
    refine Nat.le_trans (List.length_filter_le _ _) ?_
    rw [List.length_append]; omega
  have e1 := relays_all v.hi.nd up (h.way.filter (fromJ j) ++ (tickS s).2) (h := { h with ps := h.ps.set j (tickS s).1, way := [] }) z
  rw [eE]
  unfold exchH xch
  simp only
  rw [e1, wy]
  generalize (p ++ (tickS s).2).filter (fun m => live zs up m.ti) = out at *
  obtain ⟨t2, l2, v3⟩ := Iv.delivers out v2 (by omega) hMok
  obtain ⟨h2, f1, f2, f3, f4, f5, f6, f7⟩ := serve_fold v.hi.nd out A (h := { h with ps := h.ps.set j (tickS s).1, way := [] }) hOut z ia (by simp; omega)
  rw [f1] at v3 ⊢
  have f7 : h2.way = (servS A out).2 := by rw [f7]; rfl
  obtain ⟨s1, s2⟩ := serv_to out A hOut
  have hs2 : h2.ps[j]? = some (tickS s).1 := by
    rw [f3]
    show (h.ps.set j _)[j]? = _
    rw [List.getElem?_set_self (List.getElem?_eq_some_iff.1 hs).1]
  have tg : (tickS s).1.zs = zs := (v1.hi.ps j _ (by show (h.ps.set j _)[j]? = _; rw [List.getElem?_set_self (List.getElem?_eq_some_iff.1 hs).1])).1.g
  have tcl : (tickS s).1.cl = s.cl := tick_cl s
  obtain ⟨c1, c2, c3, c4, c5, c6⟩ := come_fold h2.way (j := j) (h := { h2 with way := [] }) (s := (tickS s).1) [] (v3.gone (l := []) (fun m hm => absurd hm (by simp))) (by rw [f7, s2]; omega) hs2 rfl (fun m hm => by
    have hm' := hm
    rw [f7] at hm'
    exact ⟨(s1 m hm').1, by rw [(s1 m hm').2, cl], v3.hi.way m hm, v3.nu.way m hm⟩)
  rw [f7] at c1 c2 c3 c4 c5 c6 ⊢
  have em := emi_fold (servS A out).2 tg
  have nk0 : nkJ { h2 with way := [] } j = nkJ h j := by unfold nkJ; show h2.nks[j]?.getD 0 = _; rw [f4]
  rw [nk0] at c5 c6
  refine ⟨c3, fun hd => ?_, c5, fun r => c6 rf0 r⟩
  have ho : ∀ m, m ∈ (foldT (tickS s).1 (servS A out).2).2 → Out zs ((j : Int) + 1) m := fun m hm => by
    have := em.out hd m hm
    rw [tcl, cl] at this
    exact this
  have hpt : ∀ ph : Ph, pot ph ≤ 2 := fun ph => by cases ph <;> simp [pot]
  have hlen : (foldT (tickS s).1 (servS A out).2).2.length ≤ 2 * zs.length := by
    have h1 := em.len
    have h2 : pot (tickS s).1.ph * zs.length ≤ 2 * zs.length := Nat.mul_le_mul_right _ (hpt _)
    omega
  rw [List.nil_append, List.take_of_length_le (by omega)] at c4
  have ecl : (foldT (tickS s).1 (servS A out).2).1.cl = (j : Int) + 1 := by rw [em.cl, tcl, cl]
  exact ⟨c1.trans f2, c3, by rw [c4]; exact filter_from ho, fun i a hi => by rw [c2]; exact f6 i a hi, ecl, hlen, fun m hm => by rw [ecl]; exact ho m hm⟩

end Pax

end Go.Proofs.Ytpabpeppgpeaoaa
