import Derived.Test.YtpabpeppgpeaoaaAu
/-! ProposerAgrees, ProposerEnds: what the loops keep. -/

namespace Go.Proofs.Ytpabpeppgpeaoaa
open Go.RowKit Gt
set_option linter.unusedVariables false
set_option linter.unusedSimpArgs false

namespace Pax

theorem Hok.relays {B : Nat} (up : Nat → Bool) : ∀ (l : List Ms) {h : Hl}, Hok B h → (∀ m, m ∈ l → PlM m) → Hok B (l.foldl (Pax.relays up) h)
  | [], _, k, _ => k
  | m :: l, h, k, hl => by
    refine Hok.relays up l ?_ (fun x hx => hl x (List.mem_cons_of_mem _ hx))
    have hm := hl m List.mem_cons_self
    unfold Pax.relays
    generalize List.range h.zs.length = q
    induction q generalizing h with
    | nil => exact k
    | cons i q ih =>
      rw [List.foldl_cons]
      refine ih _ ?_
      unfold relayH
      split
      · exact k.deliver hm
      · exact k
theorem Hok.ex {B : Nat} {h : Hl} (k : Hok B h) (up : Nat → Bool) (j : Nat) : Hok B (exS up j h) := by
  unfold exS
  split
  · next s hs =>
    have q := pl_tick (k.pr s (List.mem_of_getElem? hs))
    unfold exchH
    simp only
    have k1 : Hok B { h with ps := h.ps.set j (tickS s).1, way := [] } := (k.gone (l := []) k.b (Nat.zero_le _) (fun m hm => absurd hm (by simp))).setP j q.s
    have k2 := Hok.relays up (h.way.filter (fromJ j) ++ (tickS s).2) k1 (fun m hm => by
      rw [List.mem_append, List.mem_filter] at hm
      exact hm.elim (fun e => k.pl m e.1) (q.m m))
    generalize (h.way.filter (fromJ j) ++ (tickS s).2).foldl (Pax.relays up) { h with ps := h.ps.set j (tickS s).1, way := [] } = h2 at k2
    exact Hok.delivers h2.way (k2.gone (l := []) k2.b (Nat.zero_le _) (fun m hm => absurd hm (by simp))) (fun m hm => k2.pl m hm)
  · exact k
/-- Whose message it is. -/
def FrJ (j : Nat) (m : Ms) : Prop := m.tc = false ∧ m.fc = true ∧ m.fi = (j : Int) + 1
def ToJ (j : Nat) (m : Ms) : Prop := m.tc = true ∧ m.ti = (j : Int) + 1
theorem hits_to {j : Nat} {m : Ms} (hm : FrJ j m) {h : Hl} (i : Nat) (k : ∀ m, m ∈ h.way → ToJ j m) : ∀ m', m' ∈ (hitsH m h i).way → ToJ j m' := by
  have ha : ∀ a b c d, ToJ j (ans m a b c d) := fun a b c d => ⟨hm.2.1, hm.2.2⟩
  have hs : ∀ (h' : Hl) (a : Ms), h'.way = h.way → ToJ j a → ∀ m', m' ∈ (sendH h' [a]).way → ToJ j m' := fun h' a e q m' hm' => by
    rcases mem_sendW hm' with f | f
    · exact k m' (e ▸ f)
    · rw [List.mem_singleton] at f; rw [f]; exact q
  unfold hitsH
  split
  · unfold hitH
    split
    · obtain ⟨_, _, _, _, e⟩ := prepA_ans (h.ins[i]?.getD ⟨sZ, sZ, cZ, false⟩) m
      exact hs _ _ rfl (by rw [e]; exact ha _ _ _ _)
    · split
      · obtain ⟨_, _, _, _, e⟩ := accA_ans (h.ins[i]?.getD ⟨sZ, sZ, cZ, false⟩) m
        exact hs _ _ rfl (by rw [e]; exact ha _ _ _ _)
      · split
        · exact k
        · exact hs _ _ rfl (ha _ _ _ _)
  · exact k
theorem hitsAll_to {j : Nat} {m : Ms} (hm : FrJ j m) : ∀ (l : List Nat) {h : Hl}, (∀ m, m ∈ h.way → ToJ j m) → ∀ m', m' ∈ (l.foldl (hitsH m) h).way → ToJ j m'
  | [], _, k => k
  | i :: l, _, k => hitsAll_to hm l (hits_to hm i k)
theorem outs_to {j : Nat} : ∀ (l : List Ms) {h : Hl}, (∀ m, m ∈ l → FrJ j m) → (∀ m, m ∈ h.way → ToJ j m) → (∀ m', m' ∈ (l.foldl deliverH h).way → ToJ j m') ∧ (l.foldl deliverH h).ps = h.ps
  | [], _, _, k => ⟨k, rfl⟩
  | m :: l, h, hl, k => by
    have hm := hl m List.mem_cons_self
    have e : deliverH h m = (List.range h.zs.length).foldl (hitsH m) h := by unfold deliverH; rw [if_neg (by rw [hm.1]; decide)]
    obtain ⟨a, b⟩ := outs_to l (h := deliverH h m) (fun x hx => hl x (List.mem_cons_of_mem _ hx)) (by rw [e]; exact hitsAll_to hm _ k)
    exact ⟨a, b.trans (by rw [e]; exact (hitsAll_zs m _ h).2)⟩
theorem emit_from {s : PS} {c : Int} (hc : s.cl = c) : (∀ n r m, m ∈ (prepS s n r).2 → m.tc = false ∧ m.fc = true ∧ m.fi = c) ∧ (∀ m, m ∈ (tickS s).2 → m.tc = false ∧ m.fc = true ∧ m.fi = c) ∧ ∀ x m, m ∈ (taksS s x [] []).2 → m.tc = false ∧ m.fc = true ∧ m.fi = c := by
  have hp : ∀ n r m, m ∈ (prepS s n r).2 → m.tc = false ∧ m.fc = true ∧ m.fi = c := fun n r m hm => by
    unfold prepS at hm
    split at hm
    · obtain ⟨z, _, rfl⟩ := List.mem_map.1 hm; exact ⟨rfl, rfl, hc⟩
    · exact absurd hm (by simp)
  have nil : ∀ m, m ∈ ([] : List Ms) → m.tc = false ∧ m.fc = true ∧ m.fi = c := fun m hm => absurd hm (by simp)
  refine ⟨hp, fun m hm => ?_, fun x m hm => ?_⟩
  · unfold tickS at hm
    split at hm
    · split at hm
      · exact hp _ _ m hm
      · obtain ⟨z, _, rfl⟩ := List.mem_map.1 hm; exact ⟨rfl, rfl, hc⟩
    · split at hm
      · exact hp _ _ m hm
      · obtain ⟨z, _, rfl⟩ := List.mem_map.1 hm; exact ⟨rfl, rfl, hc⟩
    · exact nil m hm
  · have oth : ∀ (y : TS Unit) (nk : TS Unit → Ph) (t : PS × List Ms), (∀ m, m ∈ t.2 → m.tc = false ∧ m.fc = true ∧ m.fi = c) → ∀ m, m ∈ (othS s y nk x [] [] t).2 → m.tc = false ∧ m.fc = true ∧ m.fi = c := fun y nk t ht m hm => by
      unfold othS at hm
      split at hm
      · split at hm
        · exact nil m hm
        · split at hm
          · exact nil m hm
          · split at hm
            · exact nil m hm
            · split at hm
              · exact ht m hm
              · exact nil m hm
      · exact nil m hm
    unfold taksS at hm
    split at hm
    · refine oth _ _ _ (fun m hm => ?_) m hm
      unfold takP at hm
      split at hm
      · split at hm
        · unfold accS at hm
          split at hm
          · obtain ⟨z, _, rfl⟩ := List.mem_map.1 hm; exact ⟨rfl, rfl, hc⟩
          · exact nil m hm
        · exact nil m hm
      · exact nil m hm
    · refine oth _ _ _ (fun m hm => ?_) m hm
      unfold takA at hm
      split at hm
      · split at hm
        · obtain ⟨z, _, rfl⟩ := List.mem_map.1 hm; exact ⟨rfl, rfl, hc⟩
        · exact nil m hm
      · exact nil m hm
    · exact nil m hm
theorem ans_from {j : Nat} : ∀ (l : List Ms) {h : Hl}, (∀ m, m ∈ l → ToJ j m) → (∀ s, h.ps[j]? = some s → s.cl = (j : Int) + 1) → (∀ m, m ∈ h.way → FrJ j m) → ∀ m', m' ∈ (l.foldl deliverH h).way → FrJ j m'
  | [], _, _, _, k => k
  | m :: l, h, hl, hc, k => by
    have hm := hl m List.mem_cons_self
    have ej : (m.ti - 1).toNat = j := by rw [hm.2]; omega
    have key : (∀ s, (deliverH h m).ps[j]? = some s → s.cl = (j : Int) + 1) ∧ ∀ m', m' ∈ (deliverH h m).way → FrJ j m' := by
      unfold deliverH
      rw [if_pos hm.1, ej]
      split
      · next s hs =>
        rw [if_pos (by rw [hm.2]; omega)]
        have hcl := hc s hs
        refine ⟨fun x hx => ?_, fun m' hm' => ?_⟩
        · replace hx : ((nackH h j m s).ps.set j (taksS s m [] []).1)[j]? = some x := hx
          rw [nack_ps, List.getElem?_set_self (List.getElem?_eq_some_iff.1 hs).1] at hx
          cases Option.some.inj hx
          rw [(emi_tak rfl m).cl]; exact hcl
        · replace hm' : m' ∈ sendW (nackH h j m s).way (taksS s m [] []).2 := hm'
          rcases mem_sendW hm' with f | f
          · rw [(nack_zs h j m s).2.2] at f; exact k m' f
          · exact (emit_from hcl).2.2 m m' f
      · exact ⟨hc, k⟩
    exact ans_from l (fun x hx => hl x (List.mem_cons_of_mem _ hx)) key.1 key.2
/-- What is under way behind an exchange is the proposer's own. -/
theorem ex_from {zs : List Int} {P : Cm → Prop} {t : Hist Cm} {e : Int} {h : Hl} (v : Iv zs P t e h) (up : Nat → Bool) {j : Nat} {s : PS} (hs : h.ps[j]? = some s) (hf : ∀ m, m ∈ h.way.filter (fromJ j) → m.tc = false) : ∀ m, m ∈ (exS up j h).way → FrJ j m := by
  have hcl := (v.hi.ps j s hs).2
  have hlt := (List.getElem?_eq_some_iff.1 hs).1
  have eE : exS up j h = exchH up h j s := by unfold exS; rw [hs]
  rw [eE]
  unfold exchH
  simp only
  rw [relays_all v.hi.nd up _ (h := { h with ps := h.ps.set j (tickS s).1, way := [] }) v.hi.z]
  have ho : ∀ m, m ∈ (h.way.filter (fromJ j) ++ (tickS s).2).filter (fun m => live zs up m.ti) → FrJ j m := fun m hm => by
    rw [List.mem_filter, List.mem_append] at hm
    rcases hm.1 with hm | hm
    · have h1 := hf m hm
      rw [List.mem_filter] at hm
      unfold fromJ at hm
      rw [Bool.and_eq_true, decide_eq_true_eq] at hm
      exact ⟨h1, hm.2.1, hm.2.2⟩
    · exact (emit_from hcl).2.1 m hm
  obtain ⟨a, b⟩ := outs_to _ (h := { h with ps := h.ps.set j (tickS s).1, way := [] }) ho (fun m hm => absurd hm (by simp))
  generalize ((h.way.filter (fromJ j) ++ (tickS s).2).filter (fun m => live zs up m.ti)).foldl deliverH { h with ps := h.ps.set j (tickS s).1, way := [] } = h2 at a b
  refine ans_from h2.way (h := { h2 with way := [] }) a (fun x hx => ?_) (fun m hm => absurd hm (by simp))
  replace hx : h2.ps[j]? = some x := hx
  rw [b] at hx
  replace hx : (h.ps.set j (tickS s).1)[j]? = some x := hx
  rw [List.getElem?_set_self hlt] at hx
  cases Option.some.inj hx
  rw [tick_cl]; exact hcl
theorem look_dec : ∀ (ps : List PS) {d : List Cm}, d ≠ [] → ps.foldl lookC d ≠ []
  | [], _, h => h
  | s :: ps, d, h => by
    refine look_dec ps ?_
    unfold lookC
    split
    · split
      · next e => intro e2; have := congrArg List.length e2; rw [List.length_drop] at this; simp at this e; omega
      · simp
    · exact h
theorem decJ_look {j : Nat} {h : Hl} (d : DecJ j h) : (lookH h).dec ≠ [] := by
  obtain ⟨s, hs, c, hc⟩ := d
  have hm := List.mem_of_getElem? hs
  show h.ps.foldl lookC h.dec ≠ []
  generalize h.ps = ps at hm
  generalize h.dec = d0
  induction ps generalizing d0 with
  | nil => simp at hm
  | cons x ps ih =>
    rw [List.foldl_cons]
    rcases List.mem_cons.1 hm with rfl | hm
    · refine look_dec ps ?_
      have e : (decO s).2 = true := by unfold decO; rw [hc]
      unfold lookC
      rw [if_pos e]
      split
      · next e => intro e2; have := congrArg List.length e2; rw [List.length_drop] at this; simp at this e; omega
      · simp
    · exact ih hm _
/-- The first that was decided, if any, is known. -/
def Fst (zs : List Int) (t : Hist Cm) (f : Cm) (b : Bool) : Prop := b = true → Known zs t f
theorem Fst.le {zs : List Int} {t t' : Hist Cm} {f : Cm} {b : Bool} (h : Fst zs t f b) (l : Le t t') : Fst zs t' f b := fun e => (h e).le l
/-- What agree asks for. -/
structure AgP (k : Nat) (h : Hl) (f c0 : Cm) (b : Bool) : Prop where
  all : ∀ c, c ∈ h.dec → c = c0
  hf : b = true → f = c0
  h1 : h.dec ≠ [] → 1 ≤ c0.cl
  h2 : h.dec ≠ [] → c0.cl ≤ k
  h3 : h.dec ≠ [] → cmdOf c0.cl = c0
theorem agp {zs : List Int} {k : Nat} {t : Hist Cm} {e : Int} {h : Hl} (v : Iv zs (OwnC k) t e h) {f : Cm} {b : Bool} (hf : Fst zs t f b) :
    ∃ c0, AgP k h f c0 b ∧ ∀ f' b', (b' = true → f' = c0) → (h.dec ≠ [] → b' = true) → (h.dec = [] → b' = b) → Fst zs t f' b' := by
  have own : ∀ c, Known zs t c → 1 ≤ c.cl ∧ c.cl ≤ k ∧ cmdOf c.cl = c := fun c hc => by
    obtain ⟨i, hi, e⟩ := v.hi.ok.own hc
    rw [e]
    exact ⟨by show (1 : Int) ≤ (i : Int) + 1; omega, by show (i : Int) + 1 ≤ k; omega, rfl⟩
  cases b with
  | true =>
    have hk := hf rfl
    refine ⟨f, ⟨fun c hc => v.hi.ok.agree (v.hi.dec c hc) hk, fun _ => rfl, fun _ => (own f hk).1, fun _ => (own f hk).2.1, fun _ => (own f hk).2.2⟩, fun f' b' h1 _ _ e => by rw [h1 e]; exact hk⟩
  | false =>
    cases hd : h.dec with
    | nil => exact ⟨f, ⟨fun c hc => absurd hc (by rw [hd]; simp), (fun e => nomatch e), fun e => absurd hd e, fun e => absurd hd e, fun e => absurd hd e⟩, fun f' b' _ _ h3 e => by rw [h3 rfl] at e; exact nomatch e⟩
    | cons c l =>
      have hk := v.hi.dec c (by rw [hd]; exact List.mem_cons_self)
      exact ⟨c, ⟨fun c' hc => v.hi.ok.agree (v.hi.dec c' hc) hk, (fun e => nomatch e), fun _ => (own c hk).1, fun _ => (own c hk).2.1, fun _ => (own c hk).2.2⟩, fun f' b' h1 _ _ e => by rw [h1 e]; exact hk⟩
/-- Behind i picks. -/
structure S1 (n k i : Nat) (h : Hl) (f : Cm) (b : Bool) : Prop where
  iv : ∃ t, Iv (grp n) (OwnC k) t (1 + i) h ∧ Fst (grp n) t f b
  ok : Hok (4000 + i) h
  pl : h.ps.length = k
theorem s1_start {n k : Nat} (hn : n ≤ 7) (hk : k ≤ 4) (f : Cm) : S1 n k 0 (openH n k) f false :=
  ⟨⟨h0, by simpa using open_iv hn hk, fun e => nomatch e⟩, open_ok hn hk, by show ((List.range k).map (newP (grp n))).length = k; simp⟩
theorem act_pl {h : Hl} {x : Int} : (actH h x).ps.length = h.ps.length := by
  have dl : ∀ (h : Hl) (m : Ms), (deliverH h m).ps.length = h.ps.length := fun h m => by
    rcases deliver_ps h m with e | ⟨j, s, _, e⟩ <;> rw [e]
    rw [List.length_set]
  unfold actH
  split
  · split
    · show (h.ps.set _ _).length = _; rw [List.length_set]
    · rfl
  · split
    · split
      · show (h.ps.set _ _).length = _; rw [List.length_set]
      · rfl
    · split
      · rfl
      · split
        · rfl
        · split
          · rfl
          · exact dl _ _
theorem S1.act {n k i : Nat} {h : Hl} {f : Cm} {b : Bool} (s : S1 n k i h f b) (hi : i ≤ 1048576) (x : Int) : S1 n k (i + 1) (actH h x) f b := by
  obtain ⟨t, v, hf⟩ := s.iv
  obtain ⟨t', l, v'⟩ := v.act (by omega) x
  exact ⟨⟨t', by have e : (1 : Int) + ((i + 1 : Nat) : Int) = 1 + i + 1 := by omega
                 rw [e]; exact v', hf.le l⟩, s.ok.act x, act_pl.trans s.pl⟩
theorem S1.agree {n k i : Nat} {h : Hl} {f : Cm} {b : Bool} (s : S1 n k i h f b) : ∃ c0, AgP k h f c0 b ∧ ∀ f' b', (b' = true → f' = c0) → (h.dec ≠ [] → b' = true) → (h.dec = [] → b' = b) → S1 n k i h f' b' := by
  obtain ⟨t, v, hf⟩ := s.iv
  obtain ⟨c0, a, q⟩ := agp v hf
  exact ⟨c0, a, fun f' b' h1 h2 h3 => ⟨⟨t, v, q f' b' h1 h2 h3⟩, s.ok, s.pl⟩⟩
/-- Behind j proposers' turns. -/
structure S2 (n k : Nat) (e : Int) (j : Nat) (h : Hl) (f : Cm) (b : Bool) : Prop where
  iv : ∃ t, Iv (grp n) (OwnC k) t e h ∧ Fst (grp n) t f b
  ok : Hok 1100000 h
  pl : h.ps.length = k
  wl : h.way.length ≤ 4000
  wf : ∀ m, m ∈ h.way → m.fi ≤ j
  an : 0 < j → b = true
theorem S1.s2 {n k i : Nat} {h : Hl} {f : Cm} {b : Bool} (s : S1 n k i h f b) (hi : i ≤ 1048576) : S2 n k (1 + i) 0 { h with way := [] } f b := by
  obtain ⟨t, v, hf⟩ := s.iv
  exact ⟨⟨t, v.gone (fun m hm => absurd hm (by simp)), hf⟩, s.ok.gone (by omega) (by simp) (fun m hm => absurd hm (by simp)), s.pl, by simp, fun m hm => absurd hm (by simp), fun e => absurd e (by omega)⟩
def upD (dead : Nat) : Nat → Bool := fun k => decide (dead &&& 2 ^ k = 0)
def FA (j : Nat) (h : Hl) : Hl := lookH (exS (upD 0) j h)
/-- In proposer j's turn, behind i exchanges. -/
structure S3 (n k : Nat) (e : Int) (j i : Nat) (hB h : Hl) (f : Cm) (b : Bool) : Prop where
  it : h = itF (FA j) i hB
  ex : ∃ q, q ≤ 4 ∧ DecJ j (itF (FA j) q hB)
  iv : ∃ t, Iv (grp n) (OwnC k) t (e + 10000 * i) h ∧ Fst (grp n) t f b
  ok : Hok 1100000 h
  pl : h.ps.length = k
  wl : h.way.length ≤ 4000
  wf : ∀ m, m ∈ h.way.filter (fromJ j) → m.tc = false
  wa : 0 < i → ∀ m, m ∈ h.way → FrJ j m
  an : 0 < i → h.dec ≠ [] → b = true
theorem Iv.mt' {zs : List Int} {P : Cm → Prop} {t : Hist Cm} {e : Int} {h : Hl} (v : Iv zs P t e h) {j : Nat} {s : PS} (hs : h.ps[j]? = some s) (hw : h.way.filter (fromJ j) = []) : Mt zs j h s [] (insA zs h.ins) :=
  ⟨v.hi.z, hs, hw, fun i a hi => insA_at v.hi.nd v.hi.len hi, (v.hi.ps j s hs).2, Nat.zero_le _, fun m hm => absurd hm (by simp)⟩
theorem ends_four' {zs : List Int} {P : Cm → Prop} {t : Hist Cm} {e : Int} {h : Hl} (v : Iv zs P t e h) (he : e + 100000 ≤ 1099511627776) (hz9 : zs.length ≤ 100) {up : Nat → Bool} (hM : Maj zs (live zs up)) {j : Nat} {s : PS} (hs : h.ps[j]? = some s) (hw : h.way.filter (fromJ j) = []) (hl : h.way.length ≤ 4000) (hf : s.ph ≠ .fresh)
    {F : Hl → Hl} (hF : ∀ h, F h = exS up j h ∨ F h = lookH (exS up j h)) : ∃ k, k ≤ 4 ∧ DecJ j (itF F k h) := by
  have M := v.mt' hs hw
  have hE : Ends (live zs up) 4 (s, [], insA zs h.ins) := by
    cases asks_of v hs hf with
    | pre x y rf h q => exact (ends_pre v.hi.nd hM (by omega) (M.bd v) h q).1
    | acc c x y rf h q => exact ends_acc v.hi.nd hM (by omega) (M.bd v) h q
    | dec c h => exact .now ⟨c, h⟩
  exact run_ends hz9 hF 4 hE v (by omega) hl M
theorem up0 (k : Nat) : upD 0 k = true := by unfold upD; simp
theorem S2.s3 {n k j : Nat} {e : Int} {h : Hl} {f : Cm} {b : Bool} (s2 : S2 n k e j h f b) (hn0 : 0 < n) (hn : n ≤ 7) (he : e + 200000 ≤ 1099511627776) {s : PS} (hs : h.ps[j]? = some s) :
    S3 n k e j 0 { h with ps := h.ps.set j (begS s).1 } { h with ps := h.ps.set j (begS s).1 } f b := by
  obtain ⟨t, v, hf⟩ := s2.iv
  obtain ⟨t', l, v'⟩ := v.ask0 (by omega) hs
  have hlt := (List.getElem?_eq_some_iff.1 hs).1
  have hm := List.mem_of_getElem? hs
  have hfi : h.way.filter (fromJ j) = [] := by
    rw [List.filter_eq_nil_iff]
    intro m hm hfr
    unfold fromJ at hfr
    rw [Bool.and_eq_true, decide_eq_true_eq] at hfr
    have := s2.wf m hm
    omega
  have hs' : ({ h with ps := h.ps.set j (begS s).1 } : Hl).ps[j]? = some (begS s).1 := by show (h.ps.set j _)[j]? = _; rw [List.getElem?_set_self hlt]
  have d := ends_four' v' (by omega) (by rw [grp_len]; omega) (maj_all (by rw [grp_len]; exact hn0) up0) hs' hfi s2.wl (beg_asks (v.nu.ps s hm) (by omega)).1 (F := FA j) (fun h => .inr rfl)
  refine ⟨rfl, d, ⟨t', by simpa using v', hf.le l⟩, s2.ok.setP j (pl_beg (s2.ok.pr s hm)).s, by show (h.ps.set j _).length = k; rw [List.length_set]; exact s2.pl, s2.wl, fun m hm => ?_, fun e => absurd e (by omega), fun e => absurd e (by omega)⟩
  replace hm : m ∈ h.way.filter (fromJ j) := hm
  rw [hfi] at hm; simp at hm
theorem dels_zs : ∀ (l : List Ms) (h : Hl), (l.foldl deliverH h).zs = h.zs
  | [], _ => rfl
  | m :: l, h => by rw [List.foldl_cons, dels_zs l]; exact deliver_zs h m
theorem rel_zs (up : Nat → Bool) (m : Ms) : ∀ (q : List Nat) (h : Hl), (q.foldl (relayH up m) h).zs = h.zs
  | [], _ => rfl
  | i :: q, h => by
    rw [List.foldl_cons, rel_zs up m q]
    unfold relayH
    split
    · exact deliver_zs h m
    · rfl
theorem rels_zs (up : Nat → Bool) : ∀ (l : List Ms) (h : Hl), (l.foldl (relays up) h).zs = h.zs
  | [], _ => rfl
  | m :: l, h => by rw [List.foldl_cons, rels_zs up l]; exact rel_zs up m _ h
theorem ex_zs (up : Nat → Bool) (j : Nat) (h : Hl) : (exS up j h).zs = h.zs := by
  unfold exS
  split
  · unfold exchH
    simp only
    rw [dels_zs]
    show Hl.zs (List.foldl _ _ _) = _
    rw [rels_zs]
  · rfl
theorem del_pl (h : Hl) (m : Ms) : (deliverH h m).ps.length = h.ps.length := by
  rcases deliver_ps h m with e | ⟨j, s, _, e⟩ <;> rw [e]
  rw [List.length_set]
theorem dels_pl : ∀ (l : List Ms) (h : Hl), (l.foldl deliverH h).ps.length = h.ps.length
  | [], _ => rfl
  | m :: l, h => by rw [List.foldl_cons, dels_pl l]; exact del_pl h m
theorem rel_pl (up : Nat → Bool) (m : Ms) : ∀ (q : List Nat) (h : Hl), (q.foldl (relayH up m) h).ps.length = h.ps.length
  | [], _ => rfl
  | i :: q, h => by
    rw [List.foldl_cons, rel_pl up m q]
    unfold relayH
    split
    · exact del_pl h m
    · rfl
theorem rels_pl (up : Nat → Bool) : ∀ (l : List Ms) (h : Hl), (l.foldl (relays up) h).ps.length = h.ps.length
  | [], _ => rfl
  | m :: l, h => by rw [List.foldl_cons, rels_pl up l]; exact rel_pl up m _ h
theorem ex_pl {up : Nat → Bool} {j : Nat} {h : Hl} : (exS up j h).ps.length = h.ps.length := by
  unfold exS
  split
  · unfold exchH
    simp only
    rw [dels_pl]
    show (Hl.ps (List.foldl _ _ _)).length = _
    rw [rels_pl]
    show (h.ps.set _ _).length = _
    rw [List.length_set]
  · rfl
theorem itF_zs (j : Nat) : ∀ (i : Nat) (h : Hl), (itF (FA j) i h).zs = h.zs
  | 0, _ => rfl
  | i + 1, h => (itF_zs j i (FA j h)).trans (ex_zs (upD 0) j h)
theorem S3.step {n k j i : Nat} {e : Int} {hB h : Hl} {f : Cm} {b : Bool} (s : S3 n k e j i hB h f b) (hn : n ≤ 7) (hi : i < 5) (he : e + 200000 ≤ 1099511627776) (hj : j < k) :
    ∃ c0, AgP k (FA j h) f c0 b ∧ ∀ f' b', (b' = true → f' = c0) → ((FA j h).dec ≠ [] → b' = true) → ((FA j h).dec = [] → b' = b) → S3 n k e j (i + 1) hB (FA j h) f' b' := by
  obtain ⟨t, v, hf⟩ := s.iv
  obtain ⟨x, hx⟩ : ∃ x, h.ps[j]? = some x := ⟨_, List.getElem?_eq_getElem (by rw [s.pl]; exact hj)⟩
  obtain ⟨t', l, v', w', _⟩ := v.ex (by omega) s.wl (by rw [grp_len]; omega) (upD 0) j
  obtain ⟨c0, a, q⟩ := agp v'.look (hf.le l)
  have hfr := ex_from v (upD 0) hx s.wf
  refine ⟨c0, a, fun f' b' h1 h2 h3 => ⟨by rw [itF_succ, ← s.it], s.ex, ⟨t', ?_, q f' b' h1 h2 h3⟩, (s.ok.ex _ _).look, ex_pl.trans s.pl, w', fun m hm => ?_, fun _ => hfr, fun _ => h2⟩⟩
  · have e1 : e + 10000 * ((i + 1 : Nat) : Int) = e + 10000 * i + 10000 := by omega
    rw [e1]; exact v'.look
  · rw [List.mem_filter] at hm
    exact (hfr m hm.1).1
theorem decJ_FA {zs : List Int} (hz : zs.Nodup) {j : Nat} : ∀ (i : Nat) {h : Hl}, h.zs = zs → DecJ j h → DecJ j (itF (FA j) i h)
  | 0, _, _, d => d
  | i + 1, h, z, d => decJ_FA hz i (h := FA j h) ((ex_zs (upD 0) j h).trans z) (decJ_ex hz z d)
theorem itF_add (F : Hl → Hl) : ∀ (a b : Nat) (h : Hl), itF F (a + b) h = itF F b (itF F a h)
  | 0, b, h => by rw [Nat.zero_add]; rfl
  | a + 1, b, h => by rw [show a + 1 + b = (a + b) + 1 by omega]; exact itF_add F a b (F h)
/-- At the end of its turn it is decided, and on the first one. -/
theorem S3.done {n k j : Nat} {e : Int} {hB h : Hl} {f : Cm} {b : Bool} (s : S3 n k e j 5 hB h f b) (hn : n ≤ 7) (hzB : hB.zs = grp n) : b = true ∧ ∃ x, h.ps[j]? = some x ∧ decO x = (f, true) := by
  obtain ⟨q, hq, d⟩ := s.ex
  have d4 : DecJ j (itF (FA j) 4 hB) := by
    have := decJ_FA (grp_nd hn) (4 - q) ((itF_zs j q hB).trans hzB) d
    rw [← itF_add, show q + (4 - q) = 4 by omega] at this
    exact this
  have e5 : h = FA j (itF (FA j) 4 hB) := by rw [s.it]; exact itF_succ (FA j) 4 hB
  have z4 : (itF (FA j) 4 hB).zs = grp n := (itF_zs j 4 hB).trans hzB
  have d5 := decJ_ex (up := upD 0) (grp_nd hn) z4 d4
  have hne : h.dec ≠ [] := by rw [e5]; exact decJ_look d5
  have hb := s.an (by omega) hne
  refine ⟨hb, ?_⟩
  obtain ⟨x, hx, c, hc⟩ := d5
  have hx' : h.ps[j]? = some x := by rw [e5]; exact hx
  obtain ⟨t, v, hf⟩ := s.iv
  have hk := (v.hi.ps j x hx').1.ph
  rw [hc] at hk
  refine ⟨x, hx', ?_⟩
  unfold decO
  rw [hc]
  rw [v.hi.ok.agree hk (hf hb)]
theorem S3.s2 {n k j : Nat} {e : Int} {hB h : Hl} {f : Cm} {b : Bool} (s : S3 n k e j 5 hB h f b) (hb : b = true) : S2 n k (e + 50000) (j + 1) h f b := by
  obtain ⟨t, v, hf⟩ := s.iv
  exact ⟨⟨t, v, hf⟩, s.ok, s.pl, s.wl, fun m hm => by have := (s.wa (by omega) m hm).2.2; omega, fun _ => hb⟩

end Pax

end Go.Proofs.Ytpabpeppgpeaoaa
