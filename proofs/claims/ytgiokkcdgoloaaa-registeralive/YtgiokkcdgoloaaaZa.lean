import Derived.Test.YtgiokkcdgoloaaaVj
namespace Go.Proofs.Ytgiokkcdgoloaaa.Md
open Go.RowKit
set_option linter.unusedVariables false
set_option linter.unusedSimpArgs false
section
variable {w : Wd} {G : Nat → Int → Sp} {T : Nat → Option Sp}
theorem upN_same {α : Type} (f : Nat → α) (c : Nat) (v : α) : upN f c v c = v := by unfold upN; rw [if_pos rfl]
theorem upN_ne {α : Type} (f : Nat → α) {c k : Nat} (v : α) (h : k ≠ c) : upN f c v k = f k := by unfold upN; rw [if_neg h]
theorem WInv.newD (h : WInv w G T) {c : Nat} (hm : w.m c = none) (hc : c < 4) (wr : Bool) (z : List Int) {s : RM} (e1 : s.cl = (c : Int) + 1) (e2 : s.op = (w.ds.length : Int) + 1) (e3 : s.ky = keyW) (e4 : wr = s.isW) (e5 : s.isW = true → s.aim = .wr z) (e6 : s.isW = false → s.aim = .rd 3) {X : TS Bp} (e7 : s.ph = .ask X) (hmk : ∀ V, MK (wdG w) (hs w) (hs w) V s) :
    WInv { w with m := upN w.m c (some s), now := w.now + 1, at' := upN w.at' c w.ds.length, ds := w.ds ++ [⟨wr, (c : Int) + 1, w.now + 1, 0, z, 0, spZ, []⟩] } (upN G w.ds.length (hs w)) T := by
  have hn := h.nn
  have at0 : ∀ (k : Nat) (d : Dd), (w.ds ++ [⟨wr, (c : Int) + 1, w.now + 1, 0, z, 0, spZ, []⟩])[k]? = some d → (k < w.ds.length ∧ w.ds[k]? = some d) ∨ (k = w.ds.length ∧ d = ⟨wr, (c : Int) + 1, w.now + 1, 0, z, 0, spZ, []⟩) := fun k d hd => by
    rcases Nat.lt_trichotomy k w.ds.length with hk | hk | hk
    · rw [List.getElem?_append_left hk] at hd; exact .inl ⟨hk, hd⟩
    · subst hk; rw [List.getElem?_append_right (Nat.le_refl _)] at hd; simp at hd; exact .inr ⟨rfl, hd.symm⟩
    · have := (List.getElem?_eq_some_iff.1 hd).1; simp at this; omega
  have keep : ∀ (j : Nat) (d : Dd), w.ds[j]? = some d → (w.ds ++ [⟨wr, (c : Int) + 1, w.now + 1, 0, z, 0, spZ, []⟩])[j]? = some d := fun j d hd => by
    rw [List.getElem?_append_left (List.getElem?_eq_some_iff.1 hd).1]; exact hd
  have ltd : ∀ {j : Nat} {d : Dd}, w.ds[j]? = some d → j ≠ w.ds.length := fun hd => by have := (List.getElem?_eq_some_iff.1 hd).1; omega
  have ex : ∀ (j : Nat) (d : Dd), w.ds[j]? = some d → ∃ d' : Dd, (w.ds ++ [⟨wr, (c : Int) + 1, w.now + 1, 0, z, 0, spZ, []⟩])[j]? = some d' ∧ d'.wr = d.wr ∧ d'.cl = d.cl ∧ d'.z = d.z ∧ d'.beg = d.beg := fun j d hd => ⟨d, keep j d hd, rfl, rfl, rfl, rfl⟩
  have id2 : ∀ (j : Nat) (t : Sp), T j = some t → T j = some t := fun _ _ e => e
  have le : w.now ≤ w.now + 1 := by omega
  refine ⟨h.br, fun c' s'' hs' => ?_, fun j d hd he => ?_, fun j d hd he ho => ?_, fun j d hd => ?_, fun j d hd => ?_, fun i j a b hij ha hb hcl => ?_, fun i j a b ha hb he ho hlt => ?_, fun j d t hd ht => ?_, (show 0 ≤ w.now + 1 by omega), (fun j hj => h.tn j (by have hj : (w.ds ++ [_]).length ≤ j := hj; simp at hj; omega)), fun j i => ?_, h.low', fun j i => ?_, fun i hi => (h.held i hi).ext ex id2 le, fun p hp => ?_, fun e he => (h.laid e he).ext ex id2 le⟩
  · by_cases f : c' = c
    · subst f
      have hs' : upN w.m c' (some s) c' = some s'' := hs'
      rw [upN_same] at hs'
      cases hs'
      show c' < 4 ∧ s.cl = _ ∧ s.op = ((upN w.at' c' w.ds.length c' : Nat) : Int) + 1 ∧ s.ky = keyW ∧ MK (wdG w) (upN G w.ds.length (hs w) (upN w.at' c' w.ds.length c')) (hs w) _ s ∧ (∃ d : Dd, (w.ds ++ [_])[upN w.at' c' w.ds.length c']? = some d ∧ _) ∧ (match s.ph with | .lay b _ => T (upN w.at' c' w.ds.length c') = some b.st | .ask _ => T (upN w.at' c' w.ds.length c') = none | _ => False)
      rw [upN_same, upN_same, e7]
      exact ⟨hc, e1, e2, e3, hmk _, ⟨⟨wr, (c' : Int) + 1, w.now + 1, 0, z, 0, spZ, []⟩, (by simp), rfl, rfl, e4, e5, e6⟩, h.tn _ (Nat.le_refl _)⟩
    · have hs' : upN w.m c (some s) c' = some s'' := hs'
      rw [upN_ne _ _ f] at hs'
      obtain ⟨p1, p2, p3, p4, p5, ⟨d1, r1, r2⟩, p7⟩ := h.act c' s'' hs'
      show c' < 4 ∧ s''.cl = _ ∧ s''.op = ((upN w.at' c w.ds.length c' : Nat) : Int) + 1 ∧ s''.ky = keyW ∧ MK (wdG w) (upN G w.ds.length (hs w) (upN w.at' c w.ds.length c')) (hs w) _ s'' ∧ (∃ d : Dd, (w.ds ++ [_])[upN w.at' c w.ds.length c']? = some d ∧ _) ∧ (match s''.ph with | .lay b _ => T (upN w.at' c w.ds.length c') = some b.st | .ask _ => T (upN w.at' c w.ds.length c') = none | _ => False)
      rw [upN_ne w.at' _ f, upN_ne G _ (ltd r1)]
      exact ⟨p1, p2, p3, p4, p5.mono (fun i => sle.refl _) (fun t z e => e.ext ex id2 le), ⟨d1, keep _ _ r1, r2⟩, p7⟩
  · rcases at0 j d hd with ⟨hk, hd⟩ | ⟨rfl, rfl⟩
    · obtain ⟨c', s'', q1, q2⟩ := h.open' j d hd he
      have f : c' ≠ c := fun f => by rw [f, hm] at q1; cases q1
      exact ⟨c', s'', (by show upN w.m c (some s) c' = _; rw [upN_ne _ _ f]; exact q1), (by show upN w.at' c w.ds.length c' = _; rw [upN_ne _ _ f]; exact q2)⟩
    · exact ⟨c, s, upN_same _ _ _, upN_same _ _ _⟩
  · rcases at0 j d hd with ⟨hk, hd⟩ | ⟨rfl, rfl⟩
    · obtain ⟨f1, f2, f3, f4⟩ := h.fin j d hd he ho
      exact ⟨by rw [upN_ne G _ (ltd hd)]; exact f1, f2, fun e => (f3 e).ext ex id2 (Int.le_refl _), f4⟩
    · exact absurd rfl he
  · show d.beg ≤ w.now + 1 ∧ (d.en ≠ 0 → d.beg < d.en ∧ d.en ≤ w.now + 1)
    rcases at0 j d hd with ⟨hk, hd⟩ | ⟨rfl, rfl⟩
    · have q := h.time j d hd
      exact ⟨by omega, fun e => ⟨(q.2 e).1, by have := (q.2 e).2; omega⟩⟩
    · exact ⟨Int.le_refl _, fun e => absurd rfl e⟩
  · rcases at0 j d hd with ⟨hk, hd⟩ | ⟨rfl, rfl⟩
    · exact h.cls j d hd
    · show 1 ≤ (c : Int) + 1 ∧ (c : Int) + 1 ≤ 4
      omega
  · rcases at0 i a ha with ⟨hi, ha⟩ | ⟨rfl, rfl⟩
    · rcases at0 j b hb with ⟨hk, hb⟩ | ⟨rfl, rfl⟩
      · exact h.seq i j a b hij ha hb hcl
      · have hen : a.en ≠ 0 := fun f => by
          obtain ⟨c', s'', q1, q2⟩ := h.open' i a ha f
          obtain ⟨p1, p2, p3, p4, p5, ⟨d1, r1, r2, r3, r4⟩, p7⟩ := h.act c' s'' q1
          rw [q2, ha] at r1
          cases r1
          have hcl : a.cl = (c : Int) + 1 := hcl
          have : c' = c := by omega
          rw [this, hm] at q1; cases q1
        exact ⟨hen, by have := ((h.time i a ha).2 hen).2; show a.en < w.now + 1; omega⟩
    · rcases at0 j b hb with ⟨hk, hb⟩ | ⟨rfl, rfl⟩ <;> omega
  · rcases at0 i a ha with ⟨hi, ha⟩ | ⟨rfl, rfl⟩
    · rcases at0 j b hb with ⟨hk, hb⟩ | ⟨rfl, rfl⟩
      · show Hold (wdG w) (upN G w.ds.length (hs w) j) a.st
        rw [upN_ne G _ (ltd hb)]; exact h.past i j a b ha hb he ho hlt
      · show Hold (wdG w) (upN G w.ds.length (hs w) w.ds.length) a.st
        rw [upN_same]; exact (h.fin i a ha he ho).2.1
    · exact absurd rfl he
  · rcases at0 j d hd with ⟨hk, hd⟩ | ⟨rfl, rfl⟩
    · rw [upN_ne G _ (ltd hd)]; exact h.tg j d t hd ht
    · rw [h.tn _ (Nat.le_refl _)] at ht; cases ht
  · by_cases f : j = w.ds.length
    · rw [f, upN_same]; exact h.low' i
    · rw [upN_ne _ _ f]; exact h.low j i
  · by_cases f : j = w.ds.length
    · rw [f, upN_same]; exact sle.refl _
    · rw [upN_ne _ _ f]; exact h.mono j i
  · obtain ⟨j, d, h1, h2, h3, h4⟩ := h.msg p hp
    refine ⟨j, d, keep j d h1, h2, h3, ?_⟩
    rw [upN_ne G _ (ltd h1)]
    rcases h4 with ⟨q1, q2, q3, q4⟩ | ⟨q1, q2, q3, q4⟩
    · exact .inl ⟨q1, q2, q3, q4.imp id (fun q => ⟨q.1, q.2.1, q.2.2.ext ex id2 le⟩)⟩
    · refine .inr ⟨q1, q2, q3, ?_⟩
      rcases q4 with ⟨k, a, b, c⟩ | q4
      · exact .inl ⟨k, a, b, fun e => (c e).ext ex id2 le⟩
      · exact .inr q4
end
end Go.Proofs.Ytgiokkcdgoloaaa.Md
namespace Go.Proofs.Ytgiokkcdgoloaaa.Md
open Go.RowKit
set_option linter.unusedVariables false
set_option linter.unusedSimpArgs false
theorem upN_twice {α : Type} (f : Nat → α) (c : Nat) (a b : α) : upN (upN f c a) c b = upN f c b := by
  funext k
  unfold upN
  split <;> rfl
theorem wdG_nd (w : Wd) : (wdG w).Nodup := by
  unfold wdG List.Nodup
  rw [List.pairwise_map]
  exact List.Pairwise.imp (fun h e => h (by omega)) List.nodup_range
section
variable {w : Wd} {G : Nat → Int → Sp} {T : Nat → Option Sp}
theorem WInv.beg (h : WInv w G T) (c : Nat) (hc : c < 4) (wr : Bool) (z : List Int) : ∃ G', WInv (begW w c wr z) G' T := by
  unfold begW
  split
  · exact ⟨G, h⟩
  · rename_i hcond
    have hm : w.m c = none := by
      cases e : w.m c with
      | none => rfl
      | some s => rw [e] at hcond; simp at hcond
    obtain ⟨s0, hs0⟩ : ∃ s0, s0 = machW w c wr z := ⟨_, rfl⟩
    have f1 : s0.cl = (c : Int) + 1 := by rw [hs0]; rfl
    have f2 : s0.op = (w.ds.length : Int) + 1 := by rw [hs0]; rfl
    have f3 : s0.ky = keyW := by rw [hs0]; rfl
    have f4 : s0.zs = wdG w := by rw [hs0]; rfl
    have f5 : s0.aim = if wr then .wr z else .rd 3 := by rw [hs0]; rfl
    have f6 : s0.ph = .fresh := by rw [hs0]; rfl
    rw [← hs0]
    dsimp only
    obtain ⟨sa, hsa⟩ : ∃ sa : RM, sa = { s0 with ph := .ask (tNew Bp s0.zs s0.need) } := ⟨_, rfl⟩
    have hW : sa.isW = wr := by rw [hsa]; unfold RM.isW; dsimp only; rw [f5]; cases wr <;> rfl
    have hmk : ∀ V, MK (wdG w) (hs w) (hs w) V sa := fun V => by
      rw [hsa]
      refine ⟨f4, (?_ : uq s0.zs = wdG w), rfl, ?_, fun i b hb => (by cases hb)⟩
      · rw [f4]; exact uq_nd (wdG_nd w)
      · show ((cnt (tNew Bp s0.zs s0.need) : Nat) : Int) < s0.need
        rw [cnt_new]; unfold RM.need; omega
    have hA : sa.aim = if wr then .wr z else .rd 3 := by rw [hsa]; exact f5
    have nd := h.newD hm hc wr z (s := sa) (by rw [hsa]; exact f1) (by rw [hsa]; exact f2) (by rw [hsa]; exact f3) hW.symm (fun e => by rw [hA, ← hW, e]; rfl) (fun e => by rw [hA, ← hW, e]; rfl) (X := tNew Bp s0.zs s0.need) (by rw [hsa]) hmk
    refine ⟨upN G w.ds.length (hs w), ?_⟩
    unfold begP
    rw [f6]
    dsimp only
    split
    · have hsa' : ({ cl := s0.cl, op := s0.op, ky := s0.ky, zs := s0.zs, rd := s0.rd, aim := s0.aim, ph := .ask (tNew Bp s0.zs s0.need) } : RM) = sa := hsa.symm
      rw [hsa']
      have hsend := nd.sendW (outs (sa, ⟨1, spZ, [], s0.zs⟩)) _ (Like.refl _) nd (fun q hq => by
        unfold outs at hq
        obtain ⟨sv, hsv, rfl⟩ := List.mem_map.1 hq
        refine ⟨w.ds.length, ⟨wr, (c : Int) + 1, w.now + 1, 0, z, 0, spZ, []⟩, by simp, by rw [hsa]; exact f2, by rw [hsa]; exact f3, .inl ⟨rfl, ?_, ?_, .inl rfl⟩⟩
        · show sv ∈ wdG w
          rw [← f4]; exact hsv
        · show (⟨true, sa.cl⟩ : Ad) = ⟨true, (c : Int) + 1⟩
          rw [hsa]; rw [f1])
      rw [look_on (s := sa) (by rw [hsend.2.m]; exact upN_same _ _ _) (fun er st z f => by rw [hsa] at f; cases f)]
      exact hsend.1.rdU _
    · have en := nd.ends (c := c) (s := sa) (s' := { s0 with ph := .fin 4 spZ [] }) (er := 4) (st := spZ) (z := []) (upN_same _ _ _) (by rw [hsa]) (by rw [hsa]) rfl ⟨f4, fun e => by cases e⟩ (fun t ht => by
        have ht : T (upN w.at' c w.ds.length c) = some t := ht
        rw [upN_same, h.tn _ (Nat.le_refl _)] at ht; cases ht)
      have e : upN (upN w.m c (some sa)) c (some { s0 with ph := .fin 4 spZ [] }) = upN w.m c (some { s0 with ph := .fin 4 spZ [] }) := upN_twice _ _ _ _
      dsimp only at en
      rw [e] at en
      exact en
theorem WInv.ev (h : WInv w G T) (k a : Int) (z : List Int) : ∃ G' T', WInv (evW w k a z) G' T' := by
  have hc : rndW a 4 < 4 := by
    unfold rndW
    have h1 := Int.emod_nonneg a (show ((4 : Nat) : Int) ≠ 0 by decide)
    have h2 := Int.emod_lt_of_pos a (show (0 : Int) < ((4 : Nat) : Int) by decide)
    omega
  unfold evW
  dsimp only
  obtain ⟨G1, hv⟩ : ∃ G1, WInv (if k = 1 then begW w (rndW a 4) true z else if k = 2 then begW w (rndW a 4) false [] else if k = 6 then tickW w (rndW a 4) else if k = 7 then { w with gone := upN w.gone (rndW a 4) true } else w) G1 T := by
    split
    · exact h.beg _ hc true z
    · split
      · exact h.beg _ hc false []
      · split
        · exact ⟨G, h.tick _⟩
        · split
          · exact ⟨G, h.like ⟨rfl, rfl, rfl, rfl, rfl, rfl⟩ h.br h.msg h.laid⟩
          · exact ⟨G, h⟩
  generalize (if k = 1 then begW w (rndW a 4) true z else if k = 2 then begW w (rndW a 4) false [] else if k = 6 then tickW w (rndW a 4) else if k = 7 then { w with gone := upN w.gone (rndW a 4) true } else w) = v at hv
  split
  · exact ⟨G1, T, hv⟩
  · split
    · exact ⟨G1, T, hv⟩
    · rename_i p hp
      have hin : p ∈ v.un := List.mem_of_getElem? hp
      have hu : WInv { v with un := v.un.take (rndW a v.un.length) ++ v.un.drop (rndW a v.un.length + 1) } G1 T := hv.less (fun q hq => by
        rcases List.mem_append.1 hq with hq | hq
        · exact List.mem_of_mem_take hq
        · exact List.mem_of_mem_drop hq)
      split
      · obtain ⟨T', hd⟩ := hu.del (p := p) (hv.msg p hin)
        exact ⟨G1, T', hd⟩
      · split
        · split
          · refine ⟨G1, T, hu.like ⟨rfl, rfl, rfl, rfl, rfl, rfl⟩ hu.br (fun q hq => ?_) hu.laid⟩
            rcases List.mem_append.1 hq with hq | hq
            · exact hu.msg q hq
            · have : q = p := by simpa using hq
              rw [this]; exact hv.msg p hin
          · exact ⟨G1, T, hu⟩
        · exact ⟨G1, T, hu⟩
end
end Go.Proofs.Ytgiokkcdgoloaaa.Md
namespace Go.Proofs.Ytgiokkcdgoloaaa.Md
open Go.RowKit
set_option linter.unusedVariables false
set_option linter.unusedSimpArgs false
section
variable {w v : Wd} {G : Nat → Int → Sp} {T T' : Nat → Option Sp}
theorem WInv.clieT (h : WInv w G T) {p : Pm} (hp : UnOk w G T p) (hc : p.too.cl = true) (c : Nat) : ∃ T', WInv (clieW w p c) G T' ∧ ∀ j t, T j = some t → T' j = some t := by
  unfold clieW
  cases hm : w.m c with
  | none => exact ⟨T, h, fun _ _ e => e⟩
  | some s =>
    dsimp only
    split
    · exact ⟨T, h, fun _ _ e => e⟩
    · obtain ⟨j, d, h1, h2, h3, h4⟩ := hp
      obtain ⟨q2, q3, q4⟩ : p.fr.cl = false ∧ p.fr.id ∈ wdG w ∧ ((p.k = 11 ∧ sle (G j p.fr.id) p.st ∧ sle p.st (hs w p.fr.id) ∧ (¬ (p.st.n = 0 ∧ p.st.c = 0) → Wrote w T p.st p.z w.now)) ∨ (p.k = 12 ∧ ∃ t, T j = some t ∧ sle t (hs w p.fr.id))) := by
        rcases h4 with ⟨q1, _⟩ | ⟨_, q⟩
        · rw [q1] at hc; cases hc
        · exact q
      obtain ⟨a1, a2, a3, a4, a5, ⟨d0, b1, b2, b3, b4, b5, b6⟩, a7⟩ := h.act c s hm
      have hnd : (wdG w).Nodup := by
        unfold wdG List.Nodup
        rw [List.pairwise_map]
        exact List.Pairwise.imp (fun h e => h (by omega)) List.nodup_range
      have hj : p.op = s.op → j = w.at' c := fun e => by rw [h2, a3] at e; omega
      have hmk := take_MK (V := fun t z => Told w T t z w.now ∨ (s.aim = .wr z ∧ t.c = s.cl ∧ Low (wdG w) (G (w.at' c)) true t)) (a5.mono (fun _ => sle.refl _) (fun _ _ e => .inl e)) hnd (mgP p) p.z
        (fun X hX hh hi => by
          obtain ⟨k1, k2⟩ := hit_op hh
          have e := hj k2
          subst e
          rcases q4 with ⟨_, r1, r2, r3⟩ | ⟨k, _⟩
          · exact ⟨r1, r2, fun e => .inl (.inr (r3 e))⟩
          · omega)
        (fun b U hU hh hi => by
          obtain ⟨k1, k2⟩ := hit_op hh
          have e := hj k2
          subst e
          rw [hU] at a7
          rcases q4 with ⟨k, _⟩ | ⟨k, t, r1, r2⟩
          · omega
          · have a7 : T (w.at' c) = some b.st := a7
            rw [a7] at r1
            cases r1
            exact r2)
        (fun n hn => by
          have hw : s.isW = false := by unfold RM.isW; rw [hn]
          have := b6 hw
          rw [hn] at this
          cases this
          exact .inl (.inl ⟨rfl, rfl⟩))
        (fun z t hz ht hl => .inr ⟨hz, ht, hl⟩)
      obtain ⟨o1, o2, o3, o4, o5, oc⟩ := take_outs s (mgP p) p.z
      generalize takP s (mgP p) p.z = o at hmk o1 o2 o3 o4 o5 oc
      obtain ⟨s', tt⟩ := o
      dsimp only at hmk o1 o2 o3 o4 o5 oc
      have hisW : s'.isW = s.isW := by unfold RM.isW; rw [o5]
      have rdN : s'.isW = false → ∀ t z, (Told w T t z w.now ∨ (s.aim = .wr z ∧ t.c = s.cl ∧ Low (wdG w) (G (w.at' c)) true t)) → Told w T t z w.now := fun hw t z e => by
        rcases e with e | ⟨e, _⟩
        · exact e
        · rw [hisW] at hw; rw [b6 hw] at e; cases e
      have wrote : ∀ (T' : Nat → Option Sp) (b : Bp), T' (w.at' c) = some b.st → s'.isW = true → b.st.c = s'.cl → s'.aim = .wr b.z → Wrote w T' b.st b.z w.now := fun T' b ht hw h1 h2 => by
        rw [hisW] at hw
        have e := b5 hw
        rw [← o5, h2] at e
        have ez : b.z = d0.z := by injection e
        exact ⟨w.at' c, d0, b1, b4.trans hw, by rw [b3, h1, o1, a2], ez.symm, (h.time _ d0 b1).1, ht⟩
      have id' : ∀ (j : Nat) (d : Dd), w.ds[j]? = some d → ∃ d' : Dd, w.ds[j]? = some d' ∧ d'.wr = d.wr ∧ d'.cl = d.cl ∧ d'.z = d.z ∧ d'.beg = d.beg := fun j d e => ⟨d, e, rfl, rfl, rfl, rfl⟩
      have hmc : ({ w with m := upN w.m c (some s') } : Wd).m c = some s' := by show upN w.m c (some s') c = _; unfold upN; rw [if_pos rfl]
      rcases oc with ⟨hss, oc⟩ | ⟨X, b, hX, hb, ht⟩
      · have ho : outs (s', tt) = [] := by unfold outs; dsimp only; rw [hss]; rfl
        rw [ho]
        show ∃ T', WInv (lookW { w with m := upN w.m c (some s') } c) G T' ∧ ∀ j t, T j = some t → T' j = some t
        have stay : (∀ er st z, s'.ph ≠ .fin er st z) → (match s'.ph with | .lay b _ => T (w.at' c) = some b.st | .ask _ => T (w.at' c) = none | _ => False) → ∃ T', WInv (lookW { w with m := upN w.m c (some s') } c) G T' ∧ ∀ j t, T j = some t → T' j = some t := fun hn hph => by
          have mk2 := hmk.narrow (V := fun t z => Told w T t z w.now) rdN (fun b U hU g hv => by
            by_cases hw : s'.isW = true
            · rw [hU] at hph; exact .inr (wrote T b hph hw (g hw).1 (g hw).2)
            · exact rdN (by simpa using hw) _ _ hv)
          have mv := h.move (T' := T) hm o1 o2 o3 o5 (fun _ _ e => e) (fun _ _ => rfl) mk2 hph (fun t ht => by
            have q := h.tg _ d0 t b1 ht
            exact ⟨by rw [← b4]; exact q.1, fun hw => by rw [a2, ← b3]; exact q.2.1 (by rw [b4]; exact hw)⟩)
          rw [look_on hmc hn]
          exact ⟨T, mv.rdU _, fun _ _ e => e⟩
        rcases oc with e | ⟨X, Y, e1, e2⟩ | ⟨b, U, Y, e1, e2⟩ | ⟨er, st, y, e1, e2⟩
        · refine stay (fun er st z f => ?_) (by rw [e]; exact a7)
          rw [e] at f
          rw [f] at a7
          exact a7
        · refine stay (fun er st z f => by rw [e2] at f; cases f) ?_
          rw [e2]
          rw [e1] at a7
          exact a7
        · refine stay (fun er st z f => by rw [e2] at f; cases f) ?_
          rw [e2]
          rw [e1] at a7
          exact a7
        · have mk2 := hmk.narrow (V := fun t z => Told w T t z w.now) rdN (fun b U hU => by rw [e1] at hU; cases hU)
          refine ⟨T, h.ends hm o5 o1 e1 mk2 (fun t ht => ?_), fun _ _ e => e⟩
          rcases e2 with ⟨X, e2⟩ | ⟨b, U, e2, e3, e4⟩
          · rw [e2] at a7
            have a7 : T (w.at' c) = none := a7
            rw [a7] at ht; cases ht
          · rw [e2] at a7
            have a7 : T (w.at' c) = some b.st := a7
            rw [a7] at ht; cases ht; exact ⟨e3, e4⟩
      · rw [hX] at a7
        have a7 : T (w.at' c) = none := a7
        obtain ⟨T', hT'⟩ : ∃ T', T' = upN T (w.at' c) (some b.st) := ⟨_, rfl⟩
        have hT : ∀ j t, T j = some t → T' j = some t := fun j t e => by
          rw [hT']; unfold upN
          split
          · rename_i f; subst f; rw [a7] at e; cases e
          · exact e
        have tj : T' (w.at' c) = some b.st := by rw [hT']; unfold upN; rw [if_pos rfl]
        have mk2 := hmk.narrow (V := fun t z => Told w T' t z w.now) (fun hw t z e => (rdN hw t z e).ext id' hT (Int.le_refl _)) (fun b' U hU g hv => by
          rw [hb] at hU
          cases hU
          by_cases hw : s'.isW = true
          · exact .inr (wrote T' b tj hw (g hw).1 (g hw).2)
          · exact (rdN (by simpa using hw) _ _ hv).ext id' hT (Int.le_refl _))
        have hph := mk2.ph
        rw [hb] at hph
        obtain ⟨g1, g2, g3, g4, g5, g6, g7, g8⟩ := hph
        have mv := h.move (T' := T') hm o1 o2 o3 o5 hT (fun k hk => by rw [hT']; unfold upN; rw [if_neg hk]) mk2 (by rw [hb]; exact tj) (fun t ht => by
          rw [tj] at ht
          cases ht
          exact ⟨by rw [← hisW]; exact g5, fun hw => by rw [← o1]; exact (g7 (by rw [hisW]; exact hw)).1⟩)
        have hwr : Wrote w T' b.st b.z w.now := by
          rcases g6 with ⟨e, _⟩ | e
          · exact absurd e.symm (g8 (h.low _)).ne
          · exact e
        have hsend := mv.sendW (outs (s', tt)) _ (Like.refl _) mv (fun q hq => by
          unfold outs at hq
          obtain ⟨sv, hsv, rfl⟩ := List.mem_map.1 hq
          rw [ht] at hsv
          refine ⟨w.at' c, d0, b1, o2.trans a3, o3.trans a4, .inl ⟨rfl, ?_, ?_, .inr ⟨by show tt.k = 2; rw [ht], ?_, ?_⟩⟩⟩
          · have := a5.gz
            show sv ∈ wdG w
            rw [← this]; exact hsv
          · show (⟨true, s'.cl⟩ : Ad) = ⟨true, d0.cl⟩
            rw [b3, o1, a2]
          · show T' (w.at' c) = some tt.st
            rw [ht]; exact tj
          · show Wrote w T' tt.st tt.z w.now
            rw [ht]; exact hwr)
        refine ⟨T', ?_, hT⟩
        rw [look_on (s := s') (by rw [hsend.2.m]; exact hmc) (fun er st z f => by rw [hb] at f; cases f)]
        exact hsend.1.rdU _
theorem send1_fix (w : Wd) (p : Pm) : (send1 w p).gone = w.gone ∧ (send1 w p).rd = w.rd ∧ ∀ q, q ∈ w.un → q ∈ (send1 w p).un := by
  unfold send1
  dsimp only
  have h1 : (laidW w p.st p.z).gone = w.gone ∧ (laidW w p.st p.z).rd = w.rd := by unfold laidW; split <;> exact ⟨rfl, rfl⟩
  have h2 := un_laid w p.st p.z
  split
  · split
    · exact ⟨h1.1, h1.2, fun q hq => by show q ∈ (laidW w p.st p.z).un ++ [p]; rw [h2]; exact List.mem_append_left _ hq⟩
    · exact ⟨h1.1, h1.2, fun q hq => by rw [h2]; exact hq⟩
  · split
    · exact ⟨rfl, rfl, fun q hq => List.mem_append_left _ hq⟩
    · exact ⟨rfl, rfl, fun q hq => hq⟩
theorem sendW_fix (l : List Pm) : ∀ (w : Wd), (sendW w l).gone = w.gone ∧ (sendW w l).rd = w.rd ∧ (∀ q, q ∈ w.un → q ∈ (sendW w l).un) ∧ Like w (sendW w l) := by
  unfold sendW
  induction l with
  | nil => exact fun w => ⟨rfl, rfl, fun _ h => h, Like.refl _⟩
  | cons p l ih =>
    intro w
    obtain ⟨h1, h2, h3⟩ := send1_fix w p
    obtain ⟨k1, k2, k3, k4⟩ := ih (send1 w p)
    exact ⟨k1.trans h1, k2.trans h2, fun q hq => k3 q (h3 q hq), (like_send1 w p).trans k4⟩
structure Gro (w v : Wd) : Prop where
  n : v.n = w.n
  gone : v.gone = w.gone
  ds : ∀ (j : Nat) (d : Dd), w.ds[j]? = some d → ∃ d' : Dd, v.ds[j]? = some d' ∧ d'.wr = d.wr ∧ d'.cl = d.cl ∧ d'.z = d.z ∧ d'.beg = d.beg
  held : ∀ i, sle (hs w i) (hs v i)
  now : w.now ≤ v.now
theorem Gro.refl (w : Wd) : Gro w w := ⟨rfl, rfl, fun j d h => ⟨d, h, rfl, rfl, rfl, rfl⟩, fun _ => sle.refl _, Int.le_refl _⟩
theorem Gro.trans {u : Wd} (a : Gro w v) (b : Gro v u) : Gro w u := ⟨b.n.trans a.n, b.gone.trans a.gone, fun j d h => by
  obtain ⟨d1, h1, e1, e2, e3, e4⟩ := a.ds j d h
  obtain ⟨d2, h2, f1, f2, f3, f4⟩ := b.ds j d1 h1
  exact ⟨d2, h2, f1.trans e1, f2.trans e2, f3.trans e3, f4.trans e4⟩, fun i => (a.held i).trans (b.held i), Int.le_trans a.now b.now⟩
theorem Gro.like (h : Like w v) (hg : v.gone = w.gone) : Gro w v := ⟨h.n, hg, fun j d e => ⟨d, by rw [h.ds]; exact e, rfl, rfl, rfl, rfl⟩, fun i => by rw [h.hs]; exact sle.refl _, by rw [h.now]; exact Int.le_refl _⟩
theorem Gro.send (w : Wd) (l : List Pm) : Gro w (sendW w l) := by
  obtain ⟨h1, _, _, h4⟩ := sendW_fix l w
  exact Gro.like h4 h1
theorem Gro.look (w : Wd) (c : Nat) : Gro w (lookW w c) := by
  unfold lookW
  split
  · exact Gro.refl _
  · split
    · refine ⟨rfl, rfl, fun j d h => ?_, fun _ => sle.refl _, by show w.now ≤ w.now + 1; omega⟩
      show ∃ d', (w.ds.modify _ _)[j]? = some d' ∧ _
      rw [md_at, h]
      split
      · exact ⟨_, rfl, rfl, rfl, rfl, rfl⟩
      · exact ⟨_, rfl, rfl, rfl, rfl, rfl⟩
    · exact Gro.like ⟨rfl, rfl, rfl, rfl, rfl, rfl⟩ rfl
theorem Gro.clie (w : Wd) (p : Pm) (c : Nat) : Gro w (clieW w p c) := by
  unfold clieW
  split
  · exact Gro.refl _
  · split
    · exact Gro.refl _
    · refine Gro.trans ?_ (Gro.look _ _)
      refine Gro.trans (v := { w with m := upN w.m c _ }) ?_ (Gro.send _ _)
      exact ⟨rfl, rfl, fun j d h => ⟨d, h, rfl, rfl, rfl, rfl⟩, fun _ => sle.refl _, Int.le_refl _⟩
theorem Gro.serv (w : Wd) (p : Pm) : Gro w (servW w p) := by
  unfold servW
  split
  · exact Gro.send _ _
  · split
    · refine Gro.trans (v := { w with held := upI w.held p.too.id (newW (w.held p.too.id) p.st p.z) }) ?_ (Gro.send _ _)
      refine ⟨rfl, rfl, fun j d h => ⟨d, h, rfl, rfl, rfl, rfl⟩, fun i => ?_, Int.le_refl _⟩
      show sle (w.held i).st (upI w.held p.too.id (newW (w.held p.too.id) p.st p.z) i).st
      unfold upI
      split
      · rename_i e; subst e; exact (new_sle _ _ _).1
      · exact sle.refl _
    · refine Gro.trans (v := { w with br := true }) ?_ (Gro.send _ _)
      exact ⟨rfl, rfl, fun j d h => ⟨d, h, rfl, rfl, rfl, rfl⟩, fun _ => sle.refl _, Int.le_refl _⟩
theorem Gro.del (w : Wd) (p : Pm) : Gro w (delW w p) := by
  have hb : Gro w { w with br := true } := ⟨rfl, rfl, fun j d h => ⟨d, h, rfl, rfl, rfl, rfl⟩, fun _ => sle.refl _, Int.le_refl _⟩
  unfold delW
  split
  · split
    · exact hb
    · exact Gro.clie _ _ _
  · split
    · exact hb
    · exact Gro.serv _ _
theorem UnOk.gro {q : Pm} (h : UnOk w G T q) (g : Gro w v) (hT : ∀ j t, T j = some t → T' j = some t) : UnOk v G T' q := by
  have hz : wdG v = wdG w := by unfold wdG; rw [g.n]
  obtain ⟨j, d, h1, h2, h3, h4⟩ := h
  obtain ⟨d', e0, e1, e2, e3, e4⟩ := g.ds j d h1
  have wr : ∀ {t : Sp} {z : List Int}, Wrote w T t z w.now → Wrote v T' t z v.now := fun k => k.ext g.ds hT g.now
  refine ⟨j, d', e0, h2, h3, ?_⟩
  rw [e2, hz]
  rcases h4 with ⟨q1, q2, q3, q4⟩ | ⟨q1, q2, q3, q4⟩
  · exact .inl ⟨q1, q2, q3, q4.imp id (fun k => ⟨k.1, hT _ _ k.2.1, wr k.2.2⟩)⟩
  · refine .inr ⟨q1, q2, q3, q4.imp (fun k => ⟨k.1, k.2.1, k.2.2.1.trans (g.held _), fun e => wr (k.2.2.2 e)⟩) (fun k => ⟨k.1, ?_⟩)⟩
    obtain ⟨t, t1, t2⟩ := k.2
    exact ⟨t, hT _ _ t1, t2.trans (g.held _)⟩
theorem WInv.delT (h : WInv w G T) {p : Pm} (hp : UnOk w G T p) : ∃ T', WInv (delW w p) G T' ∧ ∀ j t, T j = some t → T' j = some t := by
  unfold delW
  have hp' := hp
  obtain ⟨j, d, h1, h2, h3, h4⟩ := hp'
  rcases h4 with ⟨q1, q2, q3, q4⟩ | ⟨q1, q2, q3, q4⟩
  · rw [if_neg (by rw [q1]; simp)]
    have hin : 0 ≤ p.too.id - 1 ∧ p.too.id - 1 < (w.n : Int) := by
      unfold wdG at q2
      obtain ⟨i, hi, e⟩ := List.mem_map.1 q2
      have := List.mem_range.1 hi
      omega
    rw [if_neg (by omega)]
    exact ⟨T, h.serv hp q1, fun _ _ e => e⟩
  · have hc : p.too.cl = true := by rw [q1]
    rw [if_pos hc]
    by_cases hlt : p.too.id - 1 < 0 ∨ 4 ≤ p.too.id - 1
    · exfalso
      have hcl : p.too.id = d.cl := by rw [q1]
      have := h.cls j d h1
      omega
    · rw [if_neg hlt]
      exact h.clieT hp hc _
def upAt (up : List Bool) (id : Int) : Bool := decide (1 ≤ id) && (decide (id ≤ (up.length : Int)) && (up[(id - 1).toNat]?.getD false))
def exS (k : Bool) (up : List Bool) (y : Wd × List Pm) (p : Pm) : Wd × List Pm :=
  if p.too.cl != k then (y.1, y.2 ++ [p]) else if k || upAt up p.too.id then (delW y.1 p, y.2) else y
def exF (k : Bool) (up : List Bool) (x : Wd) (l : List Pm) : Wd × List Pm := l.foldl (exS k up) ({ x with un := [] }, [])
def exK (k : Bool) (up : List Bool) (x : Wd) : Wd := { (exF k up x x.un).1 with un := (exF k up x x.un).2 ++ (exF k up x x.un).1.un }
def exW (x : Wd) (c : Nat) (up : List Bool) : Wd := match x.m c with
  | none => x
  | some s => exK true up (exK false up (sendW x (outs (s, tikP s))))
theorem exF_snoc (k : Bool) (up : List Bool) (x : Wd) (l : List Pm) (p : Pm) : exF k up x (l ++ [p]) = exS k up (exF k up x l) p := by unfold exF; rw [List.foldl_append]; rfl
theorem snoc_ind {α : Type} {P : List α → Prop} (h0 : P []) (hs : ∀ l a, P l → P (l ++ [a])) (l : List α) : P l := by
  have key : ∀ m : List α, P m.reverse := fun m => by
    induction m with
    | nil => exact h0
    | cons a m ih => rw [List.reverse_cons]; exact hs _ _ ih
  have := key l.reverse
  rwa [List.reverse_reverse] at this
theorem exF_inv (k : Bool) (up : List Bool) {x : Wd} (h : WInv x G T) : ∀ (l : List Pm), (∀ p, p ∈ l → UnOk x G T p) → ∃ T', WInv (exF k up x l).1 G T' ∧ (∀ p, p ∈ (exF k up x l).2 → UnOk (exF k up x l).1 G T' p) ∧ Gro x (exF k up x l).1 ∧ ∀ j t, T j = some t → T' j = some t := by
  intro l
  refine snoc_ind (P := fun l => (∀ p, p ∈ l → UnOk x G T p) → ∃ T', WInv (exF k up x l).1 G T' ∧ (∀ p, p ∈ (exF k up x l).2 → UnOk (exF k up x l).1 G T' p) ∧ Gro x (exF k up x l).1 ∧ ∀ j t, T j = some t → T' j = some t) ?_ ?_ l
  · exact fun _ => ⟨T, h.less (fun p hp => by cases hp), (fun p hp => by cases hp), Gro.like ⟨rfl, rfl, rfl, rfl, rfl, rfl⟩ rfl, fun _ _ e => e⟩
  · intro l p ih hl
    obtain ⟨T', h1, h2, h3, h4⟩ := ih (fun q hq => hl q (List.mem_append_left _ hq))
    have hp : UnOk (exF k up x l).1 G T' p := (hl p (by simp)).gro h3 h4
    rw [exF_snoc]
    unfold exS
    split
    · exact ⟨T', h1, fun q hq => (List.mem_append.1 hq).elim (h2 q) (fun e => by rw [List.mem_singleton.1 e]; exact hp), h3, h4⟩
    · split
      · obtain ⟨T2, k1, k2⟩ := h1.delT hp
        exact ⟨T2, k1, fun q hq => (h2 q hq).gro (Gro.del _ _) k2, h3.trans (Gro.del _ _), fun j t e => k2 j t (h4 j t e)⟩
      · exact ⟨T', h1, h2, h3, h4⟩
theorem exK_inv (k : Bool) (up : List Bool) {x : Wd} (h : WInv x G T) : ∃ T', WInv (exK k up x) G T' := by
  obtain ⟨T', h1, h2, _, _⟩ := exF_inv k up h x.un h.msg
  exact ⟨T', h1.like ⟨rfl, rfl, rfl, rfl, rfl, rfl⟩ h1.br (fun p hp => (List.mem_append.1 hp).elim (h2 p) (h1.msg p)) h1.laid⟩
end
end Go.Proofs.Ytgiokkcdgoloaaa.Md
