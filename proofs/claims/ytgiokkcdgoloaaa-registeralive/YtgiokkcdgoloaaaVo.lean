import Derived.Test.YtgiokkcdgoloaaaZc
namespace Go.Proofs.Ytgiokkcdgoloaaa.Md
open Go.RowKit
set_option linter.unusedVariables false
set_option linter.unusedSimpArgs false
section
variable {w x y : Wd} {G : Nat → Int → Sp} {T : Nat → Option Sp} {c : Nat} {s : RM} {up : List Bool} {al : Bool} {t0 : Sp} {b : Bp}
theorem ph_self {s : RM} {P : Rp} (h : s.ph = P) : { s with ph := P } = s := by subst h; rfl
theorem exK_gro (k : Bool) (h : WInv x G T) : ∃ T', WInv (exK k up x) G T' ∧ Gro x (exK k up x) := by
  obtain ⟨T', h1⟩ := exK_inv k up h
  obtain ⟨_, _, _, h3, _⟩ := exF_inv k up h x.un h.msg
  exact ⟨T', h1, h3.trans (Gro.like ⟨rfl, rfl, rfl, rfl, rfl, rfl⟩ rfl)⟩
theorem exK_len (k : Bool) (h : WInv x G T) (hn : x.n ≤ 7) : (exK k up x).un.length ≤ 7 * x.un.length := by
  have := exF_len (up := up) k h hn x.un h.msg
  show ((exF k up x x.un).2 ++ (exF k up x x.un).1.un).length ≤ _
  rw [List.length_append]
  omega
theorem tick_send (hm : x.m c = some s) (hg : x.gone c = false) : tickW x c = sendW x (outs (s, tikP s)) := by
  unfold tickW
  rw [hm]
  dsimp only
  rw [hg]
  rfl
theorem asked_all (h : WInv x G T) (hm : x.m c = some s) (hg : x.gone c = false) (hl : x.un.length ≤ 290) (hn : x.n ≤ 7) (hss : (tikP s).ss.length ≤ 7) (hk : (tikP s).k = 1 ∨ (tikP s).k = 2) :
    ∃ T', WInv (exK false up (sendW x (outs (s, tikP s)))) G T' ∧ Gro x (exK false up (sendW x (outs (s, tikP s)))) ∧ (exK false up (sendW x (outs (s, tikP s)))).m = x.m ∧ (exK false up (sendW x (outs (s, tikP s)))).un.length ≤ x.un.length + 7 ∧
    (∀ sv, sv ∈ (tikP s).ss → sv ∈ wdG x → upAt up sv = true → ∃ p, p ∈ (exK false up (sendW x (outs (s, tikP s)))).un ∧ AnsTo s ((tikP s).k + 10) sv p) ∧
    (x.un = [] → (tikP s).k = 1 → ∀ p, p ∈ (exK false up (sendW x (outs (s, tikP s)))).un → p.k = 11 → p.fr.id ∈ wdG x ∧ upAt up p.fr.id = true ∧ p.st = (x.held p.fr.id).st) := by
  have h1 := h.tick c
  rw [tick_send hm hg] at h1
  have hol : (outs (s, tikP s)).length = (tikP s).ss.length := outs_len _
  have hun := send_all (outs (s, tikP s)) x (by omega)
  obtain ⟨f1, f2, f3, f4⟩ := sendW_fix (outs (s, tikP s)) x
  have hG := Gro.send x (outs (s, tikP s))
  generalize hx1 : sendW x (outs (s, tikP s)) = x1 at h1 hun f1 f4 hG
  obtain ⟨T', k1, k2⟩ := exK_gro (up := up) false h1
  have hlen : x1.un.length ≤ x.un.length + 7 := by rw [hun, List.length_append]; omega
  obtain ⟨⟨i1, i2, i3, i4⟩, _⟩ := qry_fold (x := x1) (up := up) (by omega) x1.un [] (List.append_nil _).symm
  have hz : wdG x1 = wdG x := wdG_gro hG
  refine ⟨T', k1, hG.trans k2, i1.trans f4.m, ?_, fun sv q1 q2 q3 => ?_, fun e1 e2 => ?_⟩
  · show ((exF false up x1 x1.un).2 ++ (exF false up x1 x1.un).1.un).length ≤ _
    rw [List.length_append]
    omega
  · have hq : (⟨(tikP s).k, ⟨true, s.cl⟩, ⟨false, sv⟩, s.op, s.rd, s.ky, (tikP s).st, (tikP s).z⟩ : Pm) ∈ x1.un := by
      rw [hun]
      exact List.mem_append_right _ (List.mem_map.2 ⟨sv, q1, rfl⟩)
    obtain ⟨p, p1, p2, p3, p4, p5, p6, p7⟩ := i3 _ hq rfl (by rw [hz]; exact q2) q3 hk
    exact ⟨p, List.mem_append_right _ p1, p2, p3, p4, p5, p6, p7⟩
  · have hall : ∀ q, q ∈ x1.un → q.too.cl = false ∧ q.k = 1 := fun q hq => by
      rw [hun, e1, List.nil_append] at hq
      obtain ⟨sv, _, rfl⟩ := List.mem_map.1 hq
      exact ⟨rfl, e2⟩
    obtain ⟨j1, j2, j3⟩ := i4 hall
    intro p hp hk
    have hp : p ∈ (exF false up x1 x1.un).2 ++ (exF false up x1 x1.un).1.un := hp
    rw [j2, List.nil_append] at hp
    obtain ⟨u1, u2⟩ := j3 p hp
    obtain ⟨u3, u4⟩ := u2 hk
    exact ⟨by rw [← hz]; exact u3, u1, by rw [u4, f4.held]⟩
theorem exW_some (hm : x.m c = some s) : exW x c up = exK true up (exK false up (sendW x (outs (s, tikP s)))) := by unfold exW; rw [hm]
theorem exW_none (hm : x.m c = none) : exW x c up = x := by unfold exW; rw [hm]
theorem miss_len {α : Type} {X : TS α} {s : RM} (h : X.g = wdG x) (hn : x.n ≤ 7) : (missL X).length ≤ 7 := by
  have := missL_len X
  rw [h, wdG_len] at this
  omega
theorem exW_ask (h : WInv x G T) (hm : x.m c = some s) {X : TS Bp} (hs : s.ph = .ask X) (hg : x.gone c = false) (hl : x.un.length ≤ 290) (hn : x.n ≤ 7) (hup : s.need ≤ ((wdG x).countP (fun sv => upAt up sv) : Int))
    (ha : al = true → x.un = [] ∧ (∃ n, s.aim = .rd n) ∧ (∀ i, X.v i = none) ∧ ∀ sv, sv ∈ wdG x → upAt up sv = true → (x.held sv).st = t0) : (exW x c up).m c = none ∨ (al = false ∧ ∃ s' b U, (exW x c up).m c = some s' ∧ s'.ph = .lay b U) := by
  have hact := h.act c s hm
  have hk := hact.2.2.2.2.1.ph
  rw [hs] at hk
  obtain ⟨k1, k2, k3, _⟩ := hk
  have ht : tikP s = ⟨1, spZ, [], missL X⟩ := by unfold tikP; rw [hs]
  obtain ⟨T', a1, a2, a3, a4, a5, a6⟩ := asked_all (up := up) h hm hg hl hn (by rw [ht]; exact miss_len (s := s) k1 hn) (by rw [ht]; exact .inl rfl)
  rw [exW_some hm]
  generalize exK false up (sendW x (outs (s, tikP s))) = y at a1 a2 a3 a4 a5 a6
  rw [ht] at a5 a6
  have hz : wdG x = wdG y := (wdG_gro a2).symm
  have hgy : y.gone c = false := by rw [a2.gone]; exact hg
  have hst : AskG al t0 s c up (wdG y) y y.un := by
    refine .inr (.inr ⟨X, by rw [a3, hm, ph_self hs], fun sv q1 q2 => ?_, fun e i b hb => by rw [(ha e).2.2.1 i] at hb; cases hb⟩)
    rw [← hz] at q1
    cases hv : X.v sv with
    | some _ => exact .inl rfl
    | none =>
      right
      exact a5 sv (by
        show sv ∈ missL X
        unfold missL
        rw [List.mem_filter, k1, hv]
        exact ⟨q1, rfl⟩) q1 q2
  have hf := ask_fold (T := T') a1 rfl hgy hact.2.1 hst (fun e => ⟨(ha e).2.1, fun p hp hk => by
    obtain ⟨u1, u2, u3⟩ := a6 (ha e).1 rfl p hp hk
    rw [u3]
    exact (ha e).2.2.2 _ u1 u2⟩) y.un [] (List.append_nil _).symm
  obtain ⟨T2, b1, _, b3, _⟩ := exF_inv true up a1 y.un a1.msg
  have hzz : wdG (exF true up y y.un).1 = wdG y := wdG_gro b3
  rw [← hzz] at hf
  show (exF true up y y.un).1.m c = none ∨ (al = false ∧ ∃ s' b U, (exF true up y y.un).1.m c = some s' ∧ s'.ph = .lay b U)
  exact ask_end b1 hf (by rw [hzz, ← hz]; exact hup)
theorem exW_lay (h : WInv x G T) (hm : x.m c = some s) {U : TS Unit} (hs : s.ph = .lay b U) (hg : x.gone c = false) (hl : x.un.length ≤ 290) (hn : x.n ≤ 7) (hup : s.need ≤ ((wdG x).countP (fun sv => upAt up sv) : Int)) : (exW x c up).m c = none := by
  have hact := h.act c s hm
  have hk := hact.2.2.2.2.1.ph
  rw [hs] at hk
  obtain ⟨k1, k2, k3, _⟩ := hk
  have ht : tikP s = ⟨2, b.st, b.z, missL U⟩ := by unfold tikP; rw [hs]
  obtain ⟨T', a1, a2, a3, a4, a5, a6⟩ := asked_all (up := up) h hm hg hl hn (by rw [ht]; exact miss_len (s := s) k1 hn) (by rw [ht]; exact .inr rfl)
  rw [exW_some hm]
  generalize exK false up (sendW x (outs (s, tikP s))) = y at a1 a2 a3 a4 a5 a6
  rw [ht] at a5 a6
  have hz : wdG x = wdG y := (wdG_gro a2).symm
  have hgy : y.gone c = false := by rw [a2.gone]; exact hg
  have hst : LayG s b c up (wdG y) y y.un := by
    refine .inr ⟨U, by rw [a3, hm, ph_self hs], fun sv q1 q2 => ?_⟩
    rw [← hz] at q1
    cases hv : U.v sv with
    | some _ => exact .inl rfl
    | none =>
      right
      exact a5 sv (by
        show sv ∈ missL U
        unfold missL
        rw [List.mem_filter, k1, hv]
        exact ⟨q1, rfl⟩) q1 q2
  have hf := lay_fold (T := T') a1 rfl hgy hact.2.1 hst y.un [] (List.append_nil _).symm
  obtain ⟨T2, b1, _, b3, _⟩ := exF_inv true up a1 y.un a1.msg
  have hzz : wdG (exF true up y y.un).1 = wdG y := wdG_gro b3
  rw [← hzz] at hf
  show (exF true up y y.un).1.m c = none
  exact lay_end b1 hf (by rw [hzz, ← hz]; exact hup)
theorem exW_inv (h : WInv x G T) (hg : x.gone c = false) (hn : x.n ≤ 7) (hl : x.un.length ≤ 30) : ∃ T', WInv (exW x c up) G T' ∧ Gro x (exW x c up) ∧ (exW x c up).un.length ≤ 7 * (x.un.length + 7) := by
  cases hm : x.m c with
  | none => rw [exW_none hm]; exact ⟨T, h, Gro.refl _, by omega⟩
  | some s =>
    rw [exW_some hm]
    have h1 := h.tick c
    rw [tick_send hm hg] at h1
    have hG := Gro.send x (outs (s, tikP s))
    have hss : (outs (s, tikP s)).length ≤ 7 := by
      rw [outs_len]
      have hk := (h.act c s hm).2.2.2.2.1.ph
      unfold tikP
      cases hp : s.ph with
      | ask X => rw [hp] at hk; exact miss_len (s := s) hk.1 hn
      | lay b U => rw [hp] at hk; exact miss_len (s := s) hk.1 hn
      | fresh => simp [toZ]
      | fin er st z => simp [toZ]
    have hlen : (sendW x (outs (s, tikP s))).un.length ≤ x.un.length + 7 := by
      have := send_len (outs (s, tikP s)) x
      omega
    have hf1 := (qry_fold (x := sendW x (outs (s, tikP s))) (up := up) (by omega) _ [] (List.append_nil _).symm).1.len
    generalize sendW x (outs (s, tikP s)) = x1 at h1 hG hlen hf1
    obtain ⟨T1, k1, k2⟩ := exK_gro (up := up) false h1
    have hl2 : (exK false up x1).un.length ≤ x.un.length + 7 := by
      show ((exF false up x1 x1.un).2 ++ (exF false up x1 x1.un).1.un).length ≤ _
      rw [List.length_append]
      omega
    generalize exK false up x1 = y at k1 k2 hl2
    obtain ⟨T2, m1, m2⟩ := exK_gro (up := up) true k1
    have hl3 := exK_len (up := up) true k1 (by rw [k2.n, hG.n]; exact hn)
    exact ⟨T2, m1, (hG.trans k2).trans m2, by omega⟩
theorem need_w (h : WInv x G T) (hm : x.m c = some s) (hup : x.n / 2 + 1 ≤ (wdG x).countP (fun sv => upAt up sv)) : s.need ≤ ((wdG x).countP (fun sv => upAt up sv) : Int) := by
  unfold RM.need
  rw [(h.act c s hm).2.2.2.2.1.gz, wdG_len]
  omega
theorem two_ex (h : WInv x G T) (hg : x.gone c = false) (hx : x.un = []) (hn : x.n ≤ 7) (hup : x.n / 2 + 1 ≤ (wdG x).countP (fun sv => upAt up sv)) : (exW (exW x c up) c up).m c = none := by
  have fin : (exW x c up).m c = none → (exW (exW x c up) c up).m c = none := fun e => by rw [exW_none e]; exact e
  cases hm : x.m c with
  | none => exact fin (by rw [exW_none hm]; exact hm)
  | some s =>
    have hph := (h.act c s hm).2.2.2.2.2.2
    cases hs : s.ph with
    | fresh => rw [hs] at hph; exact hph.elim
    | fin er st z => rw [hs] at hph; exact hph.elim
    | lay b U => exact fin (exW_lay h hm hs hg (by rw [hx]; simp) hn (need_w h hm hup))
    | ask X =>
      rcases exW_ask (al := false) (t0 := spZ) h hm hs hg (by rw [hx]; simp) hn (need_w h hm hup) (fun e => by cases e) with e | ⟨_, s', b, U, e1, e2⟩
      · exact fin e
      · obtain ⟨T', k1, k2, k3⟩ := exW_inv (up := up) h hg hn (by rw [hx]; simp)
        have hz := wdG_gro k2
        rw [hx] at k3
        simp only [List.length_nil] at k3
        exact exW_lay k1 e1 e2 (by rw [k2.gone]; exact hg) (by omega) (by rw [k2.n]; exact hn) (by
          have := need_w (up := up) k1 e1 (by rw [hz, k2.n]; exact hup)
          exact this)
theorem one_ex (h : WInv x G T) (hm : x.m c = some s) {X : TS Bp} (hs : s.ph = .ask X) (hX : ∀ i, X.v i = none) {n : Nat} (haim : s.aim = .rd n) (hg : x.gone c = false) (hx : x.un = []) (hn : x.n ≤ 7) (hup : x.n / 2 + 1 ≤ (wdG x).countP (fun sv => upAt up sv))
    (ha : ∀ sv, sv ∈ wdG x → upAt up sv = true → (x.held sv).st = t0) : (exW x c up).m c = none := by
  rcases exW_ask (al := true) (t0 := t0) h hm hs hg (by rw [hx]; simp) hn (need_w h hm hup) (fun _ => ⟨hx, ⟨n, haim⟩, hX, ha⟩) with e | ⟨e, _⟩
  · exact e
  · cases e
theorem beg_read (hm : x.m c = none) (hg : x.gone c = false) (h0 : 0 ≤ x.rd c) (h1 : x.rd c ≤ 1000000) : ∃ s X, (begW x c false []).m c = some s ∧ s.ph = .ask X ∧ (∀ i, X.v i = none) ∧ s.aim = .rd 3 := by
  have hb : begP (machW x c false []) = ({ machW x c false [] with ph := .ask (tNew Bp (machW x c false []).zs (machW x c false []).need) }, ⟨1, spZ, [], (machW x c false []).zs⟩) := by
    unfold begP
    have e : (machW x c false []).ph = .fresh := rfl
    rw [e]
    dsimp only
    rw [if_pos]
    show 1 ≤ x.rd c + 1 ∧ x.rd c + 1 ≤ _
    omega
  obtain ⟨s, hs⟩ : ∃ s : RM, s = { machW x c false [] with ph := .ask (tNew Bp (machW x c false []).zs (machW x c false []).need) } := ⟨_, rfl⟩
  rw [← hs] at hb
  have hp : s.ph = .ask (tNew Bp (machW x c false []).zs (machW x c false []).need) := by rw [hs]
  refine ⟨s, _, ?_, hp, fun _ => rfl, by rw [hs]; rfl⟩
  unfold begW
  rw [hm, hg, hb]
  dsimp only [Option.isSome_none, Bool.or_self]
  rw [if_neg (by decide)]
  generalize hv : sendW _ (outs (s, _)) = v
  have hvm : v.m c = some s := by
    rw [← hv, (sendW_fix _ _).2.2.2.m]
    show upN x.m c (some s) c = _
    unfold upN; rw [if_pos rfl]
  rw [look_on hvm (fun er st z e => by rw [hp] at e; cases e)]
  exact hvm
theorem up_count (hl : up.length = x.n) : (wdG x).countP (fun sv => upAt up sv) = up.countP (fun b => b) := by
  unfold wdG
  rw [List.countP_map, ← hl]
  have key : ∀ l : List Bool, (List.range l.length).countP (fun i => l[i]?.getD false) = l.countP (fun b => b) := fun l => by
    have e : l = (List.range l.length).map (fun i => l[i]?.getD false) := by
      refine List.ext_getElem (by simp) (fun i h1 h2 => ?_)
      simp [List.getElem?_eq_getElem h1]
    conv => rhs; rw [e]
    rw [List.countP_map]
    rfl
  rw [← key up]
  refine List.countP_congr (fun i hi => ?_)
  have := List.mem_range.1 hi
  show (upAt up ((i : Int) + 1) = true) ↔ _
  unfold upAt
  rw [decide_eq_true (by omega), decide_eq_true (by omega), show ((i : Int) + 1 - 1).toNat = i by omega]
  rfl
theorem set_count (l : List Bool) : ∀ i : Nat, l.countP (fun b => b) ≤ (l.set i false).countP (fun b => b) + 1 := by
  induction l with
  | nil => intro i; simp
  | cons a l ih =>
    intro i
    cases i with
    | zero => cases a <;> simp
    | succ i =>
      have := ih i
      rw [List.set_cons_succ, List.countP_cons, List.countP_cons]
      omega
end
end Go.Proofs.Ytgiokkcdgoloaaa.Md
namespace Go.Proofs.Ytgiokkcdgoloaaa.Md
open Go.RowKit
set_option linter.unusedVariables false
set_option linter.unusedSimpArgs false
section
variable {N Lb Db R : Nat} {x : Wd} {G : Nat → Int → Sp} {T : Nat → Option Sp}
theorem WInv.tikL (hw : WInv x G T) {c : Nat} {s : RM} (hs : x.m c = some s) : (tikP s).ss.length ≤ s.zs.length := by
  obtain ⟨_, _, _, _, hM, _⟩ := hw.act c s hs
  have hp := hM.ph
  have hz := hM.gz
  unfold tikP
  split
  · rename_i X e
    rw [e] at hp
    have := missL_len X
    rw [hp.1, ← hz] at this
    exact this
  · rename_i b U e
    rw [e] at hp
    have := missL_len U
    rw [hp.1, ← hz] at this
    exact this
  · simp [toZ]
theorem QB.cut (h : QB N Lb Db R x) (i : Nat) : QB N Lb Db R { x with un := x.un.take i ++ x.un.drop (i + 1) } :=
  ⟨h.now, h.ls, h.ds, h.n, h.rd, h.mr, by
    have := h.un
    show (x.un.take i ++ x.un.drop (i + 1)).length ≤ 301
    rw [List.length_append, List.length_take, List.length_drop]
    omega, fun q hq => h.n12 q (by
    replace hq : q ∈ x.un.take i ++ x.un.drop (i + 1) := hq
    rcases List.mem_append.1 hq with e | e
    · exact List.mem_of_mem_take e
    · exact List.mem_of_mem_drop e)⟩
theorem QB.ev (h : QB N Lb Db R x) (hw : WInv x G T) (k a : Int) (z : List Int) : QB (N + 2) (Lb + 7) (Db + 1) (R + 1) (evW x k a z) := by
  have h0 := h.mono (N' := N + 2) (Lb' := Lb + 7) (Db' := Db + 1) (R' := R + 1) (by omega) (by omega) (by omega) (by omega)
  by_cases h1 : k = 1
  · subst h1; rw [evW_1]; exact h.beg _ _ _
  by_cases h2 : k = 2
  · subst h2; rw [evW_2]; exact h.beg _ _ _
  by_cases h6 : k = 6
  · subst h6; rw [evW_6]
    exact h.tick (w := default) _ (fun s hs => hw.tikL hs)
  by_cases h7 : k = 7
  · subst h7; rw [evW_7]
    exact ⟨h0.now, h0.ls, h0.ds, h0.n, h0.rd, h0.mr, h0.un, h0.n12⟩
  by_cases ho : k < 3 ∨ 5 < k
  · rw [evW_o x k a z ho h1 h2 h6 h7]; exact h0
  by_cases he : x.un.length = 0
  · rw [evW_e x k a z he h1 h2 h6 h7]; exact h0
  have hi := (rnd_mod a x.un.length (by omega)).2
  obtain ⟨p, hp⟩ : ∃ p, x.un[rndW a x.un.length]? = some p := ⟨_, List.getElem?_eq_getElem hi⟩
  rw [evW_t hp (by omega) (by omega)]
  have hc := h.cut (rndW a x.un.length)
  split
  · exact hc.del p
  · split
    · split
      · rename_i hlt
        suffices key : QB N Lb Db R { x with un := (x.un.take (rndW a x.un.length) ++ x.un.drop (rndW a x.un.length + 1)) ++ [p, p] } from key.mono (by omega) (by omega) (by omega) (by omega)
        refine ⟨hc.now, hc.ls, hc.ds, hc.n, hc.rd, hc.mr, ?_, fun q hq => ?_⟩
        · show ((x.un.take (rndW a x.un.length) ++ x.un.drop (rndW a x.un.length + 1)) ++ [p, p]).length ≤ 301
          rw [List.length_append]
          simp only [List.length_cons, List.length_nil]
          omega
        · replace hq : q ∈ (x.un.take (rndW a x.un.length) ++ x.un.drop (rndW a x.un.length + 1)) ++ [p, p] := hq
          rcases List.mem_append.1 hq with e | e
          · exact hc.n12 q e
          · have : q = p := by simpa using e
            rw [this]
            exact h.n12 p (List.mem_of_getElem? hp)
      · exact hc.mono (by omega) (by omega) (by omega) (by omega)
    · exact hc.mono (by omega) (by omega) (by omega) (by omega)
theorem mem_wdG {i : Int} (h : i ∈ wdG x) : ∃ c : Nat, c < x.n ∧ i = (c : Int) + 1 := by
  unfold wdG at h
  obtain ⟨c, hc, rfl⟩ := List.mem_map.1 h
  exact ⟨c, List.mem_range.1 hc, rfl⟩
theorem QB.evB (h : QB N Lb Db R x) (hw : WInv x G T) (h1 : N ≤ 900000000) (h2 : Lb ≤ 900000) (h3 : Db ≤ 900000) (h4 : R ≤ 9000000000000000) : EvB x := by
  refine ⟨⟨h.now.1, by have := h.now.2; omega⟩, by have := h.ls; omega, by have := h.ds; omega, by have := h.n; omega, fun c => ⟨by have := (h.rd c).1; omega, by have := (h.rd c).2; omega⟩, fun c s hs => ?_, by have := h.un; omega, fun p hp => ?_⟩
  · obtain ⟨_, _, _, _, _, ⟨d, hd, _⟩, _⟩ := hw.act c s hs
    exact (List.getElem?_eq_some_iff.1 hd).1
  · obtain ⟨j, d, hj, _, _, hu⟩ := hw.msg p hp
    rcases hu with ⟨e1, e2, _, e3⟩ | ⟨e1, _, e2, e3⟩
    · exact .inr ⟨e1, mem_wdG e2, e3.imp id (fun q => q.1)⟩
    · have hcl := hw.cls j d hj
      refine .inl ⟨by rw [e1], ⟨(d.cl - 1).toNat, by omega, by rw [e1]; dsimp only; omega⟩, ?_⟩
      rcases e3 with ⟨_, q1, _⟩ | ⟨q1, _⟩
      · have q2 := hw.low j p.fr.id
        unfold sle spZ at q2
        unfold sle at q1
        dsimp only at q2
        omega
      · rw [h.n12 p hp q1]
        show (-9223372036854775808 : Int) ≤ 0
        decide
theorem QB.sown (n : Nat) (hn : n ≤ 7) : QB 0 0 0 0 (sownW n) :=
  ⟨⟨Int.le_refl _, Int.le_refl _⟩, Nat.le_refl _, Nat.le_refl _, hn, fun c => ⟨Int.le_refl _, Int.le_refl _⟩, fun c s e => (by cases e), Nat.zero_le _, fun p hp => (by cases hp)⟩
end
def plW (n : Nat) (es : List (Int × Int × List Int)) : Wd := es.foldl (fun w e => evW w e.1 e.2.1 e.2.2) (sownW n)
theorem plW_snoc (n : Nat) (es : List (Int × Int × List Int)) (e : Int × Int × List Int) : plW n (es ++ [e]) = evW (plW n es) e.1 e.2.1 e.2.2 := by unfold plW; rw [List.foldl_append]; rfl
theorem plW_n (n : Nat) (hn : n ≤ 7) : ∀ (k : Nat) (es : List (Int × Int × List Int)), es.length = k → (∃ G T, WInv (plW n es) G T) ∧ QB (2 * k) (7 * k) k k (plW n es) := by
  intro k
  induction k with
  | zero =>
    intro es he
    rw [List.eq_nil_of_length_eq_zero he]
    exact ⟨⟨_, _, sown_inv n⟩, QB.sown n hn⟩
  | succ k ih =>
    intro es he
    have hne : es ≠ [] := fun e => by rw [e] at he; cases he
    have hd := List.dropLast_concat_getLast hne
    have hl : es.dropLast.length = k := by rw [List.length_dropLast]; omega
    obtain ⟨⟨G, T, hw⟩, hq⟩ := ih es.dropLast hl
    rw [← hd, plW_snoc]
    refine ⟨hw.ev _ _ _, ?_⟩
    have := hq.ev hw (es.getLast hne).1 (es.getLast hne).2.1 (es.getLast hne).2.2
    exact this.mono (by omega) (by omega) (by omega) (by omega)
theorem plW_ev (n : Nat) (hn : n ≤ 7) (es : List (Int × Int × List Int)) (hl : es.length ≤ 600) : EvB (plW n es) := by
  obtain ⟨⟨G, T, hw⟩, hq⟩ := plW_n n hn es.length es rfl
  exact hq.evB hw (by omega) (by omega) (by omega) (by omega)
end Go.Proofs.Ytgiokkcdgoloaaa.Md
