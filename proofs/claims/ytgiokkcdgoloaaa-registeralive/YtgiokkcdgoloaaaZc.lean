import Derived.Test.YtgiokkcdgoloaaaXo
import Derived.Test.YtgiokkcdgoloaaaUb
namespace Go.Proofs.Ytgiokkcdgoloaaa.Md
open Go.RowKit
set_option linter.unusedVariables false
set_option linter.unusedSimpArgs false
structure QB (N Lb Db R : Nat) (x : Wd) : Prop where
  now : 0 ≤ x.now ∧ x.now ≤ N
  ls : x.ls.length ≤ Lb
  ds : x.ds.length ≤ Db
  n : x.n ≤ 7
  rd : ∀ c, 0 ≤ x.rd c ∧ x.rd c ≤ R
  mr : ∀ c s, x.m c = some s → 0 ≤ s.rd ∧ s.rd ≤ R ∧ s.zs.length ≤ x.n
  un : x.un.length ≤ 301
  n12 : ∀ p, p ∈ x.un → p.k = 12 → p.st = spZ
section
variable {N Lb Db R N' Lb' Db' R' : Nat} {x : Wd}
theorem QB.mono (h : QB N Lb Db R x) (h1 : N ≤ N') (h2 : Lb ≤ Lb') (h3 : Db ≤ Db') (h4 : R ≤ R') : QB N' Lb' Db' R' x :=
  ⟨⟨h.now.1, by have := h.now.2; omega⟩, by have := h.ls; omega, by have := h.ds; omega, h.n, fun c => ⟨(h.rd c).1, by have := (h.rd c).2; omega⟩, fun c s e => ⟨(h.mr c s e).1, by have := (h.mr c s e).2.1; omega, (h.mr c s e).2.2⟩, h.un, h.n12⟩
theorem laidW_un (x : Wd) (t : Sp) (z : List Int) : (laidW x t z).un = x.un := by
  unfold laidW
  split <;> rfl
theorem QB.send1 (h : QB N Lb Db R x) {p : Pm} (hp : p.k = 12 → p.st = spZ) : QB N (Lb + 1) Db R (send1 x p) := by
  obtain ⟨q1, q2, q3, q4, q5, q6, q7⟩ := send1_same x p
  have hl := send1_ls x p
  have hu : (Md.send1 x p).un.length ≤ 301 ∧ ∀ q, q ∈ (Md.send1 x p).un → q ∈ x.un ∨ q = p := by
    have hlu := laidW_un x p.st p.z
    have h0 := h.un
    by_cases hk : p.k = 2
    · rw [send1_put hk]
      split
      · refine ⟨?_, fun q hq => ?_⟩
        · show ((laidW x p.st p.z).un ++ [p]).length ≤ 301
          rw [List.length_append]
          simp only [List.length_cons, List.length_nil]
          omega
        · replace hq : q ∈ (laidW x p.st p.z).un ++ [p] := hq
          rw [hlu] at hq
          simpa using hq
      · rw [hlu]; exact ⟨h0, fun q hq => .inl hq⟩
    · rw [send1_no hk]
      split
      · refine ⟨?_, fun q hq => ?_⟩
        · show (x.un ++ [p]).length ≤ 301
          rw [List.length_append]
          simp only [List.length_cons, List.length_nil]
          omega
        · replace hq : q ∈ x.un ++ [p] := hq
          simpa using hq
      · exact ⟨h0, fun q hq => .inl hq⟩
  refine ⟨by rw [q4]; exact h.now, by have := h.ls; omega, by rw [q3]; exact h.ds, by rw [q7]; exact h.n, fun c => by rw [q6]; exact h.rd c, fun c s e => ?_, hu.1, fun q hq => ?_⟩
  · rw [q1] at e
    rw [q7]
    exact h.mr c s e
  · rcases hu.2 q hq with e | rfl
    · exact h.n12 q e
    · exact hp
theorem QB.send (ps : List Pm) : ∀ {Lb : Nat} {x : Wd}, QB N Lb Db R x → (∀ p, p ∈ ps → p.k = 12 → p.st = spZ) → QB N (Lb + ps.length) Db R (sendW x ps) := by
  induction ps with
  | nil => exact fun h _ => h
  | cons p ps ih =>
    intro Lb x h hp
    have h1 := ih (h.send1 (hp p (List.mem_cons_self ..))) (fun q hq => hp q (List.mem_cons_of_mem _ hq))
    rw [List.length_cons, show Lb + (ps.length + 1) = Lb + 1 + ps.length by omega]
    exact h1
theorem QB.setM (h : QB N Lb Db R x) (c : Nat) {s : RM} (h1 : 0 ≤ s.rd) (h2 : s.rd ≤ R) (h3 : s.zs.length ≤ x.n) : QB N Lb Db R { x with m := upN x.m c (some s) } :=
  ⟨h.now, h.ls, h.ds, h.n, h.rd, fun k t e => by
    replace e : upN x.m c (some s) k = some t := e
    unfold upN at e
    split at e
    · cases e; exact ⟨h1, h2, h3⟩
    · exact h.mr k t e, h.un, h.n12⟩
theorem QB.look (h : QB N Lb Db R x) (c : Nat) : QB (N + 1) Lb Db R (lookW x c) := by
  have h0 := h.mono (N' := N + 1) (Nat.le_succ _) (Nat.le_refl _) (Nat.le_refl _) (Nat.le_refl _)
  cases hm : x.m c with
  | none => rw [lookW_none hm]; exact h0
  | some s =>
    have hs := h.mr c s hm
    have hrd : ∀ k, 0 ≤ upN x.rd c s.rd k ∧ upN x.rd c s.rd k ≤ R := fun k => by
      unfold upN
      split
      · exact ⟨hs.1, hs.2.1⟩
      · exact h.rd k
    cases hd : (donP s).2.2.2 with
    | false => rw [lookW_no hm hd]; exact ⟨h0.now, h.ls, h.ds, h.n, hrd, h.mr, h.un, h.n12⟩
    | true =>
      rw [lookW_fin hm hd]
      refine ⟨?_, h.ls, by show (x.ds.modify _ _).length ≤ Db; rw [List.length_modify]; exact h.ds, h.n, hrd, fun k t e => ?_, h.un, h.n12⟩
      · have := h.now
        show 0 ≤ x.now + 1 ∧ x.now + 1 ≤ ((N + 1 : Nat) : Int)
        omega
      · replace e : upN x.m c none k = some t := e
        unfold upN at e
        split at e
        · cases e
        · exact h.mr k t e
theorem outs_k (o : RM × To) (h : o.2.k = 0 ∨ o.2.k = 1 ∨ o.2.k = 2) : ∀ p, p ∈ outs o → p.k = 12 → p.st = spZ := by
  intro p hp hk
  unfold outs at hp
  obtain ⟨q, _, rfl⟩ := List.mem_map.1 hp
  dsimp only at hk
  omega
theorem outs_len (o : RM × To) : (outs o).length = o.2.ss.length := by unfold outs; rw [List.length_map]
theorem beg_k (s : RM) : ((begP s).2.k = 0 ∨ (begP s).2.k = 1 ∨ (begP s).2.k = 2) ∧ (begP s).1.rd = s.rd ∧ (begP s).1.zs = s.zs := by
  unfold begP
  split
  · split
    · exact ⟨.inr (.inl rfl), rfl, rfl⟩
    · exact ⟨.inl rfl, rfl, rfl⟩
  · exact ⟨.inl rfl, rfl, rfl⟩
theorem tik_k (s : RM) : (tikP s).k = 0 ∨ (tikP s).k = 1 ∨ (tikP s).k = 2 := by
  unfold tikP
  split
  · exact .inr (.inl rfl)
  · exact .inr (.inr rfl)
  · exact .inl rfl
theorem lay_k (s : RM) (b : Bp) : ((layP s b).2.k = 0 ∨ (layP s b).2.k = 1 ∨ (layP s b).2.k = 2) ∧ (s.rd ≤ (layP s b).1.rd ∧ (layP s b).1.rd ≤ s.rd + 1) ∧ (layP s b).1.zs = s.zs := by
  unfold layP
  split
  · exact ⟨.inl rfl, ⟨Int.le_refl _, by show s.rd ≤ s.rd + 1; omega⟩, rfl⟩
  · exact ⟨.inr (.inr rfl), ⟨by show s.rd ≤ s.rd + 1; omega, Int.le_refl _⟩, rfl⟩
theorem set_k (s : RM) (l : List Bp) : ((setP s l).2.k = 0 ∨ (setP s l).2.k = 1 ∨ (setP s l).2.k = 2) ∧ (s.rd ≤ (setP s l).1.rd ∧ (setP s l).1.rd ≤ s.rd + 1) ∧ (setP s l).1.zs = s.zs := by
  unfold setP
  split
  · split
    · exact ⟨.inl rfl, ⟨Int.le_refl _, by show s.rd ≤ s.rd + 1; omega⟩, rfl⟩
    · exact lay_k _ _
  · split
    · exact lay_k _ _
    · exact ⟨.inl rfl, ⟨Int.le_refl _, by show s.rd ≤ s.rd + 1; omega⟩, rfl⟩
theorem tak_k (s : RM) (d : Mg) (z : List Int) : ((takP s d z).2.k = 0 ∨ (takP s d z).2.k = 1 ∨ (takP s d z).2.k = 2) ∧ (s.rd ≤ (takP s d z).1.rd ∧ (takP s d z).1.rd ≤ s.rd + 1) ∧ (takP s d z).1.zs = s.zs := by
  have same : ∀ t : RM, t.rd = s.rd → t.zs = s.zs → (((t, toZ) : RM × To).2.k = 0 ∨ ((t, toZ) : RM × To).2.k = 1 ∨ ((t, toZ) : RM × To).2.k = 2) ∧ (s.rd ≤ ((t, toZ) : RM × To).1.rd ∧ ((t, toZ) : RM × To).1.rd ≤ s.rd + 1) ∧ ((t, toZ) : RM × To).1.zs = s.zs := fun t e1 e2 => ⟨.inl rfl, ⟨by show s.rd ≤ t.rd; omega, by show t.rd ≤ s.rd + 1; omega⟩, e2⟩
  unfold takP
  split
  · split
    · split
      · exact set_k _ _
      · exact same _ rfl rfl
    · exact same _ rfl rfl
  · split
    · split <;> exact same _ rfl rfl
    · exact same _ rfl rfl
  · exact same _ rfl rfl
theorem QB.beg (h : QB N Lb Db R x) (c : Nat) (wr : Bool) (z : List Int) : QB (N + 2) (Lb + 7) (Db + 1) (R + 1) (begW x c wr z) := by
  have h0 := h.mono (N' := N + 2) (Lb' := Lb + 7) (Db' := Db + 1) (R' := R + 1) (by omega) (by omega) (by omega) (by omega)
  cases hm : x.m c with
  | some s => rw [begW_busy hm]; exact h0
  | none =>
    cases hg : x.gone c with
    | true => rw [begW_gone hg]; exact h0
    | false =>
      rw [begW_some hm hg]
      obtain ⟨k1, k2, k3⟩ := beg_k (machW x c wr z)
      have hl := ss_beg (machW x c wr z)
      have hz : (machW x c wr z).zs.length = x.n := by show (wdG x).length = x.n; simp [wdG]
      have hn := h.n
      have hr := h.rd c
      have h1 : QB (N + 1) Lb (Db + 1) (R + 1) { x with m := upN x.m c (some (begP (machW x c wr z)).1), now := x.now + 1, at' := upN x.at' c x.ds.length, ds := x.ds ++ [⟨wr, (c : Int) + 1, x.now + 1, 0, z, 0, spZ, []⟩] } := by
        refine ⟨?_, h.ls, ?_, h.n, fun k => ⟨(h.rd k).1, by have := (h.rd k).2; dsimp only; omega⟩, fun k t e => ?_, h.un, h.n12⟩
        · have := h.now
          show 0 ≤ x.now + 1 ∧ x.now + 1 ≤ ((N + 1 : Nat) : Int)
          omega
        · show (x.ds ++ [_]).length ≤ Db + 1
          have := h.ds
          rw [List.length_append]
          simp only [List.length_cons, List.length_nil]
          omega
        · replace e : upN x.m c (some (begP (machW x c wr z)).1) k = some t := e
          unfold upN at e
          split at e
          · cases e
            rw [k2, k3]
            have e2 : (machW x c wr z).rd = x.rd c + 1 := rfl
            rw [e2]
            exact ⟨by omega, by push_cast; omega, by rw [hz]; exact Nat.le_refl _⟩
          · have := h.mr k t e
            exact ⟨this.1, by have := this.2.1; push_cast; omega, this.2.2⟩
      have h2 := (h1.send (outs (begP (machW x c wr z))) (outs_k _ k1)).look c
      rw [outs_len] at h2
      exact h2.mono (by omega) (by omega) (by omega) (by omega)
theorem QB.clie (h : QB N Lb Db R x) (p : Pm) (c : Nat) : QB (N + 2) (Lb + 7) (Db + 1) (R + 1) (clieW x p c) := by
  have h0 := h.mono (N' := N + 2) (Lb' := Lb + 7) (Db' := Db + 1) (R' := R + 1) (by omega) (by omega) (by omega) (by omega)
  cases hm : x.m c with
  | none => rw [clieW_none hm]; exact h0
  | some s =>
    cases hg : x.gone c with
    | true => rw [clieW_gone hg]; exact h0
    | false =>
      rw [clieW_some hm hg]
      obtain ⟨k1, k2, k3⟩ := tak_k s (mgP p) p.z
      have hs := h.mr c s hm
      have hl := ss_tak s (mgP p) p.z
      have hn := h.n
      have h1 := (h0.mono (N' := N + 2) (Lb' := Lb + 7) (Db' := Db + 1) (R' := R + 1) (Nat.le_refl _) (Nat.le_refl _) (Nat.le_refl _) (Nat.le_refl _))
      have h2 : QB N Lb Db (R + 1) { x with m := upN x.m c (some (takP s (mgP p) p.z).1) } := (h.mono (N' := N) (Lb' := Lb) (Db' := Db) (R' := R + 1) (Nat.le_refl _) (Nat.le_refl _) (Nat.le_refl _) (by omega)).setM c (by have := hs.1; omega) (by have := hs.2.1; push_cast; omega) (by rw [k3]; exact hs.2.2)
      have h3 := (h2.send (outs (takP s (mgP p) p.z)) (outs_k _ k1)).look c
      rw [outs_len] at h3
      exact h3.mono (by omega) (by omega) (by omega) (by omega)
theorem QB.serv (h : QB N Lb Db R x) (p : Pm) : QB (N + 2) (Lb + 7) (Db + 1) (R + 1) (servW x p) := by
  unfold servW
  split
  · exact (h.send _ (fun q hq hk => by
      simp only [List.mem_singleton] at hq
      subst hq
      exact absurd hk (by show ¬ (11 : Int) = 12; decide))).mono (by omega) (by simp only [List.length_cons, List.length_nil]; omega) (by omega) (by omega)
  · split
    · exact (QB.send _ (⟨h.now, h.ls, h.ds, h.n, h.rd, h.mr, h.un, h.n12⟩ : QB N Lb Db R { x with held := upI x.held p.too.id (newW (x.held p.too.id) p.st p.z) }) (fun q hq hk => by
        simp only [List.mem_singleton] at hq
        subst hq
        rfl)).mono (by omega) (by simp only [List.length_cons, List.length_nil]; omega) (by omega) (by omega)
    · exact (QB.send _ (⟨h.now, h.ls, h.ds, h.n, h.rd, h.mr, h.un, h.n12⟩ : QB N Lb Db R { x with br := true }) (fun q hq hk => by
        simp only [List.mem_singleton] at hq
        subst hq
        rfl)).mono (by omega) (by simp only [List.length_cons, List.length_nil]; omega) (by omega) (by omega)
theorem QB.del (h : QB N Lb Db R x) (p : Pm) : QB (N + 2) (Lb + 7) (Db + 1) (R + 1) (delW x p) := by
  have hb : QB (N + 2) (Lb + 7) (Db + 1) (R + 1) { x with br := true } := (⟨h.now, h.ls, h.ds, h.n, h.rd, h.mr, h.un, h.n12⟩ : QB N Lb Db R { x with br := true }).mono (by omega) (by omega) (by omega) (by omega)
  unfold delW
  split
  · split
    · exact hb
    · exact h.clie p _
  · split
    · exact hb
    · exact h.serv p
theorem QB.tick (h : QB N Lb Db R x) (c : Nat) {w : World} (hz : ∀ s, x.m c = some s → (tikP s).ss.length ≤ s.zs.length) : QB (N + 2) (Lb + 7) (Db + 1) (R + 1) (tickW x c) := by
  have h0 := h.mono (N' := N + 2) (Lb' := Lb + 7) (Db' := Db + 1) (R' := R + 1) (by omega) (by omega) (by omega) (by omega)
  cases hm : x.m c with
  | none => rw [tickW_no hm]; exact h0
  | some s =>
    cases hg : x.gone c with
    | true => rw [tickW_gone hg]; exact h0
    | false =>
      rw [tickW_some hm hg]
      have h1 := h.send (outs (s, tikP s)) (outs_k _ (tik_k s))
      rw [outs_len] at h1
      have h2 := hz s hm
      have h3 := (h.mr c s hm).2.2
      have h4 := h.n
      exact h1.mono (by omega) (by dsimp only; omega) (by omega) (by omega)
end
end Go.Proofs.Ytgiokkcdgoloaaa.Md
namespace Go.Proofs.Ytgiokkcdgoloaaa.Md
open Go.RowKit
set_option linter.unusedVariables false
set_option linter.unusedSimpArgs false
section
variable {w x y : Wd} {G : Nat → Int → Sp} {T : Nat → Option Sp} {c : Nat} {s : RM} {up : List Bool} {al : Bool} {t0 : Sp} {zs : List Int} {p : Pm} {r : List Pm} {b : Bp}
theorem AskG.skip (h : AskG al t0 s c up zs y (p :: r)) (hcl : p.too.cl = false) : AskG al t0 s c up zs y r := by
  rcases h with h | h | ⟨X, h1, h2, h3⟩
  · exact .inl h
  · exact .inr (.inl h)
  · refine .inr (.inr ⟨X, h1, fun sv q1 q2 => (h2 sv q1 q2).imp id ?_, h3⟩)
    rintro ⟨q, hq, ht⟩
    rcases List.mem_cons.1 hq with rfl | hq
    · rw [ht.2.2.1] at hcl; cases hcl
    · exact ⟨q, hq, ht⟩
theorem LayG.skip (h : LayG s b c up zs y (p :: r)) (hcl : p.too.cl = false) : LayG s b c up zs y r := by
  rcases h with h | ⟨U, h1, h2⟩
  · exact .inl h
  · refine .inr ⟨U, h1, fun sv q1 q2 => (h2 sv q1 q2).imp id ?_⟩
    rintro ⟨q, hq, ht⟩
    rcases List.mem_cons.1 hq with rfl | hq
    · rw [ht.2.2.1] at hcl; cases hcl
    · exact ⟨q, hq, ht⟩
theorem wdG_gro (g : Gro x y) : wdG y = wdG x := by unfold wdG; rw [g.n]
theorem ask_fold (h : WInv x G T) (hz : zs = wdG x) (hg : x.gone c = false) (hc : s.cl = (c : Int) + 1) (hst : AskG al t0 s c up zs x x.un) (ha : al = true → (∃ n, s.aim = .rd n) ∧ ∀ p, p ∈ x.un → p.k = 11 → p.st = t0) : ∀ l r, x.un = l ++ r → AskG al t0 s c up zs (exF true up x l).1 r := by
  refine snoc_ind (P := fun l => ∀ r, x.un = l ++ r → AskG al t0 s c up zs (exF true up x l).1 r) ?_ ?_
  · intro r hr
    rw [hr] at hst
    exact hst
  · intro l p ih r hr
    have hr' : x.un = l ++ (p :: r) := by rw [hr, List.append_assoc]; rfl
    have h1 := ih _ hr'
    have hin : ∀ q, q ∈ l → q ∈ x.un := fun q hq => by rw [hr']; exact List.mem_append_left _ hq
    have hp : p ∈ x.un := by rw [hr']; simp
    obtain ⟨T', k1, k2, k3, k4⟩ := exF_inv true up h l (fun q hq => h.msg q (hin q hq))
    rw [exF_snoc]
    unfold exS
    cases hcl : p.too.cl with
    | false =>
      rw [if_pos (by decide)]
      exact h1.skip hcl
    | true =>
      rw [if_neg (by decide), if_pos (by simp)]
      exact h1.step (hz.trans (wdG_gro k3).symm) k1 hc (by rw [k3.gone]; exact hg) (fun e => ⟨(ha e).1, (ha e).2 p hp⟩) hcl
theorem lay_fold (h : WInv x G T) (hz : zs = wdG x) (hg : x.gone c = false) (hc : s.cl = (c : Int) + 1) (hst : LayG s b c up zs x x.un) : ∀ l r, x.un = l ++ r → LayG s b c up zs (exF true up x l).1 r := by
  refine snoc_ind (P := fun l => ∀ r, x.un = l ++ r → LayG s b c up zs (exF true up x l).1 r) ?_ ?_
  · intro r hr
    rw [hr] at hst
    exact hst
  · intro l p ih r hr
    have hr' : x.un = l ++ (p :: r) := by rw [hr, List.append_assoc]; rfl
    have h1 := ih _ hr'
    have hin : ∀ q, q ∈ l → q ∈ x.un := fun q hq => by rw [hr']; exact List.mem_append_left _ hq
    obtain ⟨T', k1, k2, k3, k4⟩ := exF_inv true up h l (fun q hq => h.msg q (hin q hq))
    rw [exF_snoc]
    unfold exS
    cases hcl : p.too.cl with
    | false =>
      rw [if_pos (by decide)]
      exact h1.skip hcl
    | true =>
      rw [if_neg (by decide), if_pos (by simp)]
      exact h1.step (hz.trans (wdG_gro k3).symm) k1 hc (by rw [k3.gone]; exact hg) hcl
theorem cnt_up {α : Type} {X : TS α} (h : ∀ sv, sv ∈ X.g → upAt up sv = true → (X.v sv).isSome = true) : X.g.countP (fun sv => upAt up sv) ≤ cnt X := by
  unfold cnt
  exact List.countP_mono_left (fun sv hs hu => h sv hs hu)
theorem ask_end (hI : WInv y G T) (h : AskG al t0 s c up (wdG y) y []) (hup : s.need ≤ ((wdG y).countP (fun sv => upAt up sv) : Int)) : y.m c = none ∨ (al = false ∧ ∃ s' b U, y.m c = some s' ∧ s'.ph = .lay b U) := by
  rcases h with h | h | ⟨X, h1, h2, _⟩
  · exact .inl h
  · exact .inr h
  · exfalso
    have hk := (hI.act c _ h1).2.2.2.2.1.ph
    obtain ⟨k1, k2, k3, _⟩ := hk
    have := cnt_up (up := up) (X := X) (fun sv q1 q2 => (h2 sv (by rw [← k1]; exact q1) q2).elim id (fun q => by obtain ⟨p, hp, _⟩ := q; cases hp))
    rw [k1] at this
    have k3 : (cnt X : Int) < s.need := k3
    omega
theorem lay_end (hI : WInv y G T) (h : LayG s b c up (wdG y) y []) (hup : s.need ≤ ((wdG y).countP (fun sv => upAt up sv) : Int)) : y.m c = none := by
  rcases h with h | ⟨U, h1, h2⟩
  · exact h
  · exfalso
    have hk := (hI.act c _ h1).2.2.2.2.1.ph
    obtain ⟨k1, k2, k3, _⟩ := hk
    have := cnt_up (up := up) (X := U) (fun sv q1 q2 => (h2 sv (by rw [← k1]; exact q1) q2).elim id (fun q => by obtain ⟨p, hp, _⟩ := q; cases hp))
    rw [k1] at this
    have k3 : (cnt U : Int) < s.need := k3
    omega
def ansOf (y : Wd) (p : Pm) : Pm := if p.k = 1 then ⟨11, p.too, p.fr, p.op, p.rd, p.ky, (y.held p.too.id).st, (y.held p.too.id).z⟩ else if p.k = 2 then ⟨12, p.too, p.fr, p.op, p.rd, p.ky, spZ, []⟩ else ⟨0, p.too, p.fr, p.op, p.rd, p.ky, spZ, []⟩
theorem send_one (y : Wd) (a : Pm) (hk : a.k ≠ 2) : sendW y [a] = if y.un.length < 300 then { y with un := y.un ++ [a] } else y := by
  show send1 y a = _
  unfold send1
  dsimp only
  rw [if_neg hk]
theorem serv_un (y : Wd) (p : Pm) (hl : y.un.length < 300) : (servW y p).un = y.un ++ [ansOf y p] := by
  unfold servW ansOf
  split
  · rw [send_one _ _ (by show (11 : Int) ≠ 2; decide), if_pos hl]
  · split
    · rw [send_one _ _ (by show (12 : Int) ≠ 2; decide), if_pos hl]
    · rw [send_one _ _ (by show (0 : Int) ≠ 2; decide), if_pos hl]
theorem serv_held (y : Wd) (p : Pm) (hk : p.k = 1) : (servW y p).held = y.held := by
  unfold servW
  rw [if_pos hk, (sendW_fix _ _).2.2.2.held]
structure QryI (x : Wd) (up : List Bool) (l : List Pm) (y : Wd) (later : List Pm) : Prop where
  m : y.m = x.m
  len : later.length + y.un.length ≤ l.length
  ans : ∀ q, q ∈ l → q.too.cl = false → q.too.id ∈ wdG x → upAt up q.too.id = true → (q.k = 1 ∨ q.k = 2) → ∃ p, p ∈ y.un ∧ p.k = q.k + 10 ∧ p.fr = q.too ∧ p.too = q.fr ∧ p.op = q.op ∧ p.rd = q.rd ∧ p.ky = q.ky
  all : (∀ q, q ∈ l → q.too.cl = false ∧ q.k = 1) → y.held = x.held ∧ later = [] ∧ ∀ p, p ∈ y.un → upAt up p.fr.id = true ∧ (p.k = 11 → p.fr.id ∈ wdG x ∧ p.st = (x.held p.fr.id).st)
theorem qry_fold (hl : x.un.length ≤ 300) : ∀ l r, x.un = l ++ r → QryI x up l (exF false up x l).1 (exF false up x l).2 ∧ Gro x (exF false up x l).1 := by
  refine snoc_ind (P := fun l => ∀ r, x.un = l ++ r → QryI x up l (exF false up x l).1 (exF false up x l).2 ∧ Gro x (exF false up x l).1) ?_ ?_
  · intro r _
    exact ⟨⟨rfl, Nat.le_refl _, (fun q hq => by cases hq), fun _ => ⟨rfl, rfl, fun p hp => by cases hp⟩⟩, Gro.like ⟨rfl, rfl, rfl, rfl, rfl, rfl⟩ rfl⟩
  · intro l q ih r hr
    have hr' : x.un = l ++ (q :: r) := by rw [hr, List.append_assoc]; rfl
    obtain ⟨⟨i1, i2, i3, i4⟩, hG⟩ := ih _ hr'
    have hlen : l.length < 300 := by
      have := congrArg List.length hr'
      rw [List.length_append, List.length_cons] at this
      omega
    rw [exF_snoc]
    generalize exF false up x l = e at i1 i2 i3 i4 hG
    obtain ⟨y, later⟩ := e
    dsimp only at i1 i2 i3 i4 hG
    unfold exS
    dsimp only
    cases hcl : q.too.cl with
    | true =>
      rw [if_pos (by decide)]
      refine ⟨⟨i1, by rw [List.length_append, List.length_append]; simp; omega, fun p hp h1 => ?_, fun ha => ?_⟩, hG⟩
      · rcases List.mem_append.1 hp with hp | hp
        · exact i3 p hp h1
        · rw [List.mem_singleton.1 hp, hcl] at h1; cases h1
      · have := (ha q (by simp)).1
        rw [hcl] at this
        cases this
    | false =>
      rw [if_neg (by decide)]
      by_cases hu : upAt up q.too.id = true
      · rw [if_pos (by rw [hu]; rfl)]
        refine ⟨?_, hG.trans (Gro.del _ _)⟩
        unfold delW
        rw [if_neg (by rw [hcl]; decide)]
        by_cases hid : q.too.id - 1 < 0 ∨ (y.n : Int) ≤ q.too.id - 1
        · rw [if_pos hid]
          have hno : ¬ q.too.id ∈ wdG x := fun e => by
            unfold wdG at e
            obtain ⟨k, hk, e⟩ := List.mem_map.1 e
            have := List.mem_range.1 hk
            rw [hG.n] at hid
            omega
          refine ⟨i1, by rw [List.length_append]; simp; omega, fun p hp h1 h2 => ?_, fun ha => i4 (fun p hp => ha p (List.mem_append_left _ hp))⟩
          rcases List.mem_append.1 hp with hp | hp
          · exact i3 p hp h1 h2
          · rw [List.mem_singleton.1 hp] at h2; exact absurd h2 hno
        · rw [if_neg hid]
          have hun := serv_un y q (by omega)
          refine ⟨(serv_m y q).trans i1, by rw [hun, List.length_append, List.length_append]; simp; omega, fun p hp h1 h2 h3 h4 => ?_, fun ha => ?_⟩
          · rcases List.mem_append.1 hp with hp | hp
            · obtain ⟨a, ha, hb⟩ := i3 p hp h1 h2 h3 h4
              exact ⟨a, by rw [hun]; exact List.mem_append_left _ ha, hb⟩
            · have hp := List.mem_singleton.1 hp
              subst hp
              refine ⟨ansOf y p, by rw [hun]; simp, ?_⟩
              unfold ansOf
              rcases h4 with h4 | h4
              · rw [if_pos h4, h4]; exact ⟨rfl, rfl, rfl, rfl, rfl, rfl⟩
              · rw [if_neg (by omega), if_pos h4, h4]; exact ⟨rfl, rfl, rfl, rfl, rfl, rfl⟩
          · obtain ⟨j1, j2, j3⟩ := i4 (fun p hp => ha p (List.mem_append_left _ hp))
            have hq1 := (ha q (by simp)).2
            refine ⟨(serv_held y q hq1).trans j1, j2, fun p hp => ?_⟩
            rw [hun] at hp
            rcases List.mem_append.1 hp with hp | hp
            · exact j3 p hp
            · rw [List.mem_singleton.1 hp]
              unfold ansOf
              rw [if_pos hq1]
              refine ⟨hu, fun _ => ⟨?_, by show (y.held q.too.id).st = _; rw [j1]⟩⟩
              show q.too.id ∈ wdG x
              unfold wdG
              rw [hG.n] at hid
              refine List.mem_map.2 ⟨(q.too.id - 1).toNat, List.mem_range.2 (by omega), by omega⟩
      · rw [if_neg (by simpa using hu)]
        refine ⟨⟨i1, by rw [List.length_append]; simp; omega, fun p hp h1 h2 h3 => ?_, fun ha => i4 (fun p hp => ha p (List.mem_append_left _ hp))⟩, hG⟩
        rcases List.mem_append.1 hp with hp | hp
        · exact i3 p hp h1 h2 h3
        · rw [List.mem_singleton.1 hp] at h3; exact absurd h3 hu
theorem send_len (l : List Pm) : ∀ y : Wd, (sendW y l).un.length ≤ y.un.length + l.length := by
  unfold sendW
  induction l with
  | nil => exact fun y => Nat.le_refl _
  | cons p l ih =>
    intro y
    have h1 := ih (send1 y p)
    have h2 : (send1 y p).un.length ≤ y.un.length + 1 := by
      unfold send1
      dsimp only
      have h3 := un_laid y p.st p.z
      split
      · split
        · show ((laidW y p.st p.z).un ++ [p]).length ≤ _; rw [h3, List.length_append]; exact Nat.le_refl _
        · rw [h3]; omega
      · split
        · show (y.un ++ [p]).length ≤ _; rw [List.length_append]; exact Nat.le_refl _
        · omega
    rw [List.foldl_cons, List.length_cons]
    omega
theorem send_all (l : List Pm) : ∀ y : Wd, y.un.length + l.length ≤ 300 → (sendW y l).un = y.un ++ l := by
  unfold sendW
  induction l with
  | nil => exact fun y _ => by rw [List.append_nil]; rfl
  | cons p l ih =>
    intro y hy
    rw [List.length_cons] at hy
    have h2 : (send1 y p).un = y.un ++ [p] := by
      unfold send1
      dsimp only
      have h3 := un_laid y p.st p.z
      split
      · rw [h3, if_pos (by omega)]
      · rw [if_pos (by omega)]
    rw [List.foldl_cons, ih _ (by rw [h2, List.length_append]; simp; omega), h2, List.append_assoc]
    rfl
theorem look_un (y : Wd) (c : Nat) : (lookW y c).un = y.un := by
  unfold lookW
  split
  · rfl
  · split <;> rfl
theorem del_len (hI : WInv y G T) (hn : y.n ≤ 7) (p : Pm) : (delW y p).un.length ≤ y.un.length + 7 := by
  unfold delW
  split
  · split
    · show y.un.length ≤ _; omega
    · unfold clieW
      split
      · omega
      · rename_i s hm
        split
        · omega
        · rw [look_un]
          have h1 := send_len (outs (takP s (mgP p) p.z)) { y with m := upN y.m (p.too.id - 1).toNat (some (takP s (mgP p) p.z).1) }
          have h2 := outs_len (takP s (mgP p) p.z)
          have h3 : (takP s (mgP p) p.z).2.ss.length ≤ 7 := by
            have hz : s.zs.length ≤ 7 := by
              rw [(hI.act _ s hm).2.2.2.2.1.gz]
              unfold wdG
              simp
              exact hn
            rcases (take_outs s (mgP p) p.z).2.2.2.2.2 with ⟨e, _⟩ | ⟨X, b, _, _, e⟩
            · rw [e]; simp
            · rw [e]; exact hz
          have h4 : ({ y with m := upN y.m (p.too.id - 1).toNat (some (takP s (mgP p) p.z).1) } : Wd).un = y.un := rfl
          rw [h4] at h1
          show (sendW _ (outs (takP s (mgP p) p.z))).un.length ≤ _
          omega
  · split
    · show y.un.length ≤ _; omega
    · unfold servW
      split
      · have := send_len [⟨11, p.too, p.fr, p.op, p.rd, p.ky, (y.held p.too.id).st, (y.held p.too.id).z⟩] y
        simp only [List.length_singleton] at this
        omega
      · split
        · have := send_len [⟨12, p.too, p.fr, p.op, p.rd, p.ky, spZ, []⟩] { y with held := upI y.held p.too.id (newW (y.held p.too.id) p.st p.z) }
          simp only [List.length_singleton] at this
          have h4 : ({ y with held := upI y.held p.too.id (newW (y.held p.too.id) p.st p.z) } : Wd).un = y.un := rfl
          rw [h4] at this
          omega
        · have := send_len [⟨0, p.too, p.fr, p.op, p.rd, p.ky, spZ, []⟩] { y with br := true }
          simp only [List.length_singleton] at this
          have h4 : ({ y with br := true } : Wd).un = y.un := rfl
          rw [h4] at this
          omega
theorem exF_len (k : Bool) (h : WInv x G T) (hn : x.n ≤ 7) : ∀ l, (∀ p, p ∈ l → UnOk x G T p) → (exF k up x l).2.length + (exF k up x l).1.un.length ≤ 7 * l.length := by
  refine snoc_ind (P := fun l => (∀ p, p ∈ l → UnOk x G T p) → (exF k up x l).2.length + (exF k up x l).1.un.length ≤ 7 * l.length) ?_ ?_
  · intro _
    exact Nat.le_refl _
  · intro l p ih hp
    have h1 := ih (fun q hq => hp q (List.mem_append_left _ hq))
    obtain ⟨T', k1, _, k3, _⟩ := exF_inv k up h l (fun q hq => hp q (List.mem_append_left _ hq))
    have h2 := del_len k1 (by rw [k3.n]; exact hn) p
    rw [exF_snoc, List.length_append]
    unfold exS
    split
    · rw [List.length_append]
      simp only [List.length_singleton]
      omega
    · split
      · simp only [List.length_singleton]
        omega
      · simp only [List.length_singleton]
        omega
end
end Go.Proofs.Ytgiokkcdgoloaaa.Md
