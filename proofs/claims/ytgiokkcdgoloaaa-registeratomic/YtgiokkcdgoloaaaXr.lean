import Derived.Test.YtgiokkcdgoloaaaXo
namespace Go.Proofs.Ytgiokkcdgoloaaa.Md
open Go.RowKit
set_option linter.unusedVariables false
set_option linter.unusedSimpArgs false

/-! Bounds behind so many events. -/
structure QB (N Lb Db R : Nat) (x : Wd) : Prop where
  now : 0 ≤ x.now ∧ x.now ≤ N
  ls : x.ls.length ≤ Lb
  ds : x.ds.length ≤ Db
  n : x.n ≤ 7
  rd : ∀ c, 0 ≤ x.rd c ∧ x.rd c ≤ R
  mr : ∀ c s, x.m c = some s → 0 ≤ s.rd ∧ s.rd ≤ R ∧ s.zs.length ≤ x.n
  un : x.un.length ≤ 301
  n12 : ∀ p, p ∈ x.un → p.k = 12 → p.st = spZ
section
variable {N Lb Db R N' Lb' Db' R' : Nat} {x : Wd}
theorem QB.mono (h : QB N Lb Db R x) (h1 : N ≤ N') (h2 : Lb ≤ Lb') (h3 : Db ≤ Db') (h4 : R ≤ R') : QB N' Lb' Db' R' x :=
  ⟨⟨h.now.1, by have := h.now.2; omega⟩, by have := h.ls; omega, by have := h.ds; omega, h.n, fun c => ⟨(h.rd c).1, by have := (h.rd c).2; omega⟩, fun c s e => ⟨(h.mr c s e).1, by have := (h.mr c s e).2.1; omega, (h.mr c s e).2.2⟩, h.un, h.n12⟩
theorem laidW_un (x : Wd) (t : Sp) (z : List Int) : (laidW x t z).un = x.un := by
  unfold laidW
  split <;> rfl
theorem QB.send1 (h : QB N Lb Db R x) {p : Pm} (hp : p.k = 12 → p.st = spZ) : QB N (Lb + 1) Db R (send1 x p) := by
  obtain ⟨q1, q2, q3, q4, q5, q6, q7⟩ := send1_same x p
  have hl := send1_ls x p
  have hu : (Md.send1 x p).un.length ≤ 301 ∧ ∀ q, q ∈ (Md.send1 x p).un → q ∈ x.un ∨ q = p := by
    have hlu := laidW_un x p.st p.z
    have h0 := h.un
    by_cases hk : p.k = 2
    · rw [send1_put hk]
      split
      · refine ⟨?_, fun q hq => ?_⟩
        · show ((laidW x p.st p.z).un ++ [p]).length ≤ 301
          rw [List.length_append]
          simp only [List.length_cons, List.length_nil]
          omega
        · replace hq : q ∈ (laidW x p.st p.z).un ++ [p] := hq
          rw [hlu] at hq
          simpa using hq
      · rw [hlu]; exact ⟨h0, fun q hq => .inl hq⟩
    · rw [send1_no hk]
      split
      · refine ⟨?_, fun q hq => ?_⟩
        · show (x.un ++ [p]).length ≤ 301
          rw [List.length_append]
          simp only [List.length_cons, List.length_nil]
          omega
        · replace hq : q ∈ x.un ++ [p] := hq
          simpa using hq
      · exact ⟨h0, fun q hq => .inl hq⟩
  refine ⟨by rw [q4]; exact h.now, by have := h.ls; omega, by rw [q3]; exact h.ds, by rw [q7]; exact h.n, fun c => by rw [q6]; exact h.rd c, fun c s e => ?_, hu.1, fun q hq => ?_⟩
  · rw [q1] at e
    rw [q7]
    exact h.mr c s e
  · rcases hu.2 q hq with e | rfl
    · exact h.n12 q e
    · exact hp
theorem QB.send (ps : List Pm) : ∀ {Lb : Nat} {x : Wd}, QB N Lb Db R x → (∀ p, p ∈ ps → p.k = 12 → p.st = spZ) → QB N (Lb + ps.length) Db R (sendW x ps) := by
  induction ps with
  | nil => exact fun h _ => h
  | cons p ps ih =>
    intro Lb x h hp
    have h1 := ih (h.send1 (hp p (List.mem_cons_self ..))) (fun q hq => hp q (List.mem_cons_of_mem _ hq))
    rw [List.length_cons, show Lb + (ps.length + 1) = Lb + 1 + ps.length by omega]
    exact h1
theorem QB.setM (h : QB N Lb Db R x) (c : Nat) {s : RM} (h1 : 0 ≤ s.rd) (h2 : s.rd ≤ R) (h3 : s.zs.length ≤ x.n) : QB N Lb Db R { x with m := upN x.m c (some s) } :=
  ⟨h.now, h.ls, h.ds, h.n, h.rd, fun k t e => by
    replace e : upN x.m c (some s) k = some t := e
    unfold upN at e
    split at e
    · cases e; exact ⟨h1, h2, h3⟩
    · exact h.mr k t e, h.un, h.n12⟩
theorem QB.look (h : QB N Lb Db R x) (c : Nat) : QB (N + 1) Lb Db R (lookW x c) := by
  have h0 := h.mono (N' := N + 1) (Nat.le_succ _) (Nat.le_refl _) (Nat.le_refl _) (Nat.le_refl _)
  cases hm : x.m c with
  | none => rw [lookW_none hm]; exact h0
  | some s =>
    have hs := h.mr c s hm
    have hrd : ∀ k, 0 ≤ upN x.rd c s.rd k ∧ upN x.rd c s.rd k ≤ R := fun k => by
      unfold upN
      split
      · exact ⟨hs.1, hs.2.1⟩
      · exact h.rd k
    cases hd : (donP s).2.2.2 with
    | false => rw [lookW_no hm hd]; exact ⟨h0.now, h.ls, h.ds, h.n, hrd, h.mr, h.un, h.n12⟩
    | true =>
      rw [lookW_fin hm hd]
      refine ⟨?_, h.ls, by show (x.ds.modify _ _).length ≤ Db; rw [List.length_modify]; exact h.ds, h.n, hrd, fun k t e => ?_, h.un, h.n12⟩
      · have := h.now
        show 0 ≤ x.now + 1 ∧ x.now + 1 ≤ ((N + 1 : Nat) : Int)
        omega
      · replace e : upN x.m c none k = some t := e
        unfold upN at e
        split at e
        · cases e
        · exact h.mr k t e
theorem outs_k (o : RM × To) (h : o.2.k = 0 ∨ o.2.k = 1 ∨ o.2.k = 2) : ∀ p, p ∈ outs o → p.k = 12 → p.st = spZ := by
  intro p hp hk
  unfold outs at hp
  obtain ⟨q, _, rfl⟩ := List.mem_map.1 hp
  dsimp only at hk
  omega
theorem outs_len (o : RM × To) : (outs o).length = o.2.ss.length := by unfold outs; rw [List.length_map]
theorem beg_k (s : RM) : ((begP s).2.k = 0 ∨ (begP s).2.k = 1 ∨ (begP s).2.k = 2) ∧ (begP s).1.rd = s.rd ∧ (begP s).1.zs = s.zs := by
  unfold begP
  split
  · split
    · exact ⟨.inr (.inl rfl), rfl, rfl⟩
    · exact ⟨.inl rfl, rfl, rfl⟩
  · exact ⟨.inl rfl, rfl, rfl⟩
theorem tik_k (s : RM) : (tikP s).k = 0 ∨ (tikP s).k = 1 ∨ (tikP s).k = 2 := by
  unfold tikP
  split
  · exact .inr (.inl rfl)
  · exact .inr (.inr rfl)
  · exact .inl rfl
theorem lay_k (s : RM) (b : Bp) : ((layP s b).2.k = 0 ∨ (layP s b).2.k = 1 ∨ (layP s b).2.k = 2) ∧ (s.rd ≤ (layP s b).1.rd ∧ (layP s b).1.rd ≤ s.rd + 1) ∧ (layP s b).1.zs = s.zs := by
  unfold layP
  split
  · exact ⟨.inl rfl, ⟨Int.le_refl _, by show s.rd ≤ s.rd + 1; omega⟩, rfl⟩
  · exact ⟨.inr (.inr rfl), ⟨by show s.rd ≤ s.rd + 1; omega, Int.le_refl _⟩, rfl⟩
theorem set_k (s : RM) (l : List Bp) : ((setP s l).2.k = 0 ∨ (setP s l).2.k = 1 ∨ (setP s l).2.k = 2) ∧ (s.rd ≤ (setP s l).1.rd ∧ (setP s l).1.rd ≤ s.rd + 1) ∧ (setP s l).1.zs = s.zs := by
  unfold setP
  split
  · split
    · exact ⟨.inl rfl, ⟨Int.le_refl _, by show s.rd ≤ s.rd + 1; omega⟩, rfl⟩
    · exact lay_k _ _
  · split
    · exact lay_k _ _
    · exact ⟨.inl rfl, ⟨Int.le_refl _, by show s.rd ≤ s.rd + 1; omega⟩, rfl⟩
theorem tak_k (s : RM) (d : Mg) (z : List Int) : ((takP s d z).2.k = 0 ∨ (takP s d z).2.k = 1 ∨ (takP s d z).2.k = 2) ∧ (s.rd ≤ (takP s d z).1.rd ∧ (takP s d z).1.rd ≤ s.rd + 1) ∧ (takP s d z).1.zs = s.zs := by
  have same : ∀ t : RM, t.rd = s.rd → t.zs = s.zs → (((t, toZ) : RM × To).2.k = 0 ∨ ((t, toZ) : RM × To).2.k = 1 ∨ ((t, toZ) : RM × To).2.k = 2) ∧ (s.rd ≤ ((t, toZ) : RM × To).1.rd ∧ ((t, toZ) : RM × To).1.rd ≤ s.rd + 1) ∧ ((t, toZ) : RM × To).1.zs = s.zs := fun t e1 e2 => ⟨.inl rfl, ⟨by show s.rd ≤ t.rd; omega, by show t.rd ≤ s.rd + 1; omega⟩, e2⟩
  unfold takP
  split
  · split
    · split
      · exact set_k _ _
      · exact same _ rfl rfl
    · exact same _ rfl rfl
  · split
    · split <;> exact same _ rfl rfl
    · exact same _ rfl rfl
  · exact same _ rfl rfl
theorem QB.beg (h : QB N Lb Db R x) (c : Nat) (wr : Bool) (z : List Int) : QB (N + 2) (Lb + 7) (Db + 1) (R + 1) (begW x c wr z) := by
  have h0 := h.mono (N' := N + 2) (Lb' := Lb + 7) (Db' := Db + 1) (R' := R + 1) (by omega) (by omega) (by omega) (by omega)
  cases hm : x.m c with
  | some s => rw [begW_busy hm]; exact h0
  | none =>
    cases hg : x.gone c with
    | true => rw [begW_gone hg]; exact h0
    | false =>
      rw [begW_some hm hg]
      obtain ⟨k1, k2, k3⟩ := beg_k (machW x c wr z)
      have hl := ss_beg (machW x c wr z)
      have hz : (machW x c wr z).zs.length = x.n := by show (wdG x).length = x.n; simp [wdG]
      have hn := h.n
      have hr := h.rd c
      have h1 : QB (N + 1) Lb (Db + 1) (R + 1) { x with m := upN x.m c (some (begP (machW x c wr z)).1), now := x.now + 1, at' := upN x.at' c x.ds.length, ds := x.ds ++ [⟨wr, (c : Int) + 1, x.now + 1, 0, z, 0, spZ, []⟩] } := by
        refine ⟨?_, h.ls, ?_, h.n, fun k => ⟨(h.rd k).1, by have := (h.rd k).2; dsimp only; omega⟩, fun k t e => ?_, h.un, h.n12⟩
        · have := h.now
          show 0 ≤ x.now + 1 ∧ x.now + 1 ≤ ((N + 1 : Nat) : Int)
          omega
        · show (x.ds ++ [_]).length ≤ Db + 1
          have := h.ds
          rw [List.length_append]
          simp only [List.length_cons, List.length_nil]
          omega
        · replace e : upN x.m c (some (begP (machW x c wr z)).1) k = some t := e
          unfold upN at e
          split at e
          · cases e
            rw [k2, k3]
            have e2 : (machW x c wr z).rd = x.rd c + 1 := rfl
            rw [e2]
            exact ⟨by omega, by push_cast; omega, by rw [hz]; exact Nat.le_refl _⟩
          · have := h.mr k t e
            exact ⟨this.1, by have := this.2.1; push_cast; omega, this.2.2⟩
      have h2 := (h1.send (outs (begP (machW x c wr z))) (outs_k _ k1)).look c
      rw [outs_len] at h2
      exact h2.mono (by omega) (by omega) (by omega) (by omega)
theorem QB.clie (h : QB N Lb Db R x) (p : Pm) (c : Nat) : QB (N + 2) (Lb + 7) (Db + 1) (R + 1) (clieW x p c) := by
  have h0 := h.mono (N' := N + 2) (Lb' := Lb + 7) (Db' := Db + 1) (R' := R + 1) (by omega) (by omega) (by omega) (by omega)
  cases hm : x.m c with
  | none => rw [clieW_none hm]; exact h0
  | some s =>
    cases hg : x.gone c with
    | true => rw [clieW_gone hg]; exact h0
    | false =>
      rw [clieW_some hm hg]
      obtain ⟨k1, k2, k3⟩ := tak_k s (mgP p) p.z
      have hs := h.mr c s hm
      have hl := ss_tak s (mgP p) p.z
      have hn := h.n
      have h1 := (h0.mono (N' := N + 2) (Lb' := Lb + 7) (Db' := Db + 1) (R' := R + 1) (Nat.le_refl _) (Nat.le_refl _) (Nat.le_refl _) (Nat.le_refl _))
      have h2 : QB N Lb Db (R + 1) { x with m := upN x.m c (some (takP s (mgP p) p.z).1) } := (h.mono (N' := N) (Lb' := Lb) (Db' := Db) (R' := R + 1) (Nat.le_refl _) (Nat.le_refl _) (Nat.le_refl _) (by omega)).setM c (by have := hs.1; omega) (by have := hs.2.1; push_cast; omega) (by rw [k3]; exact hs.2.2)
      have h3 := (h2.send (outs (takP s (mgP p) p.z)) (outs_k _ k1)).look c
      rw [outs_len] at h3
      exact h3.mono (by omega) (by omega) (by omega) (by omega)
theorem QB.serv (h : QB N Lb Db R x) (p : Pm) : QB (N + 2) (Lb + 7) (Db + 1) (R + 1) (servW x p) := by
  unfold servW
  split
  · exact (h.send _ (fun q hq hk => by
      simp only [List.mem_singleton] at hq
      subst hq
      exact absurd hk (by show ¬ (11 : Int) = 12; decide))).mono (by omega) (by simp only [List.length_cons, List.length_nil]; omega) (by omega) (by omega)
  · split
    · exact (QB.send _ (⟨h.now, h.ls, h.ds, h.n, h.rd, h.mr, h.un, h.n12⟩ : QB N Lb Db R { x with held := upI x.held p.too.id (newW (x.held p.too.id) p.st p.z) }) (fun q hq hk => by
        simp only [List.mem_singleton] at hq
        subst hq
        rfl)).mono (by omega) (by simp only [List.length_cons, List.length_nil]; omega) (by omega) (by omega)
    · exact (QB.send _ (⟨h.now, h.ls, h.ds, h.n, h.rd, h.mr, h.un, h.n12⟩ : QB N Lb Db R { x with br := true }) (fun q hq hk => by
        simp only [List.mem_singleton] at hq
        subst hq
        rfl)).mono (by omega) (by simp only [List.length_cons, List.length_nil]; omega) (by omega) (by omega)
theorem QB.del (h : QB N Lb Db R x) (p : Pm) : QB (N + 2) (Lb + 7) (Db + 1) (R + 1) (delW x p) := by
  have hb : QB (N + 2) (Lb + 7) (Db + 1) (R + 1) { x with br := true } := (⟨h.now, h.ls, h.ds, h.n, h.rd, h.mr, h.un, h.n12⟩ : QB N Lb Db R { x with br := true }).mono (by omega) (by omega) (by omega) (by omega)
  unfold delW
  split
  · split
    · exact hb
    · exact h.clie p _
  · split
    · exact hb
    · exact h.serv p
theorem QB.tick (h : QB N Lb Db R x) (c : Nat) {w : World} (hz : ∀ s, x.m c = some s → (tikP s).ss.length ≤ s.zs.length) : QB (N + 2) (Lb + 7) (Db + 1) (R + 1) (tickW x c) := by
  have h0 := h.mono (N' := N + 2) (Lb' := Lb + 7) (Db' := Db + 1) (R' := R + 1) (by omega) (by omega) (by omega) (by omega)
  cases hm : x.m c with
  | none => rw [tickW_no hm]; exact h0
  | some s =>
    cases hg : x.gone c with
    | true => rw [tickW_gone hg]; exact h0
    | false =>
      rw [tickW_some hm hg]
      have h1 := h.send (outs (s, tikP s)) (outs_k _ (tik_k s))
      rw [outs_len] at h1
      have h2 := hz s hm
      have h3 := (h.mr c s hm).2.2
      have h4 := h.n
      exact h1.mono (by omega) (by dsimp only; omega) (by omega) (by omega)
end
end Go.Proofs.Ytgiokkcdgoloaaa.Md
namespace Go.Proofs.Ytgiokkcdgoloaaa.Md
open Go.RowKit
set_option linter.unusedVariables false
set_option linter.unusedSimpArgs false

section
variable {N Lb Db R : Nat} {x : Wd} {G : Nat → Int → Sp} {T : Nat → Option Sp}
theorem WInv.tikL (hw : WInv x G T) {c : Nat} {s : RM} (hs : x.m c = some s) : (tikP s).ss.length ≤ s.zs.length := by
  obtain ⟨_, _, _, _, hM, _⟩ := hw.act c s hs
  have hp := hM.ph
  have hz := hM.gz
  unfold tikP
  split
  · rename_i X e
    rw [e] at hp
    have := missL_len X
    rw [hp.1, ← hz] at this
    exact this
  · rename_i b U e
    rw [e] at hp
    have := missL_len U
    rw [hp.1, ← hz] at this
    exact this
  · simp [toZ]
theorem QB.cut (h : QB N Lb Db R x) (i : Nat) : QB N Lb Db R { x with un := x.un.take i ++ x.un.drop (i + 1) } :=
  ⟨h.now, h.ls, h.ds, h.n, h.rd, h.mr, by
    have := h.un
    show (x.un.take i ++ x.un.drop (i + 1)).length ≤ 301
    rw [List.length_append, List.length_take, List.length_drop]
    omega, fun q hq => h.n12 q (by
    replace hq : q ∈ x.un.take i ++ x.un.drop (i + 1) := hq
    rcases List.mem_append.1 hq with e | e
    · exact List.mem_of_mem_take e
    · exact List.mem_of_mem_drop e)⟩
/-- One event more. -/
theorem QB.ev (h : QB N Lb Db R x) (hw : WInv x G T) (k a : Int) (z : List Int) : QB (N + 2) (Lb + 7) (Db + 1) (R + 1) (evW x k a z) := by
  have h0 := h.mono (N' := N + 2) (Lb' := Lb + 7) (Db' := Db + 1) (R' := R + 1) (by omega) (by omega) (by omega) (by omega)
  by_cases h1 : k = 1
  · subst h1; rw [evW_1]; exact h.beg _ _ _
  by_cases h2 : k = 2
  · subst h2; rw [evW_2]; exact h.beg _ _ _
  by_cases h6 : k = 6
  · subst h6; rw [evW_6]
    exact h.tick (w := default) _ (fun s hs => hw.tikL hs)
  by_cases h7 : k = 7
  · subst h7; rw [evW_7]
    exact ⟨h0.now, h0.ls, h0.ds, h0.n, h0.rd, h0.mr, h0.un, h0.n12⟩
  by_cases ho : k < 3 ∨ 5 < k
  · rw [evW_o x k a z ho h1 h2 h6 h7]; exact h0
  by_cases he : x.un.length = 0
  · rw [evW_e x k a z he h1 h2 h6 h7]; exact h0
  have hi := (rnd_mod a x.un.length (by omega)).2
  obtain ⟨p, hp⟩ : ∃ p, x.un[rndW a x.un.length]? = some p := ⟨_, List.getElem?_eq_getElem hi⟩
  rw [evW_t hp (by omega) (by omega)]
  have hc := h.cut (rndW a x.un.length)
  split
  · exact hc.del p
  · split
    · split
      · rename_i hlt
        suffices key : QB N Lb Db R { x with un := (x.un.take (rndW a x.un.length) ++ x.un.drop (rndW a x.un.length + 1)) ++ [p, p] } from key.mono (by omega) (by omega) (by omega) (by omega)
        refine ⟨hc.now, hc.ls, hc.ds, hc.n, hc.rd, hc.mr, ?_, fun q hq => ?_⟩
        · show ((x.un.take (rndW a x.un.length) ++ x.un.drop (rndW a x.un.length + 1)) ++ [p, p]).length ≤ 301
          rw [List.length_append]
          simp only [List.length_cons, List.length_nil]
          omega
        · replace hq : q ∈ (x.un.take (rndW a x.un.length) ++ x.un.drop (rndW a x.un.length + 1)) ++ [p, p] := hq
          rcases List.mem_append.1 hq with e | e
          · exact hc.n12 q e
          · have : q = p := by simpa using e
            rw [this]
            exact h.n12 p (List.mem_of_getElem? hp)
      · exact hc.mono (by omega) (by omega) (by omega) (by omega)
    · exact hc.mono (by omega) (by omega) (by omega) (by omega)
theorem mem_wdG {i : Int} (h : i ∈ wdG x) : ∃ c : Nat, c < x.n ∧ i = (c : Int) + 1 := by
  unfold wdG at h
  obtain ⟨c, hc, rfl⟩ := List.mem_map.1 h
  exact ⟨c, List.mem_range.1 hc, rfl⟩
/-- What an event asks. -/
theorem QB.evB (h : QB N Lb Db R x) (hw : WInv x G T) (h1 : N ≤ 900000000) (h2 : Lb ≤ 900000) (h3 : Db ≤ 900000) (h4 : R ≤ 9000000000000000) : EvB x := by
  refine ⟨⟨h.now.1, by have := h.now.2; omega⟩, by have := h.ls; omega, by have := h.ds; omega, by have := h.n; omega, fun c => ⟨by have := (h.rd c).1; omega, by have := (h.rd c).2; omega⟩, fun c s hs => ?_, by have := h.un; omega, fun p hp => ?_⟩
  · obtain ⟨_, _, _, _, _, ⟨d, hd, _⟩, _⟩ := hw.act c s hs
    exact (List.getElem?_eq_some_iff.1 hd).1
  · obtain ⟨j, d, hj, _, _, hu⟩ := hw.msg p hp
    rcases hu with ⟨e1, e2, _, e3⟩ | ⟨e1, _, e2, e3⟩
    · exact .inr ⟨e1, mem_wdG e2, e3.imp id (fun q => q.1)⟩
    · have hcl := hw.cls j d hj
      refine .inl ⟨by rw [e1], ⟨(d.cl - 1).toNat, by omega, by rw [e1]; dsimp only; omega⟩, ?_⟩
      rcases e3 with ⟨_, q1, _⟩ | ⟨q1, _⟩
      · have q2 := hw.low j p.fr.id
        unfold sle spZ at q2
        unfold sle at q1
        dsimp only at q2
        omega
      · rw [h.n12 p hp q1]
        show (-9223372036854775808 : Int) ≤ 0
        decide
theorem QB.sown (n : Nat) (hn : n ≤ 7) : QB 0 0 0 0 (sownW n) :=
  ⟨⟨Int.le_refl _, Int.le_refl _⟩, Nat.le_refl _, Nat.le_refl _, hn, fun c => ⟨Int.le_refl _, Int.le_refl _⟩, fun c s e => (by cases e), Nat.zero_le _, fun p hp => (by cases hp)⟩
end
/-- Behind a script. -/
def plW (n : Nat) (es : List (Int × Int × List Int)) : Wd := es.foldl (fun w e => evW w e.1 e.2.1 e.2.2) (sownW n)
theorem plW_snoc (n : Nat) (es : List (Int × Int × List Int)) (e : Int × Int × List Int) : plW n (es ++ [e]) = evW (plW n es) e.1 e.2.1 e.2.2 := by unfold plW; rw [List.foldl_append]; rfl
theorem plW_n (n : Nat) (hn : n ≤ 7) : ∀ (k : Nat) (es : List (Int × Int × List Int)), es.length = k → (∃ G T, WInv (plW n es) G T) ∧ QB (2 * k) (7 * k) k k (plW n es) := by
  intro k
  induction k with
  | zero =>
    intro es he
    rw [List.eq_nil_of_length_eq_zero he]
    exact ⟨⟨_, _, sown_inv n⟩, QB.sown n hn⟩
  | succ k ih =>
    intro es he
    have hne : es ≠ [] := fun e => by rw [e] at he; cases he
    have hd := List.dropLast_concat_getLast hne
    have hl : es.dropLast.length = k := by rw [List.length_dropLast]; omega
    obtain ⟨⟨G, T, hw⟩, hq⟩ := ih es.dropLast hl
    rw [← hd, plW_snoc]
    refine ⟨hw.ev _ _ _, ?_⟩
    have := hq.ev hw (es.getLast hne).1 (es.getLast hne).2.1 (es.getLast hne).2.2
    exact this.mono (by omega) (by omega) (by omega) (by omega)
theorem plW_ev (n : Nat) (hn : n ≤ 7) (es : List (Int × Int × List Int)) (hl : es.length ≤ 600) : EvB (plW n es) := by
  obtain ⟨⟨G, T, hw⟩, hq⟩ := plW_n n hn es.length es rfl
  exact hq.evB hw (by omega) (by omega) (by omega) (by omega)
end Go.Proofs.Ytgiokkcdgoloaaa.Md
namespace Go.Proofs.Ytgiokkcdgoloaaa.Md
open Go.RowKit
set_option linter.unusedVariables false
set_option linter.unusedSimpArgs false

theorem E64 : Try.prog.underlying 64 = some (.slice (Try.prog.elem 64)) := by kernel_rfl
theorem F64 : (Try.prog.info? (Try.prog.elem 64)).map (·.size) = some 3 := by kernel_rfl
/-- A script in memory: its events, each with its bytes. -/
structure Scr (w : World) (n0 : Nat) (t : Sl) (ss : List (Ev × List Int)) : Prop where
  row : RowsAt 3 w t.a (ss.map (fun q => Ev.cs q.1))
  len : ss.length = t.l
  by' : ∀ q, q ∈ ss → By w n0 q.1.d q.2
  old : ss ≠ [] → ∀ k, At t.a k → k < n0
theorem Scr.kept {w w' : World} {n0 : Nat} {t : Sl} {ss : List (Ev × List Int)} {S : Nat → Prop} (h : Scr w n0 t ss) (hk : Kept S w w') (hS : ∀ k, S k → n0 ≤ k ∧ ¬ ∃ cs, Box w k 5 cs) : Scr w' n0 t ss :=
  ⟨by
    by_cases hz : ss = []
    · subst hz
      intro i it hi
      simp at hi
    · exact h.row.kept hk (fun k e f => by have := h.old hz k e; have := (hS k f).1; omega), h.len, fun q hq => (h.by' q hq).kept hk hS, h.old⟩
def tri (ss : List (Ev × List Int)) : List (Int × Int × List Int) := ss.map (fun q => (q.1.k, q.1.a, q.2))
/-- A new world. -/
def SownO (w : World) (n : Nat) (e : Ending) (w' : World) : Prop := ∃ b J, e = .returned (.pointer (some ⟨b, 0, none⟩)) ∧ WAt w' w.heap.size J b (sownW n) ∧ Kept No w w'
def PlO (w : World) (x : Wd) (e : Ending) (w' : World) : Prop := ∃ b J, e = .returned (.pointer (some ⟨b, 0, none⟩)) ∧ WAt w' w.heap.size J b x ∧ Kept No w w'
theorem WAt.n0J {W : World} {n0 : Nat} {J : Nat → Prop} {b : Nat} {x : Wd} (h : WAt W n0 J b x) : ∀ k, J k → n0 ≤ k := by
  obtain ⟨v, mp, I, H, U, D, L, hA⟩ := h
  exact hA.n0J
/-- What a loop over a script holds. -/
structure Plg (w W : World) (b : Nat) (x : Wd) (t : Sl) (ss : List (Ev × List Int)) : Prop where
  wa : ∃ J, WAt W w.heap.size J b x
  kp : Kept No w W
  sc : Scr W w.heap.size t ss
theorem Plg.no {w W W2 : World} {b : Nat} {x : Wd} {t : Sl} {ss : List (Ev × List Int)} (h : Plg w W b x t ss) (hk : Kept No W W2) : Plg w W2 b x t ss := by
  obtain ⟨⟨J, v, mp, I, H, U, D, L, hA⟩, h2, h3⟩ := h
  exact ⟨⟨J, v, mp, I, H, U, D, L, hA.no hk⟩, h2.then hk, h3.kept hk (fun _ e => e.elim)⟩
theorem Plg.step {w W W2 : World} {b : Nat} {x x2 : Wd} {t : Sl} {ss : List (Ev × List Int)} {e : Ending} (h : Plg w W b x t ss) {J : Nat → Prop} (hJ : ∀ k, J k → w.heap.size ≤ k) (ho : WOut W w.heap.size J b x2 e W2) : Plg w W2 b x2 t ss := by
  obtain ⟨_, J2, h1, h2⟩ := ho
  exact ⟨⟨J2, h1⟩, h.kp.trans h2.kept (fun _ e => e) (fun k hk e => by have := hJ k e.1; omega), h.sc.kept h2.kept (fun k e => ⟨hJ k e.1, e.2⟩)⟩
theorem Scr.at {W : World} {n0 : Nat} {t : Sl} {ss : List (Ev × List Int)} (h : Scr W n0 t ss) {i : Nat} {q : Ev × List Int} (hq : ss[i]? = some q) : ∃ g off, t.a = some ⟨g, off, none⟩ ∧ ∀ (j : Nat) v, q.1.cs[j]? = some v → W.cell? ⟨g, off + i * 3 + j, none⟩ = some v :=
  h.row i q.1.cs (by rw [List.getElem?_map, hq]; rfl)
set_option maxRecDepth 100000 in
set_option maxHeartbeats 4000000 in
theorem played_any (f : Int) (n : Nat) (t : Sl) (ss : List (Ev × List Int)) (w : World) (hs : Calls Try.prog 41 #[.int .i64 f] w (SownO w n)) (hn : n ≤ 7) (hS : Scr w w.heap.size t ss) (ht : t.l ≤ 9000000000000000000) : Calls Try.prog 18 #[.int .i64 f, t.v] w (PlO w (plW n (tri (ss.take 600)))) := by
  obtain ⟨C, hC⟩ : ∃ C : Ending → World → Prop, C = (PlO w (plW n (tri (ss.take 600)))) := ⟨_, rfl⟩
  have HC : Hid (C = (PlO w (plW n (tri (ss.take 600))))) := hC
  rw [← hC]
  clear hC
  have hle := hS.len
  have HS : Hid (Scr w w.heap.size t ss) := hS
  have HC41 : Hid (Calls Try.prog 41 #[.int .i64 f] w (SownO w n)) := hs
  clear hS hs
  go_enter Try.func18, Try.ntmps18
  go_upto_region 0 with fail
  refine WL.start <| uK (.pointer none) <| WL.nil <| ?_
  try simp only [pS]
  go_upto_region 1 with fail
  refine WL.start <| uK (.int .i64 f) <| ?_
  try simp only [pS]
  refine uC 41 #[.int .i64 f] (HC41.out) ?_
  rintro e wk1 ⟨b, J, rfl, hW, hk⟩
  have HF : Hid (Plg w wk1 b (plW n (tri (ss.take 0))) t ss) := ⟨⟨J, hW⟩, hk, HS.out.kept hk (fun _ e => e.elim)⟩
  clear hW hk
  refine ⟨.pointer (some ⟨b, 0, none⟩), rfl, ?_⟩
  try simp only [pS]
  refine uK (.pointer (some ⟨b, 0, none⟩)) <| WL.nil <| ?_
  try simp only [pS]
  go_upto_region 2 with fail
  refine WL.start <| uK (.int .i64 0) <| WL.nil <| ?_
  try simp only [pS]
  go_wp2
  go_loopw [6] (fun v6 wr => ∃ i : Nat, v6 = .int .i64 ((i : Nat) : Int) ∧ i ≤ t.l ∧ i ≤ 600 ∧ Hid (Plg w wr b (plW n (tri (ss.take i))) t ss)) (fun i _ => t.l - (intOf i).toNat)
  case atStart => exact ⟨0, by go_num, by omega, by omega, HF⟩
  case round =>
    clear HF
    obtain ⟨i, rfl, hi, hi6, HF⟩ := hrel
    by_cases hlt : i < t.l
    · skip
      by_cases hl6 : i < 600
      · skip
        obtain ⟨q, hqi⟩ : ∃ q, ss[i]? = some q := ⟨_, List.getElem?_eq_getElem (by omega)⟩
        obtain ⟨g, off, hga, hgc⟩ := HF.out.sc.at hqi
        obtain ⟨J, hWJ⟩ := HF.out.wa
        go_upto_region 3 with fail
        refine WL.start <| uK (.int .i64 ((i : Nat) : Int)) <| uK (t.v) <| uK (.int .i64 ((t.l : Nat) : Int)) <| uB .lss 3 (.int .i64 ((i : Nat) : Int)) (.int .i64 ((t.l : Nat) : Int)) (.bool true) (by rw [b_lss, decide_eq_true (by omega)]) <| uK (.bool true) <| uK (.int .i64 ((i : Nat) : Int)) <| uB .lss 3 (.int .i64 ((i : Nat) : Int)) (.int .i64 600) (.bool true) (by rw [b_lss, decide_eq_true (by omega)]) <| ?_
        try simp only [pS]
        refine uK (.bool true) <| WL.nil <| ?_
        try simp only [pS]
        go_upto_region 5 with fail
        refine WL.start <| uK (.pointer (some ⟨b, 0, none⟩)) <| uK (t.v) <| uK (.int .i64 ((i : Nat) : Int)) <| uW (.pointer (some ⟨g, off + i * 3, none⟩)) (exec_ixA 64 3 E64 F64 _ _ rfl g off t.l t.k i (Eq.trans (b := t.v) (by kernel_rfl) (sl_v hga)) (by kernel_rfl) (by omega)) <| uL 107 ⟨g, off + i * 3, none⟩ (.agg (Ev.cells q.1)) (load_at (n := 3) hgc U107 rfl S107) <| ?_
        try simp only [pS]
        refine uC 42 #[.pointer (some ⟨b, 0, none⟩), .agg (Ev.cells q.1)] (event_any w.heap.size J b _ q.1.k q.1.a q.1.d q.2 _ hWJ (HF.out.sc.by' q (List.mem_of_getElem? hqi)) (plW_ev n hn _ (by unfold tri; rw [List.length_map, List.length_take]; omega))) ?_
        intro e wk2 ho
        have HG : Hid (Plg w wk2 b (evW (plW n (tri (ss.take i))) q.1.k q.1.a q.2) t ss) := HF.out.step hWJ.n0J ho
        obtain ⟨rfl, _⟩ := ho
        refine ⟨.tuple #[], rfl, ?_⟩
        try simp only [pS]
        refine WL.nil ?_
        try simp only [pS]
        go_upto_region 4 with fail
        refine WL.start <| uK (.int .i64 ((i : Nat) : Int)) <| uB .add 3 (.int .i64 ((i : Nat) : Int)) (.int .i64 1) (.int .i64 (((i + 1) : Nat) : Int)) (b_addw _ _ _ (by rw [IntKind.wrap_i64]; omega) _) <| uK (.int .i64 (((i + 1) : Nat) : Int)) <| WL.nil <| ?_
        try simp only [pS]
        go_wp2
        go_roundw
        case rel =>
          have e : plW n (tri (ss.take (i + 1))) = evW (plW n (tri (ss.take i))) q.1.k q.1.a q.2 := by
            rw [List.take_add_one, hqi]
            unfold tri
            rw [List.map_append]
            exact plW_snoc _ _ _
          exact ⟨i + 1, by go_num, by omega, by omega, by rw [e]; exact HG⟩
        case measure => simp [intOf]; omega
      · skip
        go_upto_region 3 with fail
        refine WL.start <| uK (.int .i64 ((i : Nat) : Int)) <| uK (t.v) <| uK (.int .i64 ((t.l : Nat) : Int)) <| uB .lss 3 (.int .i64 ((i : Nat) : Int)) (.int .i64 ((t.l : Nat) : Int)) (.bool true) (by rw [b_lss, decide_eq_true (by omega)]) <| uK (.bool true) <| uK (.int .i64 ((i : Nat) : Int)) <| uB .lss 3 (.int .i64 ((i : Nat) : Int)) (.int .i64 600) (.bool false) (by rw [b_lss, decide_eq_false (by omega)]) <| ?_
        try simp only [pS]
        refine uK (.bool false) <| WL.nil <| ?_
        try simp only [pS]
        go_upto_region 6 with fail
        refine WL.start <| uK (.pointer (some ⟨b, 0, none⟩)) <| uK (.pointer (some ⟨b, 0, none⟩)) <| WL.nil <| ?_
        try simp only [pS]
        go_wp2
        have e : plW n (tri (ss.take 600)) = plW n (tri (ss.take i)) := by
          congr 2
          rcases Nat.lt_or_ge i t.l with h | h
          · rw [show i = 600 by omega]
          · rw [List.take_of_length_le (by omega), List.take_of_length_le (by omega)]
        rw [HC.out, e]
        obtain ⟨J, hWJ⟩ := HF.out.wa
        exact ⟨b, J, rfl, hWJ, HF.out.kp⟩
    · skip
      go_upto_region 3 with fail
      refine WL.start <| uK (.int .i64 ((i : Nat) : Int)) <| uK (t.v) <| uK (.int .i64 ((t.l : Nat) : Int)) <| uB .lss 3 (.int .i64 ((i : Nat) : Int)) (.int .i64 ((t.l : Nat) : Int)) (.bool false) (by rw [b_lss, decide_eq_false (by omega)]) <| uK (.bool false) <| uZ <| uZ <| ?_
      try simp only [pS]
      refine uK (.bool false) <| WL.nil <| ?_
      try simp only [pS]
      go_upto_region 6 with fail
      refine WL.start <| uK (.pointer (some ⟨b, 0, none⟩)) <| uK (.pointer (some ⟨b, 0, none⟩)) <| WL.nil <| ?_
      try simp only [pS]
      go_wp2
      have e : plW n (tri (ss.take 600)) = plW n (tri (ss.take i)) := by
        congr 2
        rcases Nat.lt_or_ge i t.l with h | h
        · rw [show i = 600 by omega]
        · rw [List.take_of_length_le (by omega), List.take_of_length_le (by omega)]
      rw [HC.out, e]
      obtain ⟨J, hWJ⟩ := HF.out.wa
      exact ⟨b, J, rfl, hWJ, HF.out.kp⟩

end Go.Proofs.Ytgiokkcdgoloaaa.Md
namespace Go.Proofs.Ytgiokkcdgoloaaa.Md
open Go.RowKit
set_option linter.unusedVariables false
set_option linter.unusedSimpArgs false

/-! What a function that only reads the world holds. -/
structure Rg (w W : World) (n0 : Nat) (J : Nat → Prop) (b : Nat) (v : Wv) (x : Wd) (mp : Nat → Option Nat) (I : Nat → Nat → Prop) (H : List Bl) (U : List Mg) (D : List Dv) (L : List Lv) (l : List (Nat × TypeId × Array Value)) (Q : List (Sl × List Int)) : Prop where
  wa0 : WA w n0 J b v x mp I H U D L
  fr : Fq No w W l
  qs0 : ∀ (i : Nat) y, Q[i]? = some y → By w n0 y.1 y.2
section
variable {w W W' : World} {n0 : Nat} {J : Nat → Prop} {b : Nat} {v : Wv} {x : Wd} {mp : Nat → Option Nat} {I : Nat → Nat → Prop} {H : List Bl} {U : List Mg} {D : List Dv} {L : List Lv} {l l2 : List (Nat × TypeId × Array Value)} {Q Q' : List (Sl × List Int)}
theorem Rg.kept (G : Rg w W n0 J b v x mp I H U D L l Q) : Kept No w W := G.fr.kept
theorem Rg.wa (G : Rg w W n0 J b v x mp I H U D L l Q) : WA W n0 J b v x mp I H U D L := G.wa0.no G.fr.kept
theorem Rg.box (G : Rg w W n0 J b v x mp I H U D L l Q) : ∀ (i : Nat) g T cs, l[i]? = some (g, T, cs) → Box W g T cs := G.fr.box
theorem Rg.wbox (G : Rg w W n0 J b v x mp I H U D L l Q) : Box W b 75 v.cells := G.wa.wl.box
theorem Rg.low (G : Rg w W n0 J b v x mp I H U D L l Q) : ∀ (i : Nat) g t cs, l[i]? = some (g, t, cs) → w.heap.size ≤ g := fun i g t cs hi => (G.fr.low i g t cs hi).elim id (fun e => e.elim)
theorem Rg.ne (G : Rg w W n0 J b v x mp I H U D L l Q) (i j : Nat) {g g' : Nat} {T T' : TypeId} {cs cs' : Array Value} (hi : l[i]? = some (g, T, cs)) (hj : l[j]? = some (g', T', cs')) (hne : i ≠ j) : g ≠ g' := G.fr.ne i j hi hj hne
theorem Rg.no (G : Rg w W n0 J b v x mp I H U D L l Q) (hk : Kept No W W') : Rg w W' n0 J b v x mp I H U D L l Q := ⟨G.wa0, G.fr.no hk, G.qs0⟩
theorem Rg.drew (G : Rg w W n0 J b v x mp I H U D L l Q) : Rg w W.drew n0 J b v x mp I H U D L l Q := G.no (Kept.refl No W).drew
theorem Rg.alloc (G : Rg w W n0 J b v x mp I H U D L l Q) (t : TypeId) (cs : Array Value) : Rg w (W.alloc (.cells cs t)) n0 J b v x mp I H U D L (l ++ [(W.heap.size, t, cs)]) Q := ⟨G.wa0, G.fr.alloc t cs, G.qs0⟩
theorem Rg.set (G : Rg w W n0 J b v x mp I H U D L l Q) (i : Nat) {g : Nat} {t : TypeId} {cs : Array Value} (hi : l[i]? = some (g, t, cs)) (cs' : Array Value) : Rg w (W.setRow g cs') n0 J b v x mp I H U D L (l.set i (g, t, cs')) Q := ⟨G.wa0, G.fr.set i hi cs', G.qs0⟩
theorem Rg.qs (G : Rg w W n0 J b v x mp I H U D L l Q) : ∀ (i : Nat) y, Q[i]? = some y → By W n0 y.1 y.2 := fun i y hy => (G.qs0 i y hy).no G.fr.kept
theorem Rg.front (G : Rg w W n0 J b v x mp I H U D L (l ++ l2) Q) : Rg w W n0 J b v x mp I H U D L l Q := ⟨G.wa0, G.fr.front, G.qs0⟩
theorem Rg.setQ (G : Rg w W n0 J b v x mp I H U D L l Q) (h : ∀ y ∈ Q', By w n0 y.1 y.2) : Rg w W n0 J b v x mp I H U D L l Q' := ⟨G.wa0, G.fr, fun i y hy => h y (List.mem_of_getElem? hy)⟩
theorem Rg.start (h : WA w n0 J b v x mp I H U D L) (hq : ∀ y ∈ Q, By w n0 y.1 y.2) : Rg w w n0 J b v x mp I H U D L [] Q := ⟨h, Fq.start _ _, fun i y hy => hq y (List.mem_of_getElem? hy)⟩
end
def TrR (w : World) (e : Ending) (w' : World) : Prop := e = .returned (.bool true) ∧ Kept No w w'
theorem b_neq86 (a b : Int) (w : World) : (binOp .neq 86 (.int .i64 a) (.int .i64 b)).run Try.prog w = .ok (.bool (!(a == b))) w := by kernel_rfl
theorem make_by3 (w : World) : (Instr.makeSlice 25 (.int .i64 3) (.int .i64 3)).run Try.prog w = .ok (.slice (some ⟨w.heap.size, 0, none⟩) 3 3) (w.alloc (.cells #[.int .u8 0, .int .u8 0, .int .u8 0] 5)) := by kernel_rfl
theorem by_new (W : World) (n0 : Nat) : By (W.alloc (.cells #[.int .u8 0, .int .u8 0, .int .u8 0] 5)) n0 ⟨some ⟨W.heap.size, 0, none⟩, 3, 3⟩ [0, 0, 0] := by
  have hb := Box.new W 5 #[.int .u8 0, .int .u8 0, .int .u8 0]
  have hn := Box.nums (q := .u8) (zs := [0, 0, 0]) hb 3
  refine ⟨⟨hn, rfl, fun e => by cases e⟩, by simp, fun _ k e => .inr ?_⟩
  obtain ⟨ad, e1, e2⟩ := e
  cases e1
  subst e2
  exact ⟨_, hb⟩
end Go.Proofs.Ytgiokkcdgoloaaa.Md
