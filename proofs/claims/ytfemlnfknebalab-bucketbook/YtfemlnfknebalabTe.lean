import Derived.Test.YtfemlnfknebalabV
namespace Go.Proofs.Ytfemlnfknebalab
open Go.RowKit
set_option linter.unusedVariables false
set_option linter.unusedSimpArgs false

def okE (e : En) : Bool := nameB e.nm && fileB e.f0 e.f1 && inB e.sz 0 4294967296
def okL (up : Int) (l : La) : Bool := inB l.cl 1 255 && inB l.op 1 1099511627776 && inB l.ins 1 up && lastB l
structure Good (up : Int) (es : List En) (ls : List La) : Prop where
  up0 : 0 ≤ up
  up1 : up ≤ 1048576
  n : es.length ≤ 256
  z : up = 0 → es.length + ls.length = 0
  re : RiseE es
  ee : ∀ e ∈ es, okE e = true
  rl : RiseL ls
  ll : ∀ l ∈ ls, okL up l = true
theorem rise_n {ls : List La} (hr : RiseL ls) (h : ∀ l ∈ ls, 1 ≤ l.cl ∧ l.cl ≤ 255) : ls.length ≤ 255 := by
  have key : ∀ i, i < ls.length → (i : Int) + 1 ≤ (lAt ls i).cl := by
    intro i
    induction i with
    | zero => intro hi; have := (h _ (List.mem_of_getElem? (lAt_some hi))).1; omega
    | succ i ih =>
      intro hi
      have h1 := ih (by omega)
      have h2 := hr i (i + 1) _ _ (lAt_some (show i < ls.length by omega)) (lAt_some hi) (by omega)
      have h3 := (cmpI_lt _ _).1 h2
      omega
  apply Nat.le_of_not_lt
  intro hlt
  have h1 := key 255 hlt
  have h2 := (h _ (List.mem_of_getElem? (lAt_some hlt))).2
  omega
theorem Good.ln {up : Int} {es : List En} {ls : List La} (h : Good up es ls) : ls.length ≤ 255 := rise_n h.rl (fun l hl => by
  have := h.ll l hl
  simp only [okL, inB, Bool.and_eq_true, decide_eq_true_eq] at this
  exact this.1.1.1)
def ansB (a : An) : Bool := lastB ⟨0, 0, 0, a.er, a.e.f0, a.e.f1, a.e.sz⟩
theorem ansB_ok {er : Int} (h : er = 0 ∨ er = 101 ∨ er = 104) {e : En} {l : List En} (he : okE e = true) : ansB ⟨er, e, l⟩ = true := by
  simp only [okE, Bool.and_eq_true] at he
  rcases h with rfl | rfl | rfl <;> simp [ansB, lastB, he.1.2, he.2]
structure CmdOk (c : Cm) : Prop where
  cl : inB c.cl 1 255 = true
  op : inB c.op 1 1099511627776 = true
  nm : c.k ≠ 4 → nameB c.nm = true
  g : c.k = 7 → fileB c.g0 c.g1 = true
  sz : inB c.sz 0 4294967296 = true
theorem cmdB_all {c : Cm} (h : cmdB c = true) : CmdOk c := by
  simp only [cmdB, Bool.and_eq_true] at h
  obtain ⟨hk, hcl, ⟨⟨⟨⟨⟨⟨⟨⟨hop, hA⟩, hB⟩, hC⟩, hD⟩, hE⟩, hF⟩, hG⟩, hH⟩⟩ := h
  refine ⟨hcl, hop, fun e => ?_, fun e => ?_, hG⟩
  · rw [beq_eq_false_iff_ne.2 e] at hB; simpa using hB
  · rw [e] at hF; simpa using hF
theorem chgE_ok {e : En} {c : Cm} (he : okE e = true) (hc : CmdOk c) : okE (chgE e c) = true := by
  have hs := hc.sz
  simp only [okE, inB, Bool.and_eq_true, decide_eq_true_eq] at he hs ⊢
  unfold chgE
  split
  · exact ⟨he.1, hs⟩
  split
  · refine ⟨he.1, ?_⟩
    show 0 ≤ max e.sz c.sz ∧ max e.sz c.sz ≤ 4294967296
    omega
  split
  · rename_i h7
    exact ⟨⟨he.1.1, hc.g (by simpa using h7)⟩, hs⟩
  · exact he
theorem chgS_ok {e : En} {c : Cm} (he : okE e = true) (hc : CmdOk c) : okE (chgS e c).1 = true ∧ ansB (chgS e c).2 = true ∧ (chgS e c).2.e = (chgS e c).1 ∧ (chgS e c).2.l = [] ∧ ((chgS e c).2.er == 102) = false ∧ ((chgS e c).2.er == 103) = false := by
  unfold chgS
  split
  · exact ⟨chgE_ok he hc, ansB_ok (.inl rfl) (chgE_ok he hc), rfl, rfl, rfl, rfl⟩
  · exact ⟨he, ansB_ok (.inr (.inr rfl)) he, rfl, rfl, rfl, rfl⟩
theorem newE_ok {c : Cm} (hc : CmdOk c) (h4 : c.k ≠ 4) : okE (newE c) = true := by
  have := hc.nm h4
  have h1 := hc.cl
  have h2 := hc.op
  have h3 : inB 0 0 4294967296 = true := rfl
  simp [okE, newE, fileB, this, h1, h2, h3]
theorem act_ok {es : List En} (h : RiseE es) (hE : ∀ e ∈ es, okE e = true) {c : Cm} (hc : CmdOk c) (room : Int) (hn : (es.length : Int) ≤ room) : (∀ e ∈ (actS es c room).1, okE e = true) ∧ (((actS es c room).1.length : Nat) : Int) ≤ room ∧ (c.k ≠ 4 → ansB (actS es c room).2 = true) := by
  unfold actS
  split
  · rename_i h4
    exact ⟨hE, hn, fun e => absurd (by simpa using h4) e⟩
  rename_i h4
  have h4' : c.k ≠ 4 := by simpa using h4
  split
  · unfold creS
    split
    · rename_i hq
      exact ⟨hE, hn, fun _ => ansB_ok (.inr (.inl rfl)) (hE _ (List.mem_of_getElem? (eAt_some (eIs_lt hq))))⟩
    split
    · exact ⟨hE, hn, fun _ => rfl⟩
    rename_i hf
    refine ⟨fun e he => ?_, ?_, fun _ => ansB_ok (.inl rfl) (newE_ok hc h4')⟩
    · rcases mem_ins.1 (show e ∈ insL es (eIx es c.nm) (newE c) from he) with rfl | he
      · exact newE_ok hc h4'
      · exact hE e he
    · show (((insL es (eIx es c.nm) (newE c)).length : Nat) : Int) ≤ room
      rw [insL_len _ _ _ (eIx_le _ _)]
      simp at hf
      omega
  split
  · rename_i hq
    have hl := eIs_lt hq
    have ho := hE _ (List.mem_of_getElem? (eAt_some hl))
    split
    · exact ⟨hE, hn, fun _ => ansB_ok (.inl rfl) ho⟩
    split
    · refine ⟨fun e he => ?_, ?_, fun _ => ansB_ok (.inl rfl) ho⟩
      · exact hE e ((mem_del ordB h (eAt_some hl)).1 (show e ∈ delL es (eIx es c.nm) from he)).1
      · show (((delL es (eIx es c.nm)).length : Nat) : Int) ≤ room
        rw [delL_len _ _ hl]; omega
    · obtain ⟨o1, o2, _⟩ := chgS_ok ho hc
      refine ⟨fun e he => ?_, ?_, fun _ => o2⟩
      · rcases (mem_set ordB h (eAt_some hl) (chgS_nm _ _)).1 (show e ∈ es.set _ _ from he) with rfl | he
        · exact o1
        · exact hE e he.1
      · show (((es.set _ _).length : Nat) : Int) ≤ room
        rw [List.length_set]; exact hn
  · exact ⟨hE, hn, fun _ => rfl⟩
theorem keep_mem {ls : List La} (h : RiseL ls) {l e : La} (he : e ∈ keepS ls l) : e = l ∨ e ∈ ls := by
  unfold keepS at he
  split at he
  · rename_i hq
    exact ((mem_set ordI h (lAt_some (lIs_lt hq)) (lAt_cl hq).symm).1 he).imp id And.left
  · exact mem_ins.1 he
theorem okL_up {up : Int} {l : La} (h : okL up l = true) : okL (up + 1) l = true := by
  simp only [okL, inB, Bool.and_eq_true, decide_eq_true_eq] at h ⊢
  exact ⟨⟨h.1.1, ⟨h.1.2.1, by have := h.1.2.2; omega⟩⟩, h.2⟩
theorem Good.step {up : Int} {es : List En} {ls : List La} (h : Good up es ls) {c : Cm} (hc : cmdB c = true) (hu : up < 1048576) {room : Int} (hn : (es.length : Int) ≤ room) (hr : room ≤ 256) : Good (stepS ⟨up, es, ls⟩ c room).1.up (stepS ⟨up, es, ls⟩ c room).1.es (stepS ⟨up, es, ls⟩ c room).1.ls ∧ (((stepS ⟨up, es, ls⟩ c room).1.es.length : Nat) : Int) ≤ room := by
  have hC := cmdB_all hc
  obtain ⟨a1, a2, a3⟩ := act_ok h.re h.ee hC room hn
  have r1 := (act_rise h.re c room).1
  have l1 := (step_ls (b := ⟨up, es, ls⟩) h.rl c room).1
  refine ⟨⟨by have := h.up0; show 0 ≤ up + 1; omega, by show up + 1 ≤ 1048576; omega, by have : (((actS es c room).1.length : Nat) : Int) ≤ room := a2; show (actS es c room).1.length ≤ 256; omega, fun e => by have := h.up0; have e : up + 1 = 0 := e; omega, r1, a1, l1, ?_⟩, a2⟩
  intro l hl
  show okL (up + 1) l = true
  by_cases hq : quest c = true
  · have e : (stepS ⟨up, es, ls⟩ c room).1.ls = ls := by unfold stepS; rw [hq]; rfl
    rw [e] at hl
    exact okL_up (h.ll l hl)
  · have hq' : quest c = false := by simpa using hq
    have e : (stepS ⟨up, es, ls⟩ c room).1.ls = keepS ls (lastOf c (up + 1) (actS es c room).2) := by unfold stepS; rw [hq']; rfl
    rw [e] at hl
    rcases keep_mem h.rl hl with rfl | hl
    · have h4 : c.k ≠ 4 := fun e4 => hq (by unfold quest; rw [e4]; rfl)
      have h5 : lastB (lastOf c (up + 1) (actS es c room).2) = true := a3 h4
      have h6 : inB (up + 1) 1 (up + 1) = true := by have := h.up0; simp only [inB, Bool.and_eq_true, decide_eq_true_eq]; omega
      unfold okL
      rw [h5, show (lastOf c (up + 1) (actS es c room).2).cl = c.cl from rfl, show (lastOf c (up + 1) (actS es c room).2).op = c.op from rfl, show (lastOf c (up + 1) (actS es c room).2).ins = up + 1 from rfl, hC.cl, hC.op, h6]
      rfl
    · exact okL_up (h.ll l hl)

end Go.Proofs.Ytfemlnfknebalab
