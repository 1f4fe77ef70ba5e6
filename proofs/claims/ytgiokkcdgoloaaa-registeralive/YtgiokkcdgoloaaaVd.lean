import Derived.Test.YtgiokkcdgoloaaaTf
namespace Go.Proofs.Ytgiokkcdgoloaaa.Md
open Go.RowKit
set_option linter.unusedVariables false
set_option linter.unusedSimpArgs false
theorem box_map {w : World} {k b : Nat} {t : TypeId} {cs : Array Value} {g : Int → Option Value} (h : Box w k t cs) (hm : MapIs w b g) : k ≠ b := by
  rintro rfl
  obtain ⟨es, clock, hh, _⟩ := hm
  unfold Box at h
  rw [hh] at h
  cases h
theorem off_tal {α : Type} {T t : TypeId} {f : Option α → Value} {w : World} {tb bb ct : Nat} {at' : Option Addr} {X : TS α} (h : Tal T f w tb bb at' ct X) {k : Nat} (hb : ∃ cs, Box w k t cs) (ht : t ≠ T) : ¬ Tb2 tb bb k := by
  obtain ⟨cs, hb⟩ := hb
  rintro (e | e)
  · exact box_ne hb h.box ht e
  · exact box_map hb h.map e
theorem off_mb {α : Type} {T : TypeId} {f : Option α → Value} {w : World} {tb bb ct : Nat} {at' : Option Addr} {X : TS α} (h : Tal T f w tb bb at' ct X) {m : Nat} {a : Option Addr} {cap : Nat} {x : MS} {t : TypeId} {v : Value} (hM : Mach w m a cap x t v) (h1 : (142 : TypeId) ≠ T) (h2 : (3 : TypeId) ≠ T) : ∀ k, MB m a k → ¬ Tb2 tb bb k := by
  rintro k (e | e)
  · subst e; exact off_tal h ⟨_, hM.box⟩ h1
  · exact off_tal h (Own.ty hM.row e) h2
theorem MOut.after {w wr w' : World} {I : Nat → Prop} {m : Nat} {o : RM × To} {e : Ending} (hk : Kept No w wr) (h : MOut wr I m o e w') : MOut w I m o e w' := by
  obtain ⟨la, lc, qs, I', he, hq, hMs, hm, hI, hk2⟩ := h
  have hs := hk.size
  exact ⟨la, lc, qs, I', he, hq, ⟨Own.lower hMs.row hs, fun q h => Own.lower (hMs.own q h) hs, hMs.ord, hMs.len⟩, hm, fun k e => ⟨(hI k e).1.imp id (fun h => by omega), (hI k e).2⟩, hk.of_no.then hk2⟩
theorem MOut.form {w w' : World} {I : Nat → Prop} {m : Nat} {o : RM × To} {e : Ending} (h : MOut w I m o e w') : ∃ a l c, e = .returned (.slice a l c) := by
  obtain ⟨la, lc, qs, I', he, _⟩ := h
  exact ⟨_, _, _, he⟩
end Go.Proofs.Ytgiokkcdgoloaaa.Md
namespace Go.Proofs.Ytgiokkcdgoloaaa.Md
open Go.RowKit
set_option linter.unusedVariables false
set_option linter.unusedSimpArgs false
theorem got_pos {X : TS Bp} {Y : TS Bq} {R : Bp → Bq → Prop} (h : LkR R X Y) (hc : 1 ≤ cnt Y) : 0 < ((gotL X).map Prod.snd).length := by
  rw [List.length_map, gotL_len, ← cnt2 h.g h.nn]
  omega
theorem bk_nc {w : World} {I : Nat → Prop} (b : Bp) (k : Bq) (h : Bk2 w I b k) : k.n = b.st.n ∧ k.c = b.st.c := ⟨h.1, h.2.1⟩
theorem ask_state {w w' : World} {I : Nat → Prop} {m : Nat} {s : RM} {d : Mg} {X : TS Bp} {Y : TS Bq} {kp : Bp} {b : Bq} {a : Option Addr} {cap : Nat} {tb bb ct : Nat} {at' : Option Addr} {ai : TypeId} {av : Value}
    (len : s.zs.length ≤ 1000) (r0 : 1 ≤ s.rd) (r1 : s.rd ≤ 1099511627776) (i1 : I m) (i2 : ∀ k, At a k → I k) (hI : ∀ k, TB tb bb at' k → I k) (hg : X.g = s.zs)
    (hM : Mach w' m a cap s.x 182 (.agg #[.iface ai av, .pointer (some ⟨tb, 0, none⟩)])) (hA : AimAt w' (fun k => I k ∨ w.heap.size ≤ k) s ai av) (hT : Tal 185 ansB w' tb bb at' ct (takeS Y d.fr.id b)) (hL : Lk w' (fun k => I k ∨ w.heap.size ≤ k) (takeS X d.fr.id kp) (takeS Y d.fr.id b)) :
    Mch w' (fun k => I k ∨ w.heap.size ≤ k) m { s with ph := .ask (takeS X d.fr.id kp) } :=
  ⟨⟨a, cap, 182, _, hM, .inl i1, fun k e => .inl (i2 k e), rfl, r0, r1, ai, av, tb, bb, at', ct, _, rfl, hA.of rfl rfl, hT, hL, fun k e => .inl (hI k e), by rw [takeS_g]; exact hg⟩, len⟩
end Go.Proofs.Ytgiokkcdgoloaaa.Md
namespace Go.Proofs.Ytgiokkcdgoloaaa.Md
open Go.RowKit
set_option linter.unusedVariables false
set_option linter.unusedSimpArgs false
structure QR {α : Type} (zs : List Int) (X : TS α) (qa : List Bool) : Prop where
  g : X.g = zs
  need : X.need = (zs.length : Int) / 2 + 1
  qa : qa = zs.map (fun n => (X.v n).isSome)
  few : cnt X < zs.length / 2 + 1
def keepQ (s : RM) (st : Sp) (z : List Int) : Bp := match s.aim with
  | .wr _ => ⟨st, []⟩
  | .rd n => if st.n = 0 ∧ st.c = 0 then ⟨spZ, List.replicate n 0⟩ else ⟨st, z⟩
def WrB (B : Sl → List Int → Prop) (s : RM) (x : Rx) : Prop := match s.aim with
  | .wr z => B x.bl z
  | .rd _ => True
def PhR (B : Sl → List Int → Prop) (s : RM) (x : Rx) : Rp → Prop
  | .fresh => x.ph = 0 ∧ WrB B s x
  | .ask X => x.ph = 1 ∧ 1 ≤ s.rd ∧ s.rd ≤ 1099511627776 ∧ QR s.zs X x.qa ∧ x.vs.length = s.zs.length ∧ (∀ (i : Nat) n b, s.zs[i]? = some n → X.v n = some b → ∃ zz, B (gAt x.vs i).bl zz ∧ b = keepQ s (gAt x.vs i).st zz) ∧ (∀ j, -9223372036854775808 ≤ (gAt x.vs j).st.n) ∧ WrB B s x
  | .lay b U => x.ph = 2 ∧ QR s.zs U x.qa ∧ x.vs.length = s.zs.length ∧ x.tag = b.st ∧ B x.bl b.z ∧ ((∀ j, -9223372036854775808 ≤ (gAt x.vs j).st.n) ∧ 0 ≤ s.rd)
  | .fin er st z => x.ph = 3 ∧ x.er = er ∧ (er = 0 → x.tag = st ∧ (x.wr = false → B x.bl z) ∧ (x.wr = true → z = [])) ∧ (er ≠ 0 → st = spZ ∧ z = [])
structure Rel (B : Sl → List Int → Prop) (s : RM) (x : Rx) : Prop where
  wr : x.wr = s.isW
  cl : x.cl = s.cl
  op : x.op = s.op
  ky : x.ky = s.ky
  zs : x.zs = s.zs
  rd : x.rd = s.rd
  nd : s.zs.Nodup
  sz : match s.aim with | .wr _ => True | .rd n => x.sz = (n : Int)
  s0 : 0 ≤ x.sz
  s1 : x.sz ≤ 4096
  ph : PhR B s x s.ph
theorem WrB.mono {B B' : Sl → List Int → Prop} {s : RM} {x : Rx} (h : WrB B s x) (hB : ∀ l z, B l z → B' l z) : WrB B' s x := by
  unfold WrB at h ⊢
  split
  · rename_i z hz; rw [hz] at h; exact hB _ _ h
  · trivial
theorem Rel.mono {B B' : Sl → List Int → Prop} {s : RM} {x : Rx} (h : Rel B s x) (hB : ∀ l z, B l z → B' l z) : Rel B' s x := by
  refine ⟨h.wr, h.cl, h.op, h.ky, h.zs, h.rd, h.nd, h.sz, h.s0, h.s1, ?_⟩
  have hp := h.ph
  cases e : s.ph with
  | fresh => rw [e] at hp; exact ⟨hp.1, hp.2.mono hB⟩
  | ask X =>
    rw [e] at hp
    obtain ⟨h1, h2, h3, h4, h5, h6, h7, h8⟩ := hp
    exact ⟨h1, h2, h3, h4, h5, fun i n b e1 e2 => by obtain ⟨zz, a, b⟩ := h6 i n b e1 e2; exact ⟨zz, hB _ _ a, b⟩, h7, h8.mono hB⟩
  | lay b U =>
    rw [e] at hp
    obtain ⟨h1, h2, h3, h4, h5, h6⟩ := hp
    exact ⟨h1, h2, h3, h4, hB _ _ h5, h6⟩
  | fin er st z =>
    rw [e] at hp
    obtain ⟨h1, h2, h3, h4⟩ := hp
    exact ⟨h1, h2, fun e => ⟨(h3 e).1, fun w => hB _ _ ((h3 e).2.1 w), (h3 e).2.2⟩, h4⟩
structure LikeT (B : Sl → List Int → Prop) (x' : Rx) (o : RM × To) (l : List Mg) : Prop where
  eq : l = o.2.ss.map (msgR x')
  ok : o.2.ss ≠ [] → x'.cl = o.1.cl ∧ x'.op = o.1.op ∧ x'.ky = o.1.ky ∧ x'.rd = o.1.rd ∧ ((x'.ph = 1 ∧ o.2.k = 1 ∧ o.2.st = spZ ∧ o.2.z = []) ∨ (x'.ph = 2 ∧ o.2.k = 2 ∧ o.2.st = x'.tag ∧ B x'.bl o.2.z))
theorem QR.new {α : Type} {zs : List Int} (hn : zs.Nodup) : QR zs (tNew α zs ((zs.length : Int) / 2 + 1)) (List.replicate zs.length false) :=
  ⟨uq_nd hn, rfl, by show _ = zs.map (fun _ => false); rw [List.map_const'], by rw [cnt_new]; omega⟩
end Go.Proofs.Ytgiokkcdgoloaaa.Md
namespace Go.Proofs.Ytgiokkcdgoloaaa.Md
open Go.RowKit
set_option linter.unusedVariables false
set_option linter.unusedSimpArgs false
section
variable {α : Type} {zs : List Int} {X : TS α} {qa : List Bool}
theorem lit_nd : ∀ (l : List Int), l.Nodup → ∀ (i j : Nat) z, l[i]? = some z → l[j]? = some z → i = j
  | [], _, i, j, z, h, _ => by simp at h
  | a :: l, hn, i, j, z, hi, hj => by
    have ⟨h1, h2⟩ := List.nodup_cons.1 hn
    cases i with
    | zero =>
      cases j with
      | zero => rfl
      | succ j => simp at hi hj; subst hi; exact absurd (List.mem_of_getElem? hj) h1
    | succ i =>
      cases j with
      | zero => simp at hi hj; subst hj; exact absurd (List.mem_of_getElem? hi) h1
      | succ j => simp at hi hj; rw [lit_nd l h2 i j z hi hj]
theorem QR.at (h : QR zs X qa) {i : Nat} {n : Int} (hi : zs[i]? = some n) : qa[i]?.getD false = (X.v n).isSome := by
  rw [h.qa, List.getElem?_map, hi]; rfl
theorem QR.may (h : QR zs X qa) (n : Int) : mayB X n = (decide (n ∈ zs) && (X.v n).isNone) := by
  unfold mayB enB
  have hf := h.few
  have hnn : ¬ ((zs.length : Int) / 2 + 1 ≤ ((cnt X : Nat) : Int)) := by omega
  rw [h.g, h.need, decide_eq_false hnn]
  simp
theorem cnt_put' {n : Int} {v : α} {i : Nat} (e2 : qa.set i true = zs.map (fun y => ((putS X n v).v y).isSome)) (hg : X.g = zs) : cntB (qa.set i true) = cnt (putS X n v) := by
  rw [e2]
  unfold cntB cnt
  rw [List.countP_map, show (putS X n v).g = X.g from rfl, hg]
  rfl
theorem QR.put (hn : zs.Nodup) (h : QR zs X qa) {i : Nat} {n : Int} (hi : zs[i]? = some n) (hv : X.v n = none) (v : α) :
    takeS X n v = putS X n v ∧ takeB X n = decide (¬ cntB (qa.set i true) < zs.length / 2 + 1) ∧ qa.set i true = zs.map (fun y => ((putS X n v).v y).isSome) ∧ (cntB (qa.set i true) < zs.length / 2 + 1 → QR zs (putS X n v) (qa.set i true)) := by
  have hm : n ∈ zs := List.mem_of_getElem? hi
  have hmay : mayB X n = true := by rw [h.may, hv]; simp [hm]
  have e1 : takeS X n v = putS X n v := by unfold takeS; rw [if_pos hmay]
  have e2 : qa.set i true = zs.map (fun y => ((putS X n v).v y).isSome) := by
    rw [h.qa]
    apply List.ext_getElem?
    intro j
    rw [List.getElem?_set]
    by_cases e : i = j
    · subst e
      have hl := (List.getElem?_eq_some_iff.1 hi).1
      simp [hl, hi, putS]
      have := (List.getElem?_eq_some_iff.1 hi).2
      rw [if_pos this]; rfl
    · rw [if_neg e, List.getElem?_map, List.getElem?_map]
      cases hj : zs[j]? with
      | none => rfl
      | some y =>
        have : y ≠ n := fun e2 => e (lit_nd zs hn i j n hi (e2 ▸ hj))
        simp [putS, this]
  have e3 : cntB (qa.set i true) = cnt X + 1 := by
    rw [e2]
    have := cnt_put (v := v) (by rw [h.g]; exact hn) (by rw [h.g]; exact hm) hv
    rw [← this]
    unfold cntB cnt
    rw [List.countP_map, show (putS X n v).g = X.g from rfl, h.g]
    rfl
  refine ⟨e1, ?_, e2, fun hf => ⟨h.g, h.need, e2, by rw [← cnt_put' e2 h.g]; exact hf⟩⟩
  · unfold takeB
    rw [hmay, h.need, e3, Bool.true_and]
    congr 1
    apply propext
    constructor <;> intro hh <;> omega
end
end Go.Proofs.Ytgiokkcdgoloaaa.Md
namespace Go.Proofs.Ytgiokkcdgoloaaa.Md
open Go.RowKit
set_option linter.unusedVariables false
set_option linter.unusedSimpArgs false
theorem got_fm {α : Type} (X : TS α) : (gotL X).map Prod.snd = X.g.filterMap X.v := by
  unfold gotL
  induction X.g with
  | nil => rfl
  | cons n l ih =>
    cases h : X.v n with
    | none => simpa [List.filterMap_cons, h] using ih
    | some v => simpa [List.filterMap_cons, h] using ih
theorem bpAt_app {l : List Bp} {b : Bp} {i : Nat} (h : i < l.length) : bpAt (l ++ [b]) i = bpAt l i := by
  unfold bpAt
  rw [List.getElem?_append_left h]
theorem bpAt_last (l : List Bp) (b : Bp) : bpAt (l ++ [b]) l.length = b := by simp [bpAt]
theorem best_snoc {l : List Bp} (b : Bp) (h : l ≠ []) : bestB (l ++ [b]) = if lsP (bestB l) b then b else bestB l := by
  have h0 : 0 < l.length := List.length_pos_iff.2 h
  obtain ⟨k, hk⟩ : ∃ k, l.length = k + 1 := ⟨l.length - 1, by omega⟩
  have e1 : bi (fun i j => lsP (bpAt (l ++ [b]) i) (bpAt (l ++ [b]) j)) k = bi (fun i j => lsP (bpAt l i) (bpAt l j)) k := bi_congr k (fun i j hi hj => by rw [bpAt_app (by omega), bpAt_app (by omega)])
  have hle := bi_le (fun i j => lsP (bpAt l i) (bpAt l j)) k
  unfold bestB
  rw [List.length_append, List.length_singleton, hk, Nat.add_sub_cancel, Nat.add_sub_cancel]
  show bpAt (l ++ [b]) (if lsP (bpAt (l ++ [b]) (bi _ k)) (bpAt (l ++ [b]) (k + 1)) then k + 1 else bi _ k) = _
  rw [e1, bpAt_app (i := bi _ k) (by omega), show bpAt (l ++ [b]) (k + 1) = b by rw [← hk]; exact bpAt_last l b]
  split
  · rw [← hk]; exact bpAt_last l b
  · exact bpAt_app (by omega)
theorem best_mem {l : List Bp} (h : l ≠ []) : bestB l ∈ l := by
  have h0 : 0 < l.length := List.length_pos_iff.2 h
  have hle := bi_le (fun i j => lsP (bpAt l i) (bpAt l j)) (l.length - 1)
  unfold bestB
  have hl : bi (fun i j => lsP (bpAt l i) (bpAt l j)) (l.length - 1) < l.length := by omega
  generalize bi (fun i j => lsP (bpAt l i) (bpAt l j)) (l.length - 1) = q at hl
  unfold bpAt
  rw [List.getElem?_eq_getElem hl]
  exact List.getElem_mem hl
end Go.Proofs.Ytgiokkcdgoloaaa.Md
namespace Go.Proofs.Ytgiokkcdgoloaaa.Md
open Go.RowKit
set_option linter.unusedVariables false
set_option linter.unusedSimpArgs false
def sle (a b : Sp) : Prop := a.n < b.n ∨ (a.n = b.n ∧ a.c ≤ b.c)
def slt (a b : Sp) : Prop := a.n < b.n ∨ (a.n = b.n ∧ a.c < b.c)
theorem sle.refl (a : Sp) : sle a a := .inr ⟨rfl, Int.le_refl _⟩
theorem sle.trans {a b c : Sp} (h : sle a b) (k : sle b c) : sle a c := by unfold sle at *; omega
theorem sle.lt {a b c : Sp} (h : sle a b) (k : slt b c) : slt a c := by unfold sle slt at *; omega
theorem slt.le {a b c : Sp} (h : slt a b) (k : sle b c) : slt a c := by unfold sle slt at *; omega
theorem slt.sle {a b : Sp} (h : slt a b) : sle a b := by unfold Md.sle slt at *; omega
theorem slt.ne {a b : Sp} (h : slt a b) : a ≠ b := fun e => by subst e; unfold slt at h; omega
theorem ls_sle {a b : Bp} : lsP a b = true ↔ slt a.st b.st := by
  unfold lsP lessB slt
  simp
theorem ls_not {a b : Bp} (h : lsP a b = false) : sle b.st a.st := by
  unfold lsP lessB at h
  unfold sle
  simp at h
  omega
theorem best_max : ∀ (n : Nat) (l : List Bp), l.length = n → ∀ b ∈ l, sle b.st (bestB l).st := by
  intro n
  induction n with
  | zero => intro l hl b hb; rw [List.eq_nil_of_length_eq_zero hl] at hb; cases hb
  | succ n ih =>
    intro l hl b hb
    have hne : l ≠ [] := fun e => by rw [e] at hl; cases hl
    obtain ⟨l', x, rfl⟩ : ∃ l' x, l = l' ++ [x] := ⟨l.dropLast, l.getLast hne, (List.dropLast_concat_getLast hne).symm⟩
    have hl' : l'.length = n := by simpa using hl
    by_cases h0 : l' = []
    · subst h0
      have : b = x := by simpa using hb
      subst this
      have := best_mem (l := [b]) (by simp)
      rw [List.nil_append]
      rw [List.mem_singleton.1 this]
      exact sle.refl _
    · rw [best_snoc x h0]
      rcases List.mem_append.1 hb with h | h
      · have h1 := ih l' hl' b h
        split
        · rename_i hx; exact h1.trans (ls_sle.1 hx).sle
        · exact h1
      · have : b = x := by simpa using h
        subst this
        split
        · exact sle.refl _
        · rename_i hx; exact ls_not (by simpa using hx)
def Maj (zs : List Int) (q : Int → Bool) : Prop := zs.length < 2 * zs.countP q
theorem meet_cnt (zs : List Int) (p q : Int → Bool) (h : zs.length < zs.countP p + zs.countP q) : ∃ a, a ∈ zs ∧ p a = true ∧ q a = true := by
  induction zs with
  | nil => simp at h
  | cons x l ih =>
    simp only [List.countP_cons, List.length_cons] at h
    cases hp : p x <;> cases hq : q x
    · rw [hp, hq] at h; simp at h; obtain ⟨a, ha, e⟩ := ih (by omega); exact ⟨a, List.mem_cons_of_mem _ ha, e⟩
    · rw [hp, hq] at h; simp at h; obtain ⟨a, ha, e⟩ := ih (by omega); exact ⟨a, List.mem_cons_of_mem _ ha, e⟩
    · rw [hp, hq] at h; simp at h; obtain ⟨a, ha, e⟩ := ih (by omega); exact ⟨a, List.mem_cons_of_mem _ ha, e⟩
    · exact ⟨x, List.mem_cons_self, hp, hq⟩
theorem Maj.meet {zs : List Int} {p q : Int → Bool} (h : Maj zs p) (k : Maj zs q) : ∃ a, a ∈ zs ∧ p a = true ∧ q a = true :=
  meet_cnt zs p q (by unfold Maj at h k; omega)
def Low (zs : List Int) (B : Int → Sp) (wr : Bool) (t : Sp) : Prop := ∃ q, Maj zs q ∧ ∀ i, i ∈ zs → q i = true → if wr then slt (B i) t else sle (B i) t
def Hold (zs : List Int) (H : Int → Sp) (t : Sp) : Prop := ∃ q, Maj zs q ∧ ∀ i, i ∈ zs → q i = true → sle t (H i)
theorem Hold.low {zs : List Int} {B : Int → Sp} {wr : Bool} {a t : Sp} (h : Hold zs B a) (k : Low zs B wr t) : if wr then slt a t else sle a t := by
  obtain ⟨p, hp, h1⟩ := h
  obtain ⟨q, hq, h2⟩ := k
  obtain ⟨i, hi, e1, e2⟩ := hp.meet hq
  have a1 := h1 i hi e1
  have a2 := h2 i hi e2
  cases wr with
  | true => exact a1.lt a2
  | false => exact a1.trans a2
theorem Hold.mono {zs : List Int} {H H' : Int → Sp} {t : Sp} (h : Hold zs H t) (hH : ∀ i, sle (H i) (H' i)) : Hold zs H' t := by
  obtain ⟨q, hq, h1⟩ := h
  exact ⟨q, hq, fun i hi e => (h1 i hi e).trans (hH i)⟩
def PhK (zs : List Int) (B H : Int → Sp) (V : Sp → List Int → Prop) (s : RM) : Rp → Prop
  | .fresh => True
  | .ask X => X.g = zs ∧ X.need = s.need ∧ (cnt X : Int) < s.need ∧ ∀ i b, X.v i = some b → sle (B i) b.st ∧ sle b.st (H i) ∧ (s.isW = false → V b.st b.z)
  | .lay b U => U.g = zs ∧ U.need = s.need ∧ (cnt U : Int) < s.need ∧ (∀ i u, U.v i = some u → sle b.st (H i)) ∧ Low zs B s.isW b.st ∧ V b.st b.z ∧ (s.isW = true → b.st.c = s.cl ∧ s.aim = .wr b.z) ∧ ((∀ i, sle spZ (B i)) → slt spZ b.st)
  | .fin er st z => er = 0 → Low zs B s.isW st ∧ Hold zs H st ∧ (s.isW = false → V st z) ∧ (s.isW = true → st.c = s.cl ∧ z = [])
structure MK (zs : List Int) (B H : Int → Sp) (V : Sp → List Int → Prop) (s : RM) : Prop where
  gz : s.zs = zs
  ph : PhK zs B H V s s.ph
theorem MK.mono {zs : List Int} {B H H' : Int → Sp} {V V' : Sp → List Int → Prop} {s : RM} (h : MK zs B H V s) (hH : ∀ i, sle (H i) (H' i)) (hV : ∀ t z, V t z → V' t z) : MK zs B H' V' s := by
  refine ⟨h.gz, ?_⟩
  have hp := h.ph
  cases e : s.ph with
  | fresh => trivial
  | ask X =>
    rw [e] at hp
    obtain ⟨h1, h2, h3, h4⟩ := hp
    exact ⟨h1, h2, h3, fun i b hb => ⟨(h4 i b hb).1, (h4 i b hb).2.1.trans (hH i), fun hw => hV _ _ ((h4 i b hb).2.2 hw)⟩⟩
  | lay b U =>
    rw [e] at hp
    obtain ⟨h1, h2, h3, h4, h5, h6, h7⟩ := hp
    exact ⟨h1, h2, h3, fun i u hu => (h4 i u hu).trans (hH i), h5, hV _ _ h6, h7⟩
  | fin er st z =>
    rw [e] at hp
    intro h0
    obtain ⟨h1, h2, h3, h4⟩ := hp h0
    exact ⟨h1, h2.mono hH, fun hw => hV _ _ (h3 hw), h4⟩
theorem maj_cnt {α : Type} {zs : List Int} {X : TS α} (hg : X.g = zs) (h : (zs.length : Int) / 2 + 1 ≤ cnt X) : Maj zs (fun i => (X.v i).isSome) := by
  unfold Maj
  unfold cnt at h
  rw [hg] at h
  omega
end Go.Proofs.Ytgiokkcdgoloaaa.Md
namespace Go.Proofs.Ytgiokkcdgoloaaa.Md
open Go.RowKit
set_option linter.unusedVariables false
set_option linter.unusedSimpArgs false
theorem got_in {α : Type} {X : TS α} {b : α} (h : b ∈ (gotL X).map Prod.snd) : ∃ i, i ∈ X.g ∧ X.v i = some b := by
  rw [got_fm] at h
  exact List.mem_filterMap.1 h
theorem in_got {α : Type} {X : TS α} {i : Int} {b : α} (hi : i ∈ X.g) (h : X.v i = some b) : b ∈ (gotL X).map Prod.snd := by
  rw [got_fm]
  exact List.mem_filterMap.2 ⟨i, hi, h⟩
theorem may_cnt {α : Type} {X : TS α} {i : Int} {b : α} (hn : X.g.Nodup) (hm : mayB X i = true) : takeS X i b = putS X i b ∧ cnt (putS X i b) = cnt X + 1 ∧ i ∈ X.g := by
  have h : (i ∈ X.g ∧ (X.v i).isNone = true) ∧ enB X = false := by simpa [mayB] using hm
  exact ⟨if_pos hm, cnt_put hn h.1.1 (Option.isNone_iff_eq_none.1 h.1.2), h.1.1⟩
section
variable {zs : List Int} {B H : Int → Sp} {V : Sp → List Int → Prop} {s : RM}
theorem lay_MK (hz : s.zs = zs) (hnd : zs.Nodup) {b : Bp} (h1 : Low zs B s.isW b.st) (h2 : V b.st b.z) (h3 : s.isW = true → b.st.c = s.cl ∧ s.aim = .wr b.z) (h4 : (∀ i, sle spZ (B i)) → slt spZ b.st) : MK zs B H V (layP s b).1 := by
  unfold layP
  split
  · exact ⟨hz, fun e => by cases e⟩
  · refine ⟨hz, (?_ : uq s.zs = zs), rfl, ?_, fun i u hu => (by cases hu), h1, h2, h3, h4⟩
    · rw [hz]; exact uq_nd hnd
    · show ((cnt (tNew Unit s.zs s.need) : Nat) : Int) < s.need
      rw [cnt_new]
      unfold RM.need
      omega
theorem set_MK (hz : s.zs = zs) (hnd : zs.Nodup) {X : TS Bp} (hg : X.g = zs) (hc : s.need ≤ cnt X) (ha : ∀ i b, X.v i = some b → sle (B i) b.st ∧ sle b.st (H i) ∧ (s.isW = false → V b.st b.z)) (hV : ∀ z t, s.aim = .wr z → t.c = s.cl → Low zs B true t → V t z) :
    MK zs B H V (setP s ((gotL X).map Prod.snd)).1 := by
  have hmaj : Maj zs (fun i => (X.v i).isSome) := maj_cnt hg (by rw [← hz]; exact hc)
  have hne : (gotL X).map Prod.snd ≠ [] := fun e => by
    have h1 : ((gotL X).map Prod.snd).length = 0 := by rw [e]; rfl
    rw [List.length_map, gotL_len] at h1
    unfold RM.need at hc
    omega
  generalize hl : (gotL X).map Prod.snd = l at hne
  have hmax : ∀ i b, X.v i = some b → i ∈ zs → sle b.st (bestB l).st := fun i b hb hi => best_max _ l rfl b (by rw [← hl]; exact in_got (by rw [hg]; exact hi) hb)
  obtain ⟨j, hj, hjb⟩ : ∃ i, i ∈ X.g ∧ X.v i = some (bestB l) := got_in (by rw [hl]; exact best_mem hne)
  have low : ∀ t, (∀ b : Sp, sle b (bestB l).st → if s.isW then slt b t else sle b t) → Low zs B s.isW t := fun t ht => ⟨_, hmaj, fun i hi hs => by
    obtain ⟨b, hb⟩ := Option.isSome_iff_exists.1 hs
    exact ht _ ((ha i b hb).1.trans (hmax i b hb hi))⟩
  unfold setP
  cases hA : s.aim with
  | wr z =>
    have hw : s.isW = true := by unfold RM.isW; rw [hA]
    dsimp only
    split
    · exact ⟨hz, fun e => by cases e⟩
    · have hlow : Low zs B s.isW ⟨(bestB l).st.n + 1, s.cl⟩ := low _ (fun b hb => by rw [hw, if_pos rfl]; unfold sle at hb; unfold slt; dsimp only; omega)
      exact lay_MK hz hnd hlow (hV z _ hA rfl (by rw [hw] at hlow; exact hlow)) (fun _ => ⟨rfl, hA⟩) (fun hB => by
        have q := (hB j).trans (ha j _ hjb).1
        unfold sle at q
        unfold slt
        have e0 : spZ.n = 0 := rfl
        dsimp only
        omega)
  | rd n =>
    have hw : s.isW = false := by unfold RM.isW; rw [hA]
    have hlow : Low zs B s.isW (bestB l).st := low _ (fun b hb => by rw [hw]; exact hb)
    have hv : V (bestB l).st (bestB l).z := (ha j _ hjb).2.2 hw
    dsimp only
    split
    · rename_i hany
      refine lay_MK hz hnd hlow hv (fun e => by rw [hw] at e; cases e) (fun hB => ?_)
      obtain ⟨b, hb, ho⟩ := List.any_eq_true.1 hany
      obtain ⟨i, hi, hib⟩ := got_in (X := X) (by rw [hl]; exact hb)
      have q1 := (hB i).trans (ha i b hib).1
      have q2 := hmax i b hib (by rw [← hg]; exact hi)
      unfold othP at ho
      simp at ho
      unfold sle at q1 q2
      unfold slt
      omega
    · rename_i hany
      refine ⟨hz, fun _ => ⟨(by rw [hw] at hlow; exact hlow), ⟨_, hmaj, fun i hi hs => ?_⟩, fun _ => hv, fun e => ?_⟩⟩
      · obtain ⟨b, hb⟩ := Option.isSome_iff_exists.1 hs
        have h1 : othP (bestB l) b = false := by
          cases ho : othP (bestB l) b with
          | false => rfl
          | true => exact absurd (List.any_eq_true.2 ⟨b, by rw [← hl]; exact in_got (by rw [hg]; exact hi) hb, ho⟩) hany
        have h2 := (ha i b hb).2.1
        unfold othP at h1
        simp at h1
        unfold sle at h2 ⊢
        omega
      · have h' : false = true := e
        cases h'
theorem take_MK (h : MK zs B H V s) (hnd : zs.Nodup) (d : Mg) (z : List Int)
    (h1 : ∀ X, s.ph = .ask X → hitP s 11 d = true → d.fr.id ∈ zs → sle (B d.fr.id) d.st ∧ sle d.st (H d.fr.id) ∧ (¬ (d.st.n = 0 ∧ d.st.c = 0) → V d.st z))
    (h2 : ∀ b U, s.ph = .lay b U → hitP s 12 d = true → d.fr.id ∈ zs → sle b.st (H d.fr.id))
    (hV0 : ∀ n, s.aim = .rd n → V spZ (List.replicate n 0)) (hV : ∀ z t, s.aim = .wr z → t.c = s.cl → Low zs B true t → V t z) : MK zs B H V (takP s d z).1 := by
  have hz := h.gz
  have hp := h.ph
  unfold takP
  cases e : s.ph with
  | fresh => exact h
  | fin er st z => exact h
  | ask X =>
    rw [e] at hp
    obtain ⟨g1, g2, g3, g4⟩ := hp
    dsimp only
    cases hh : hitP s 11 d with
    | false => exact h
    | true =>
      rw [if_pos rfl]
      have key : d.fr.id ∈ zs → sle (B d.fr.id) (keepP s d z).st ∧ sle (keepP s d z).st (H d.fr.id) ∧ (s.isW = false → V (keepP s d z).st (keepP s d z).z) := fun hi => by
        obtain ⟨q1, q2, q3⟩ := h1 X e hh hi
        unfold keepP
        cases hA : s.aim with
        | wr z => exact ⟨q1, q2, fun hw => by unfold RM.isW at hw; rw [hA] at hw; cases hw⟩
        | rd n =>
          dsimp only
          by_cases h0 : d.st.n = 0 ∧ d.st.c = 0
          · rw [if_pos h0]
            have e0 : d.st = spZ := by
              cases hd : d.st with
              | mk a b =>
                rw [hd] at h0
                have h01 : a = 0 := h0.1
                have h02 : b = 0 := h0.2
                rw [h01, h02]
                rfl
            rw [e0] at q1 q2
            exact ⟨q1, q2, fun _ => hV0 n hA⟩
          · rw [if_neg h0]
            exact ⟨q1, q2, fun _ => q3 h0⟩
      have ans : ∀ i b, (takeS X d.fr.id (keepP s d z)).v i = some b → sle (B i) b.st ∧ sle b.st (H i) ∧ (s.isW = false → V b.st b.z) := fun i b hb => by
        rw [takeS_v] at hb
        split at hb
        · rename_i hm
          cases hb
          obtain ⟨hm1, rfl⟩ := hm
          exact key (by rw [← g1]; exact (may_cnt (b := keepP s d z) (by rw [g1]; exact hnd) hm1).2.2)
        · exact g4 i b hb
      cases ht : takeB X d.fr.id with
      | true =>
        rw [if_pos rfl]
        have ht' : mayB X d.fr.id = true ∧ X.need ≤ cnt X + 1 := by simpa [takeB] using ht
        obtain ⟨t1, t2, t3⟩ := may_cnt (b := keepP s d z) (by rw [g1]; exact hnd) ht'.1
        exact set_MK hz hnd (by rw [takeS_g, g1]) (by rw [t1, t2]; have := ht'.2; rw [g2] at this; omega) ans hV
      | false =>
        rw [if_neg (by simp)]
        refine ⟨hz, (by rw [takeS_g, g1] : _ = _), ?_, ?_, ans⟩
        · show (takeS X d.fr.id (keepP s d z)).need = s.need
          rw [← g2]; unfold takeS; split <;> rfl
        · show ((cnt (takeS X d.fr.id (keepP s d z)) : Nat) : Int) < s.need
          cases hm : mayB X d.fr.id with
          | false => rw [show takeS X d.fr.id (keepP s d z) = X from if_neg (by rw [hm]; simp)]; exact g3
          | true =>
            obtain ⟨t1, t2, t3⟩ := may_cnt (b := keepP s d z) (by rw [g1]; exact hnd) hm
            rw [t1, t2]
            have : ¬ X.need ≤ cnt X + 1 := by simpa [takeB, hm] using ht
            rw [g2] at this
            omega
  | lay b U =>
    rw [e] at hp
    obtain ⟨g1, g2, g3, g4, g5, g6, g7, g8⟩ := hp
    dsimp only
    cases hh : hitP s 12 d with
    | false => exact h
    | true =>
      rw [if_pos rfl]
      have ans : ∀ i u, (takeS U d.fr.id ()).v i = some u → sle b.st (H i) := fun i u hu => by
        rw [takeS_v] at hu
        split at hu
        · rename_i hm
          obtain ⟨hm1, rfl⟩ := hm
          exact h2 b U e hh (by rw [← g1]; exact (may_cnt (b := ()) (by rw [g1]; exact hnd) hm1).2.2)
        · exact g4 i u hu
      cases ht : takeB U d.fr.id with
      | true =>
        rw [if_pos rfl]
        have ht' : mayB U d.fr.id = true ∧ U.need ≤ cnt U + 1 := by simpa [takeB] using ht
        obtain ⟨t1, t2, t3⟩ := may_cnt (b := ()) (by rw [g1]; exact hnd) ht'.1
        have hmaj : Maj zs (fun i => ((takeS U d.fr.id ()).v i).isSome) := maj_cnt (by rw [takeS_g, g1]) (by rw [t1, t2]; have := ht'.2; rw [g2] at this; unfold RM.need at this; rw [hz] at this; omega)
        refine ⟨hz, fun _ => ⟨g5, ⟨_, hmaj, fun i hi hs => ?_⟩, fun hw => ?_, fun hw => ?_⟩⟩
        · obtain ⟨u, hu⟩ := Option.isSome_iff_exists.1 hs
          exact ans i u hu
        · have hw : s.isW = false := hw
          show V b.st (resP s b)
          unfold resP
          cases hA : s.aim with
          | wr z => unfold RM.isW at hw; rw [hA] at hw; cases hw
          | rd n => exact g6
        · have hw : s.isW = true := hw
          refine ⟨(g7 hw).1, ?_⟩
          show resP s b = []
          unfold resP
          rw [(g7 hw).2]
      | false =>
        rw [if_neg (by simp)]
        refine ⟨hz, (by rw [takeS_g, g1] : _ = _), ?_, ?_, ans, g5, g6, g7, g8⟩
        · show (takeS U d.fr.id ()).need = s.need
          rw [← g2]; unfold takeS; split <;> rfl
        · show ((cnt (takeS U d.fr.id ()) : Nat) : Int) < s.need
          cases hm : mayB U d.fr.id with
          | false => rw [show takeS U d.fr.id () = U from if_neg (by rw [hm]; simp)]; exact g3
          | true =>
            obtain ⟨t1, t2, t3⟩ := may_cnt (b := ()) (by rw [g1]; exact hnd) hm
            rw [t1, t2]
            have : ¬ U.need ≤ cnt U + 1 := by simpa [takeB, hm] using ht
            rw [g2] at this
            omega
end
end Go.Proofs.Ytgiokkcdgoloaaa.Md
namespace Go.Proofs.Ytgiokkcdgoloaaa.Md
open Go.RowKit
set_option linter.unusedVariables false
set_option linter.unusedSimpArgs false
structure Pm where
  k : Int
  fr : Ad
  too : Ad
  op : Int
  rd : Int
  ky : Ky
  st : Sp
  z : List Int
def mgP (p : Pm) : Mg := ⟨p.k, p.fr, p.too, p.op, p.rd, p.ky, p.st, spZ, slZ, cZ, bvZ, slZ, false⟩
structure Dd where
  wr : Bool
  cl : Int
  beg : Int
  en : Int
  z : List Int
  er : Int
  st : Sp
  rz : List Int
structure Wd where
  n : Nat
  held : Int → Bp
  m : Nat → Option RM
  at' : Nat → Nat
  rd : Nat → Int
  gone : Nat → Bool
  un : List Pm
  ds : List Dd
  ls : List (Sp × List Int)
  now : Int
  br : Bool
def upN {α : Type} (f : Nat → α) (c : Nat) (v : α) : Nat → α := fun k => if k = c then v else f k
def upI {α : Type} (f : Int → α) (c : Int) (v : α) : Int → α := fun k => if k = c then v else f k
def wdG (w : Wd) : List Int := (List.range w.n).map (fun (i : Nat) => (i : Int) + 1)
def sownW (n : Nat) : Wd := ⟨n, fun _ => bpZ, fun _ => none, fun _ => 0, fun _ => 0, fun _ => false, [], [], [], 0, false⟩
def outs (o : RM × To) : List Pm := o.2.ss.map (fun sv => ⟨o.2.k, ⟨true, o.1.cl⟩, ⟨false, sv⟩, o.1.op, o.1.rd, o.1.ky, o.2.st, o.2.z⟩)
def laidW (w : Wd) (t : Sp) (z : List Int) : Wd := match w.ls.find? (fun e => e.1.n == t.n && e.1.c == t.c) with
  | some e => { w with br := w.br || !(decide (e.2 = z)) }
  | none => { w with ls := w.ls ++ [(t, z)] }
def send1 (w : Wd) (p : Pm) : Wd :=
  let v := if p.k = 2 then laidW w p.st p.z else w
  if v.un.length < 300 then { v with un := v.un ++ [p] } else v
def sendW (w : Wd) (l : List Pm) : Wd := l.foldl send1 w
def endD (d : Dd) (now : Int) (er : Int) (st : Sp) (z : List Int) : Dd := { d with en := now, er := er, st := st, rz := z }
def lookW (w : Wd) (c : Nat) : Wd := match w.m c with
  | none => w
  | some s => match s.ph with
    | .fin er st z => { w with rd := upN w.rd c s.rd, now := w.now + 1, ds := w.ds.modify (w.at' c) (fun d => endD d (w.now + 1) er st z), m := upN w.m c none }
    | _ => { w with rd := upN w.rd c s.rd }
def keyW : Ky := ⟨1, 1, 1, 0⟩
def machW (w : Wd) (c : Nat) (wr : Bool) (z : List Int) : RM := ⟨(c : Int) + 1, (w.ds.length : Int) + 1, keyW, wdG w, w.rd c + 1, if wr then .wr z else .rd 3, .fresh⟩
def begW (w : Wd) (c : Nat) (wr : Bool) (z : List Int) : Wd :=
  if (w.m c).isSome || w.gone c then w else
    let o := begP (machW w c wr z)
    lookW (sendW { w with m := upN w.m c (some o.1), now := w.now + 1, at' := upN w.at' c w.ds.length, ds := w.ds ++ [⟨wr, (c : Int) + 1, w.now + 1, 0, z, 0, spZ, []⟩] } (outs o)) c
def newW (b : Bp) (t : Sp) (z : List Int) : Bp := if lessB b.st.n b.st.c t.n t.c then ⟨t, z⟩ else b
def servW (w : Wd) (p : Pm) : Wd :=
  if p.k = 1 then sendW w [⟨11, p.too, p.fr, p.op, p.rd, p.ky, (w.held p.too.id).st, (w.held p.too.id).z⟩]
  else if p.k = 2 then sendW { w with held := upI w.held p.too.id (newW (w.held p.too.id) p.st p.z) } [⟨12, p.too, p.fr, p.op, p.rd, p.ky, spZ, []⟩]
  else sendW { w with br := true } [⟨0, p.too, p.fr, p.op, p.rd, p.ky, spZ, []⟩]
def clieW (w : Wd) (p : Pm) (c : Nat) : Wd := match w.m c with
  | none => w
  | some s => if w.gone c then w else
    let o := takP s (mgP p) p.z
    lookW (sendW { w with m := upN w.m c (some o.1) } (outs o)) c
def delW (w : Wd) (p : Pm) : Wd :=
  if p.too.cl then (if p.too.id - 1 < 0 ∨ 4 ≤ p.too.id - 1 then { w with br := true } else clieW w p (p.too.id - 1).toNat)
  else if p.too.id - 1 < 0 ∨ (w.n : Int) ≤ p.too.id - 1 then { w with br := true } else servW w p
def tickW (w : Wd) (c : Nat) : Wd := match w.m c with
  | none => w
  | some s => if w.gone c then w else sendW w (outs (s, tikP s))
def rndW (a : Int) (n : Nat) : Nat := (a % (n : Int)).toNat
def evW (w : Wd) (k a : Int) (z : List Int) : Wd :=
  let c := rndW a 4
  let v := if k = 1 then begW w c true z else if k = 2 then begW w c false [] else if k = 6 then tickW w c else if k = 7 then { w with gone := upN w.gone c true } else w
  if v.un.length = 0 ∨ k < 3 ∨ 5 < k then v else
    let i := rndW a v.un.length
    match v.un[i]? with
    | none => v
    | some p =>
      let u := { v with un := v.un.take i ++ v.un.drop (i + 1) }
      if k = 3 then delW u p else if k = 5 then (if u.un.length < 300 then { u with un := u.un ++ [p, p] } else u) else u
end Go.Proofs.Ytgiokkcdgoloaaa.Md
namespace Go.Proofs.Ytgiokkcdgoloaaa.Md
open Go.RowKit
set_option linter.unusedVariables false
set_option linter.unusedSimpArgs false
def Wrote (w : Wd) (T : Nat → Option Sp) (t : Sp) (z : List Int) (by' : Int) : Prop := ∃ (j : Nat) (d : Dd), w.ds[j]? = some d ∧ d.wr = true ∧ d.cl = t.c ∧ d.z = z ∧ d.beg ≤ by' ∧ T j = some t
def Told (w : Wd) (T : Nat → Option Sp) (t : Sp) (z : List Int) (by' : Int) : Prop := (t = spZ ∧ z = List.replicate 3 0) ∨ Wrote w T t z by'
def hs (w : Wd) : Int → Sp := fun i => (w.held i).st
def UnOk (w : Wd) (G : Nat → Int → Sp) (T : Nat → Option Sp) (p : Pm) : Prop :=
  ∃ (j : Nat) (d : Dd), w.ds[j]? = some d ∧ p.op = (j : Int) + 1 ∧ p.ky = keyW ∧
    ((p.too.cl = false ∧ p.too.id ∈ wdG w ∧ p.fr = ⟨true, d.cl⟩ ∧ (p.k = 1 ∨ (p.k = 2 ∧ T j = some p.st ∧ Wrote w T p.st p.z w.now))) ∨
     (p.too = ⟨true, d.cl⟩ ∧ p.fr.cl = false ∧ p.fr.id ∈ wdG w ∧ ((p.k = 11 ∧ sle (G j p.fr.id) p.st ∧ sle p.st (hs w p.fr.id) ∧ (¬ (p.st.n = 0 ∧ p.st.c = 0) → Wrote w T p.st p.z w.now)) ∨ (p.k = 12 ∧ ∃ t, T j = some t ∧ sle t (hs w p.fr.id)))))
structure WInv (w : Wd) (G : Nat → Int → Sp) (T : Nat → Option Sp) : Prop where
  br : w.br = false
  act : ∀ c s, w.m c = some s → c < 4 ∧ s.cl = (c : Int) + 1 ∧ s.op = (w.at' c : Int) + 1 ∧ s.ky = keyW ∧ MK (wdG w) (G (w.at' c)) (hs w) (fun t z => Told w T t z w.now) s ∧
    (∃ d : Dd, w.ds[w.at' c]? = some d ∧ d.en = 0 ∧ d.cl = (c : Int) + 1 ∧ d.wr = s.isW ∧ (s.isW = true → s.aim = .wr d.z) ∧ (s.isW = false → s.aim = .rd 3)) ∧ (match s.ph with | .lay b _ => T (w.at' c) = some b.st | .ask _ => T (w.at' c) = none | _ => False)
  open' : ∀ (j : Nat) (d : Dd), w.ds[j]? = some d → d.en = 0 → ∃ c s, w.m c = some s ∧ w.at' c = j
  fin : ∀ (j : Nat) (d : Dd), w.ds[j]? = some d → d.en ≠ 0 → d.er = 0 → Low (wdG w) (G j) d.wr d.st ∧ Hold (wdG w) (hs w) d.st ∧ (d.wr = false → Told w T d.st d.rz d.en) ∧ (d.wr = true → d.st.c = d.cl ∧ d.rz = [])
  time : ∀ (j : Nat) (d : Dd), w.ds[j]? = some d → d.beg ≤ w.now ∧ (d.en ≠ 0 → d.beg < d.en ∧ d.en ≤ w.now)
  cls : ∀ (j : Nat) (d : Dd), w.ds[j]? = some d → 1 ≤ d.cl ∧ d.cl ≤ 4
  seq : ∀ (i j : Nat) (a b : Dd), i < j → w.ds[i]? = some a → w.ds[j]? = some b → a.cl = b.cl → a.en ≠ 0 ∧ a.en < b.beg
  past : ∀ (i j : Nat) (a b : Dd), w.ds[i]? = some a → w.ds[j]? = some b → a.en ≠ 0 → a.er = 0 → a.en < b.beg → Hold (wdG w) (G j) a.st
  tg : ∀ (j : Nat) (d : Dd) (t : Sp), w.ds[j]? = some d → T j = some t → Low (wdG w) (G j) d.wr t ∧ (d.wr = true → t.c = d.cl) ∧ (d.en ≠ 0 → d.er = 0 ∧ d.st = t)
  nn : 0 ≤ w.now
  tn : ∀ j : Nat, w.ds.length ≤ j → T j = none
  low : ∀ j i, sle spZ (G j i)
  low' : ∀ i, sle spZ (hs w i)
  mono : ∀ j i, sle (G j i) (hs w i)
  held : ∀ i, ¬ ((hs w i).n = 0 ∧ (hs w i).c = 0) → Wrote w T (w.held i).st (w.held i).z w.now
  msg : ∀ p, p ∈ w.un → UnOk w G T p
  laid : ∀ e, e ∈ w.ls → Wrote w T e.1 e.2 w.now
def RestsW (w : Wd) (a : Dd) : Prop := if a.wr = true then a.st.c = a.cl ∧ a.rz = [] else if a.st.n = 0 ∧ a.st.c = 0 then a.rz = List.replicate 3 0 else ∃ (j : Nat) (d : Dd), w.ds[j]? = some d ∧ d.wr = true ∧ d.cl = a.st.c ∧ d.z = a.rz ∧ d.beg ≤ a.en ∧ (d.en = 0 ∨ d.er ≠ 0 ∨ d.st = a.st)
def RightW (w : Wd) : Prop := w.br = false ∧ ∀ (i : Nat) (a : Dd), w.ds[i]? = some a → a.en ≠ 0 → a.er = 0 → RestsW w a ∧ ∀ (k : Nat) (b : Dd), k ≠ i → w.ds[k]? = some b → b.en ≠ 0 → b.er = 0 → ¬ (a.wr = true ∧ b.wr = true ∧ a.st = b.st) ∧ (a.en < b.beg → if b.wr then slt a.st b.st else sle a.st b.st)
section
variable {w : Wd} {G : Nat → Int → Sp} {T : Nat → Option Sp}
theorem WInv.pair (h : WInv w G T) {i k : Nat} {a b : Dd} (ha : w.ds[i]? = some a) (hb : w.ds[k]? = some b) (ea : a.en ≠ 0) (oa : a.er = 0) (eb : b.en ≠ 0) (ob : b.er = 0) (hlt : a.en < b.beg) : if b.wr then slt a.st b.st else sle a.st b.st :=
  (h.past i k a b ha hb ea oa hlt).low (h.fin k b hb eb ob).1
theorem WInv.two (h : WInv w G T) {i k : Nat} {a b : Dd} (hik : k ≠ i) (ha : w.ds[i]? = some a) (hb : w.ds[k]? = some b) (ea : a.en ≠ 0) (oa : a.er = 0) (eb : b.en ≠ 0) (ob : b.er = 0) (wa : a.wr = true) (wb : b.wr = true) : a.st ≠ b.st := fun e => by
  have c1 := ((h.fin i a ha ea oa).2.2.2 wa).1
  have c2 := ((h.fin k b hb eb ob).2.2.2 wb).1
  have hc : a.cl = b.cl := by rw [← c1, ← c2, e]
  rcases Nat.lt_or_gt_of_ne hik with hlt | hlt
  · have q := h.seq k i b a hlt hb ha hc.symm
    have p := h.pair hb ha eb ob ea oa q.2
    rw [wa, if_pos rfl] at p
    exact p.ne e.symm
  · have q := h.seq i k a b hlt ha hb hc
    have p := h.pair ha hb ea oa eb ob q.2
    rw [wb, if_pos rfl] at p
    exact p.ne e
theorem WInv.right (h : WInv w G T) : RightW w := by
  refine ⟨h.br, fun i a ha ea oa => ⟨?_, fun k b hik hb eb ob => ⟨fun e => h.two hik ha hb ea oa eb ob e.1 e.2.1 e.2.2, fun hlt => h.pair ha hb ea oa eb ob hlt⟩⟩⟩
  obtain ⟨f1, f2, f3, f4⟩ := h.fin i a ha ea oa
  unfold RestsW
  by_cases hw : a.wr = true
  · rw [if_pos hw]; exact f4 hw
  · rw [if_neg hw]
    have hw' : a.wr = false := by simpa using hw
    rcases f3 hw' with ⟨e1, e2⟩ | ⟨j, d, q1, q2, q3, q4, q5, q6⟩
    · rw [if_pos (by rw [e1]; exact ⟨rfl, rfl⟩)]; exact e2
    · split
      · rename_i h0
        exfalso
        have hcl : d.cl = 0 := by rw [q3]; exact h0.2
        have := (h.cls j d q1).1
        omega
      · refine ⟨j, d, q1, q2, q3, q4, q5, ?_⟩
        by_cases he : d.en = 0
        · exact .inl he
        · exact .inr (.inr ((h.tg j d _ q1 q6).2.2 he).2)
end
end Go.Proofs.Ytgiokkcdgoloaaa.Md
