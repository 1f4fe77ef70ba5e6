import Derived.Test.YtpabpeppgpeaoaaRh
namespace Go.Proofs.Ytpabpeppgpeaoaa
open Go.RowKit Gt
set_option linter.unusedVariables false
set_option linter.unusedSimpArgs false
/-- The mend's words as this seat's. -/
def jC (c : Md.Cm) : Cm := ⟨c.k, c.cl, c.op, c.nm, c.f0, c.f1, c.g0, c.g1, c.sz⟩
def uS (s : Md.Sp) : Sp := ⟨s.n, s.c⟩
def jK (k : Md.Ky) : Ky := ⟨k.k, k.a, k.b, k.c⟩
def jL (s : Md.Sl) : Sl := ⟨s.a, s.l, s.k⟩
def uM (m : Md.Mg) : Ms := ⟨m.k, m.fr.cl, m.fr.id, m.too.cl, m.too.id, m.op, m.rd, jK m.ky, uS m.st, uS m.hd, jL m.bl, jC m.c, m.bk.up, jL m.bk.e, jL m.bk.l, jL m.cm, m.mo⟩
def vS (v : Vt) : Md.Sp := ⟨v.n, v.b⟩
def vC (v : Vt) : Md.Cm := ⟨v.k, v.cl, v.op, v.nm, v.f0, v.f1, v.g0, v.g1, v.sz⟩
theorem lit_nodup (l : List Int) (h : l.Nodup) (i j : Nat) (z : Int) (hi : l[i]? = some z) (hj : l[j]? = some z) : i = j :=
  (List.getElem?_inj (List.getElem?_eq_some_iff.1 hi).1 h).1 (hi.trans hj.symm)
theorem uq_self_gen : ∀ (l acc : List Int), (acc ++ l).Nodup → l.foldl (fun acc n => if n ∈ acc then acc else acc ++ [n]) acc = acc ++ l
  | [], acc, _ => by simp
  | z :: l, acc, h => by
    have hz : z ∉ acc := by
      intro e
      have := List.nodup_append.1 h
      exact this.2.2 z e z (by simp) rfl
    rw [List.foldl_cons, if_neg hz, uq_self_gen l (acc ++ [z]) (by simpa using h)]
    simp
theorem uq_self {l : List Int} (h : l.Nodup) : uq l = l := by
  unfold uq
  rw [uq_self_gen l [] (by simpa using h)]
  rfl
theorem map_set {zs : List Int} (hn : zs.Nodup) {i : Nat} {z : Int} (hz : zs[i]? = some z) {f f' : Int → Bool} (h1 : f' z = true) (h2 : ∀ y, y ≠ z → f' y = f y) : (zs.map f).set i true = zs.map f' := by
  apply List.ext_getElem?
  intro j
  rw [List.getElem?_set]
  by_cases e : i = j
  · subst e
    have hi := (List.getElem?_eq_some_iff.1 hz).1
    simp [hi, hz, h1]
    have := (List.getElem?_eq_some_iff.1 hz).2
    rw [this, h1]
  · rw [if_neg e, List.getElem?_map, List.getElem?_map]
    cases hj : zs[j]? with
    | none => rfl
    | some y =>
      have : y ≠ z := fun e2 => e (lit_nodup zs hn i j z hz (e2 ▸ hj))
      simp [h2 y this]
theorem cntB_map (zs : List Int) (f : Int → Bool) : Md.cntB (zs.map f) = zs.countP f := by
  unfold Md.cntB
  rw [List.countP_map]
  rfl
/-- What has answered, by places and by servers. -/
structure QRel {α : Type} (zs : List Int) (X : TS Unit) (Y : TS α) (qa qc : List Bool) : Prop where
  nd : zs.Nodup
  gx : X.g = zs
  gy : Y.g = zs
  nx : X.need = (zs.length : Int)
  ny : Y.need = needN zs.length
  ea : qa = zs.map (fun z => (X.v z).isSome)
  ec : qc = zs.map (fun z => (Y.v z).isSome)
  few : cnt Y < zs.length / 2 + 1
  le : ∀ z, (Y.v z).isSome = true → (X.v z).isSome = true
theorem QRel.new {α : Type} {zs : List Int} (hn : zs.Nodup) : QRel zs (tNew Unit zs (zs.length : Int)) (tNew α zs (needN zs.length)) (List.replicate zs.length false) (List.replicate zs.length false) where
  nd := hn
  gx := uq_self hn
  gy := uq_self hn
  nx := rfl
  ny := rfl
  ea := by
    show _ = zs.map (fun z => false)
    rw [List.map_const']
  ec := by
    show _ = zs.map (fun z => false)
    rw [List.map_const']
  few := by rw [cnt_new]; omega
  le := fun z h => by cases h
theorem miss_iff {zs : List Int} {X : TS Unit} (gx : X.g = zs) {z : Int} (hz : z ∈ zs) : z ∈ missL X ↔ (X.v z).isSome = false := by
  unfold missL
  rw [gx, List.mem_filter]
  cases X.v z <;> simp [hz]
theorem cnt_lt {zs : List Int} {X : TS Unit} (gx : X.g = zs) {z : Int} (hz : z ∈ zs) (hv : (X.v z).isSome = false) : cnt X < zs.length := by
  unfold cnt
  rw [gx]
  rcases Nat.lt_or_ge (zs.countP fun n => (X.v n).isSome) zs.length with h | h
  · exact h
  · have h1 := List.countP_le_length (p := fun n => (X.v n).isSome) (l := zs)
    have h2 := (List.countP_eq_length.1 (Nat.le_antisymm h1 h)) z hz
    rw [hv] at h2
    cases h2
theorem hear_v {zs : List Int} {X : TS Unit} (gx : X.g = zs) (nx : X.need = (zs.length : Int)) {z : Int} (hz : z ∈ zs) (hv : (X.v z).isSome = false) : hearS X z = putS X z () := by
  unfold hearS
  rw [if_pos ((miss_iff gx hz).2 hv)]
  unfold takeS
  rw [if_pos]
  have h1 := cnt_lt gx hz hv
  unfold mayB enB
  rw [gx, nx]
  simp only [Bool.and_eq_true, decide_eq_true_eq, Bool.not_eq_true', decide_eq_false_iff_not]
  refine ⟨⟨hz, ?_⟩, by omega⟩
  cases h : X.v z
  · rfl
  · rw [h] at hv; cases hv
theorem put_some {α : Type} (X : TS α) (z : Int) (v : α) : ((putS X z v).v z).isSome = true := by simp [putS]
theorem put_ne {α : Type} (X : TS α) (z y : Int) (v : α) (h : y ≠ z) : ((putS X z v).v y).isSome = (X.v y).isSome := by simp [putS, h]
theorem may_y {α : Type} {zs : List Int} {X : TS Unit} {Y : TS α} {qa qc : List Bool} (h : QRel zs X Y qa qc) {z : Int} (hz : z ∈ zs) (hv : (X.v z).isSome = false) : mayB Y z = true ∧ (Y.v z).isSome = false := by
  have hy : (Y.v z).isSome = false := by
    cases e : (Y.v z).isSome
    · rfl
    · rw [h.le z e] at hv; cases hv
  refine ⟨?_, hy⟩
  unfold mayB enB
  rw [h.gy, h.ny]
  have hf := h.few
  have hnn : ¬ (needN zs.length ≤ ((cnt Y : Nat) : Int)) := by unfold needN; omega
  have hvn : (Y.v z).isNone = true := by
    cases e : Y.v z
    · rfl
    · rw [e] at hy; cases hy
  rw [decide_eq_true hz, hvn, decide_eq_false hnn]
  rfl
theorem takeB_iff {α : Type} {zs : List Int} {X : TS Unit} {Y : TS α} {qa qc : List Bool} (h : QRel zs X Y qa qc) {z : Int} {i : Nat} (hz : zs[i]? = some z) (hv : (X.v z).isSome = false) (v : α) :
    takeS Y z v = putS Y z v ∧ takeB Y z = decide (¬ Md.cntB (qc.set i true) < zs.length / 2 + 1) ∧ qc.set i true = zs.map (fun y => ((putS Y z v).v y).isSome) ∧ Md.cntB (qc.set i true) = cnt Y + 1 := by
  have hm : z ∈ zs := List.mem_of_getElem? hz
  obtain ⟨h1, h2⟩ := may_y h hm hv
  have e1 : takeS Y z v = putS Y z v := by unfold takeS; rw [if_pos h1]
  have e2 : qc.set i true = zs.map (fun y => ((putS Y z v).v y).isSome) := by
    rw [h.ec]
    exact map_set h.nd hz (put_some Y z v) (fun y hy => put_ne Y z y v hy)
  have e3 : Md.cntB (qc.set i true) = cnt Y + 1 := by
    rw [e2, cntB_map]
    have hvn : Y.v z = none := by
      cases e : Y.v z
      · rfl
      · rw [e] at h2; cases h2
    have := cnt_put (v := v) (by rw [h.gy]; exact h.nd) (by rw [h.gy]; exact hm) hvn
    unfold cnt at this
    rw [show (putS Y z v).g = Y.g from rfl, h.gy] at this
    unfold cnt
    rw [h.gy]
    exact this
  refine ⟨e1, ?_, e2, e3⟩
  unfold takeB
  rw [h1, h.ny, e3, Bool.true_and]
  unfold needN
  congr 1
  apply propext
  constructor <;> intro hh <;> omega
theorem QRel.put {α : Type} {zs : List Int} {X : TS Unit} {Y : TS α} {qa qc : List Bool} (h : QRel zs X Y qa qc) {z : Int} {i : Nat} (hz : zs[i]? = some z) (hv : (X.v z).isSome = false) (v : α) (hf : Md.cntB (qc.set i true) < zs.length / 2 + 1) :
    QRel zs (hearS X z) (takeS Y z v) (qa.set i true) (qc.set i true) := by
  have hm : z ∈ zs := List.mem_of_getElem? hz
  obtain ⟨e1, _, e2, e3⟩ := takeB_iff h hz hv v
  have hh := hear_v h.gx h.nx hm hv
  rw [hh, e1]
  refine ⟨h.nd, h.gx, h.gy, h.nx, h.ny, ?_, e2, ?_, ?_⟩
  · rw [h.ea]
    exact map_set h.nd hz (put_some X z ()) (fun y hy => put_ne X z y () hy)
  · have hc : cnt (putS Y z v) = Md.cntB (qc.set i true) := by
      rw [e2, cntB_map]
      unfold cnt
      rw [show (putS Y z v).g = Y.g from rfl, h.gy]
    omega
  · intro y hy
    by_cases e : y = z
    · subst e; exact put_some X y ()
    · rw [put_ne X z y () e]
      rw [put_ne Y z y v e] at hy
      exact h.le y hy

/-- Both proposers stand at the same place. -/
structure Same0 (s : PS) (x : Md.Rs) : Prop where
  cl : x.cl = s.cl
  op : x.op = s.op
  ky : jK x.ky = s.ky
  zs : x.zs = s.zs
  mine : jC x.mine = s.mine
  n : x.n = s.n
  nt : x.nt = s.top
  rd : x.rd = s.rd
  nd : s.zs.Nodup
  tp : s.top ≤ 9223372036854775807
def EndR (x : Md.Rs) (a b c : Bool) : Prop := x.de = a ∧ x.tr = b ∧ x.wo = c
structure LiveR (s : PS) : Prop where
  n : okN s.n = true
  rd : okN s.rd = true
  tp : s.n ≤ s.top
def PhR (B : Md.Bv → List En → List La → Prop) (s : PS) (x : Md.Rs) : Ph → Prop
  | .fresh => x.ph = 0 ∧ EndR x false false false ∧ x.dc = Md.cZ ∧ x.bk = Md.bvZ ∧ x.nk = false ∧ s.top = s.n ∧ x.qa = List.replicate s.zs.length false ∧ x.qc = List.replicate s.zs.length false ∧ x.qh.length = s.zs.length ∧ x.qm.length = s.zs.length
  | .pre X Y rf => x.ph = 1 ∧ EndR x false false false ∧ x.dc = Md.cZ ∧ x.bk = Md.bvZ ∧ x.nk = rf ∧ LiveR s ∧ QRel s.zs X Y x.qa x.qc ∧ x.qh.length = s.zs.length ∧ x.qm.length = s.zs.length ∧ (∀ (i : Nat) z v, s.zs[i]? = some z → Y.v z = some v → x.qh[i]? = some (vS v) ∧ x.qm[i]? = some (vC v))
  | .acc c X Y rf => x.ph = 2 ∧ EndR x false false false ∧ x.dc = Md.cZ ∧ x.bk = Md.bvZ ∧ x.nk = rf ∧ LiveR s ∧ jC x.ch = c ∧ QRel s.zs X Y x.qa x.qc
  | .dec c => x.ph = 3 ∧ EndR x true false false ∧ jC x.dc = c ∧ x.bk = Md.bvZ
  | .tri u es ls => x.ph = 3 ∧ EndR x false true false ∧ x.dc = Md.cZ ∧ x.bk.up = u ∧ B x.bk es ls
  | .worn => x.ph = 3 ∧ EndR x false false true ∧ x.dc = Md.cZ ∧ x.bk = Md.bvZ
structure Rel (B : Md.Bv → List En → List La → Prop) (s : PS) (x : Md.Rs) : Prop where
  s0 : Same0 s x
  ph : PhR B s x s.ph

variable {B : Md.Bv → List En → List La → Prop}
/-- Two answers are the same. -/
def Both (B : Md.Bv → List En → List La → Prop) (a : PS × List Ms) (b : Md.Rs × List Md.Mg) : Prop := Rel B a.1 b.1 ∧ a.2 = b.2.map uM
theorem eqA_iff (a : Bool) (b : Int) (c : Int) : eqA a b true c = (a && (b == c)) := by
  unfold eqA
  cases a <;> rfl
end Go.Proofs.Ytpabpeppgpeaoaa
