import Derived.Test.YtpabpeppgpeaoaaUa
import Derived.Test.YtpabpeppgpeaoaaZp
namespace Go.Proofs.Ytpabpeppgpeaoaa
open Go.RowKit Gt
set_option linter.unusedVariables false
set_option linter.unusedSimpArgs false

/-- The mend's words as this seat's. -/
def jC (c : Md.Cm) : Cm := ⟨c.k, c.cl, c.op, c.nm, c.f0, c.f1, c.g0, c.g1, c.sz⟩
def uS (s : Md.Sp) : Sp := ⟨s.n, s.c⟩
def jK (k : Md.Ky) : Ky := ⟨k.k, k.a, k.b, k.c⟩
def jL (s : Md.Sl) : Sl := ⟨s.a, s.l, s.k⟩
def uM (m : Md.Mg) : Ms := ⟨m.k, m.fr.cl, m.fr.id, m.too.cl, m.too.id, m.op, m.rd, jK m.ky, uS m.st, uS m.hd, jL m.bl, jC m.c, m.bk.up, jL m.bk.e, jL m.bk.l, jL m.cm, m.mo⟩
def vS (v : Vt) : Md.Sp := ⟨v.n, v.b⟩
def vC (v : Vt) : Md.Cm := ⟨v.k, v.cl, v.op, v.nm, v.f0, v.f1, v.g0, v.g1, v.sz⟩
theorem map_set {zs : List Int} (hn : zs.Nodup) {i : Nat} {z : Int} (hz : zs[i]? = some z) {f f' : Int → Bool} (h1 : f' z = true) (h2 : ∀ y, y ≠ z → f' y = f y) : (zs.map f).set i true = zs.map f' := by
  apply List.ext_getElem?
  intro j
  rw [List.getElem?_set]
  by_cases e : i = j
  · subst e
    have hi := (List.getElem?_eq_some_iff.1 hz).1
    simp [hi, hz, h1]
    have := (List.getElem?_eq_some_iff.1 hz).2
    rw [this, h1]
  · rw [if_neg e, List.getElem?_map, List.getElem?_map]
    cases hj : zs[j]? with
    | none => rfl
    | some y =>
      have : y ≠ z := fun e2 => e (lit_nodup zs hn i j z hz (e2 ▸ hj))
      simp [h2 y this]
theorem cntB_map (zs : List Int) (f : Int → Bool) : Md.cntB (zs.map f) = zs.countP f := by
  unfold Md.cntB
  rw [List.countP_map]
  rfl
/-- What has answered, by places and by servers. -/
structure QRel {α : Type} (zs : List Int) (X : TS Unit) (Y : TS α) (qa qc : List Bool) : Prop where
  nd : zs.Nodup
  gx : X.g = zs
  gy : Y.g = zs
  nx : X.need = (zs.length : Int)
  ny : Y.need = needN zs.length
  ea : qa = zs.map (fun z => (X.v z).isSome)
  ec : qc = zs.map (fun z => (Y.v z).isSome)
  few : cnt Y < zs.length / 2 + 1
  le : ∀ z, (Y.v z).isSome = true → (X.v z).isSome = true
theorem QRel.new {α : Type} {zs : List Int} (hn : zs.Nodup) : QRel zs (tNew Unit zs (zs.length : Int)) (tNew α zs (needN zs.length)) (List.replicate zs.length false) (List.replicate zs.length false) where
  nd := hn
  gx := uq_self hn
  gy := uq_self hn
  nx := rfl
  ny := rfl
  ea := by
    show _ = zs.map (fun z => false)
    rw [List.map_const']
  ec := by
    show _ = zs.map (fun z => false)
    rw [List.map_const']
  few := by rw [cnt_new]; omega
  le := fun z h => by cases h
theorem miss_iff {zs : List Int} {X : TS Unit} (gx : X.g = zs) {z : Int} (hz : z ∈ zs) : z ∈ missL X ↔ (X.v z).isSome = false := by
  unfold missL
  rw [gx, List.mem_filter]
  cases X.v z <;> simp [hz]
theorem hear_v {zs : List Int} {X : TS Unit} (gx : X.g = zs) (nx : X.need = (zs.length : Int)) {z : Int} (hz : z ∈ zs) (hv : (X.v z).isSome = false) : hearS X z = putS X z () := by
  unfold hearS
  rw [if_pos ((miss_iff gx hz).2 hv)]
  unfold takeS
  rw [if_pos]
  have h1 := cnt_lt gx hz hv
  unfold mayB enB
  rw [gx, nx]
  simp only [Bool.and_eq_true, decide_eq_true_eq, Bool.not_eq_true', decide_eq_false_iff_not]
  refine ⟨⟨hz, ?_⟩, by omega⟩
  cases h : X.v z
  · rfl
  · rw [h] at hv; cases hv
theorem put_some {α : Type} (X : TS α) (z : Int) (v : α) : ((putS X z v).v z).isSome = true := by simp [putS]
theorem put_ne {α : Type} (X : TS α) (z y : Int) (v : α) (h : y ≠ z) : ((putS X z v).v y).isSome = (X.v y).isSome := by simp [putS, h]
theorem may_y {α : Type} {zs : List Int} {X : TS Unit} {Y : TS α} {qa qc : List Bool} (h : QRel zs X Y qa qc) {z : Int} (hz : z ∈ zs) (hv : (X.v z).isSome = false) : mayB Y z = true ∧ (Y.v z).isSome = false := by
  have hy : (Y.v z).isSome = false := by
    cases e : (Y.v z).isSome
    · rfl
    · rw [h.le z e] at hv; cases hv
  refine ⟨?_, hy⟩
  unfold mayB enB
  rw [h.gy, h.ny]
  have hf := h.few
  have hnn : ¬ (needN zs.length ≤ ((cnt Y : Nat) : Int)) := by unfold needN; omega
  have hvn : (Y.v z).isNone = true := by
    cases e : Y.v z
    · rfl
    · rw [e] at hy; cases hy
  rw [decide_eq_true hz, hvn, decide_eq_false hnn]
  rfl
theorem takeB_iff {α : Type} {zs : List Int} {X : TS Unit} {Y : TS α} {qa qc : List Bool} (h : QRel zs X Y qa qc) {z : Int} {i : Nat} (hz : zs[i]? = some z) (hv : (X.v z).isSome = false) (v : α) :
    takeS Y z v = putS Y z v ∧ takeB Y z = decide (¬ Md.cntB (qc.set i true) < zs.length / 2 + 1) ∧ qc.set i true = zs.map (fun y => ((putS Y z v).v y).isSome) ∧ Md.cntB (qc.set i true) = cnt Y + 1 := by
  have hm : z ∈ zs := List.mem_of_getElem? hz
  obtain ⟨h1, h2⟩ := may_y h hm hv
  have e1 : takeS Y z v = putS Y z v := by unfold takeS; rw [if_pos h1]
  have e2 : qc.set i true = zs.map (fun y => ((putS Y z v).v y).isSome) := by
    rw [h.ec]
    exact map_set h.nd hz (put_some Y z v) (fun y hy => put_ne Y z y v hy)
  have e3 : Md.cntB (qc.set i true) = cnt Y + 1 := by
    rw [e2, cntB_map]
    have hvn : Y.v z = none := by
      cases e : Y.v z
      · rfl
      · rw [e] at h2; cases h2
    have := cnt_put (v := v) (by rw [h.gy]; exact h.nd) (by rw [h.gy]; exact hm) hvn
    unfold cnt at this
    rw [show (putS Y z v).g = Y.g from rfl, h.gy] at this
    unfold cnt
    rw [h.gy]
    exact this
  refine ⟨e1, ?_, e2, e3⟩
  unfold takeB
  rw [h1, h.ny, e3, Bool.true_and]
  unfold needN
  congr 1
  apply propext
  constructor <;> intro hh <;> omega
theorem QRel.put {α : Type} {zs : List Int} {X : TS Unit} {Y : TS α} {qa qc : List Bool} (h : QRel zs X Y qa qc) {z : Int} {i : Nat} (hz : zs[i]? = some z) (hv : (X.v z).isSome = false) (v : α) (hf : Md.cntB (qc.set i true) < zs.length / 2 + 1) :
    QRel zs (hearS X z) (takeS Y z v) (qa.set i true) (qc.set i true) := by
  have hm : z ∈ zs := List.mem_of_getElem? hz
  obtain ⟨e1, _, e2, e3⟩ := takeB_iff h hz hv v
  have hh := hear_v h.gx h.nx hm hv
  rw [hh, e1]
  refine ⟨h.nd, h.gx, h.gy, h.nx, h.ny, ?_, e2, ?_, ?_⟩
  · rw [h.ea]
    exact map_set h.nd hz (put_some X z ()) (fun y hy => put_ne X z y () hy)
  · have hc : cnt (putS Y z v) = Md.cntB (qc.set i true) := by
      rw [e2, cntB_map]
      unfold cnt
      rw [show (putS Y z v).g = Y.g from rfl, h.gy]
    omega
  · intro y hy
    by_cases e : y = z
    · subst e; exact put_some X y ()
    · rw [put_ne X z y () e]
      rw [put_ne Y z y v e] at hy
      exact h.le y hy
theorem QRel.nack {α : Type} {zs : List Int} {X : TS Unit} {Y : TS α} {qa qc : List Bool} (h : QRel zs X Y qa qc) {z : Int} {i : Nat} (hz : zs[i]? = some z) (hv : (X.v z).isSome = false) : QRel zs (hearS X z) Y (qa.set i true) qc := by
  have hm : z ∈ zs := List.mem_of_getElem? hz
  rw [hear_v h.gx h.nx hm hv]
  refine ⟨h.nd, h.gx, h.gy, h.nx, h.ny, ?_, h.ec, h.few, ?_⟩
  · rw [h.ea]
    exact map_set h.nd hz (put_some X z ()) (fun y hy => put_ne X z y () hy)
  · intro y hy
    by_cases e : y = z
    · subst e; exact put_some X y ()
    · rw [put_ne X z y () e]; exact h.le y hy
end Go.Proofs.Ytpabpeppgpeaoaa
namespace Go.Proofs.Ytpabpeppgpeaoaa
open Go.RowKit Gt
set_option linter.unusedVariables false
set_option linter.unusedSimpArgs false

/-- Both proposers stand at the same place. -/
structure Same0 (s : PS) (x : Md.Rs) : Prop where
  cl : x.cl = s.cl
  op : x.op = s.op
  ky : jK x.ky = s.ky
  zs : x.zs = s.zs
  mine : jC x.mine = s.mine
  n : x.n = s.n
  nt : x.nt = s.top
  rd : x.rd = s.rd
  nd : s.zs.Nodup
  tp : s.top ≤ 9223372036854775807
def EndR (x : Md.Rs) (a b c : Bool) : Prop := x.de = a ∧ x.tr = b ∧ x.wo = c
structure LiveR (s : PS) : Prop where
  n : okN s.n = true
  rd : okN s.rd = true
  tp : s.n ≤ s.top
def PhR (B : Md.Bv → List En → List La → Prop) (s : PS) (x : Md.Rs) : Ph → Prop
  | .fresh => x.ph = 0 ∧ EndR x false false false ∧ x.dc = Md.cZ ∧ x.bk = Md.bvZ ∧ x.nk = false ∧ s.top = s.n ∧ x.qa = List.replicate s.zs.length false ∧ x.qc = List.replicate s.zs.length false ∧ x.qh.length = s.zs.length ∧ x.qm.length = s.zs.length
  | .pre X Y rf => x.ph = 1 ∧ EndR x false false false ∧ x.dc = Md.cZ ∧ x.bk = Md.bvZ ∧ x.nk = rf ∧ LiveR s ∧ QRel s.zs X Y x.qa x.qc ∧ x.qh.length = s.zs.length ∧ x.qm.length = s.zs.length ∧ (∀ (i : Nat) z v, s.zs[i]? = some z → Y.v z = some v → x.qh[i]? = some (vS v) ∧ x.qm[i]? = some (vC v))
  | .acc c X Y rf => x.ph = 2 ∧ EndR x false false false ∧ x.dc = Md.cZ ∧ x.bk = Md.bvZ ∧ x.nk = rf ∧ LiveR s ∧ jC x.ch = c ∧ QRel s.zs X Y x.qa x.qc
  | .dec c => x.ph = 3 ∧ EndR x true false false ∧ jC x.dc = c ∧ x.bk = Md.bvZ
  | .tri u es ls => x.ph = 3 ∧ EndR x false true false ∧ x.dc = Md.cZ ∧ x.bk.up = u ∧ B x.bk es ls
  | .worn => x.ph = 3 ∧ EndR x false false true ∧ x.dc = Md.cZ ∧ x.bk = Md.bvZ
structure Rel (B : Md.Bv → List En → List La → Prop) (s : PS) (x : Md.Rs) : Prop where
  s0 : Same0 s x
  ph : PhR B s x s.ph

end Go.Proofs.Ytpabpeppgpeaoaa
namespace Go.Proofs.Ytpabpeppgpeaoaa
open Go.RowKit Gt
set_option linter.unusedVariables false
set_option linter.unusedSimpArgs false

variable {B : Md.Bv → List En → List La → Prop}
/-- Two answers are the same. -/
def Both (B : Md.Bv → List En → List La → Prop) (a : PS × List Ms) (b : Md.Rs × List Md.Mg) : Prop := Rel B a.1 b.1 ∧ a.2 = b.2.map uM
end Go.Proofs.Ytpabpeppgpeaoaa
namespace Go.Proofs.Ytpabpeppgpeaoaa.Md
open Go.RowKit
set_option linter.unusedVariables false
set_option linter.unusedSimpArgs false

structure RdM (w : World) (s : Sl) (l : List Mg) : Prop where
  row : RowsAt 30 w s.a (l.map Mg.cs)
  len : l.length = s.l
theorem RdM.no {w w' : World} {s : Sl} {l : List Mg} (h : RdM w s l) (hk : Kept No w w') : RdM w' s l := ⟨h.row.no hk, h.len⟩
theorem mgL_c (l : List Mg) : ∀ x ∈ l.map Mg.cs, x.length = 30 := by intro x hx; obtain ⟨s, _, rfl⟩ := List.mem_map.1 hx; rfl
theorem OwM.rd {w : World} {b : Nat} {s : Sl} {l : List Mg} (h : OwM w b s l) : RdM w s l := ⟨Own.rows h.own (mgL_c l) (by omega), h.len⟩
theorem RdM.at {w : World} {s : Sl} {l : List Mg} (h : RdM w s l) {i : Nat} {m : Mg} (hm : l[i]? = some m) : ∃ b o, s.a = some ⟨b, o, none⟩ ∧ ∀ (j : Nat) v, (Mg.cs m)[j]? = some v → w.cell? ⟨b, o + i * 30 + j, none⟩ = some v :=
  h.row i (Mg.cs m) (by rw [List.getElem?_map, hm]; rfl)
end Go.Proofs.Ytpabpeppgpeaoaa.Md
namespace Go.Proofs.Ytpabpeppgpeaoaa
open Go.RowKit Gt
set_option linter.unusedVariables false
set_option linter.unusedSimpArgs false

theorem RfAt.cut {w : World} {J : Nat → Prop} {r : Nat} {x : Md.Rs} (h : Md.RfAt w J r x) : Md.RfAt w (fun k => J k ∧ k < w.heap.size ∧ NotM w k) r x := by
  obtain ⟨g, ba, bc, bh, bm, h⟩ := h
  refine ⟨g, ba, bc, bh, bm, ⟨Kept.refl _ _, h.fq.box, fun i g T cs hi => .inr ⟨(h.fq.low i g T cs hi).elim (fun e => absurd (h.fq.box i g T cs hi).lt (by omega)) id, (h.fq.box i g T cs hi).lt, (h.fq.box i g T cs hi).notM ?_⟩, h.fq.inj⟩, h.gr, fun k e => ⟨h.gj k e, h.gr.own.lt e, h.gr.own.notM (by decide) e⟩, h.la, h.lc, h.lh, h.lm, h.hn⟩
  match i, hi with
  | 0, hi => cases hi; decide
  | 1, hi => cases hi; decide
  | 2, hi => cases hi; decide
  | 3, hi => cases hi; decide
  | 4, hi => cases hi; decide
theorem RfAt.kept {w w' : World} {S J J' : Nat → Prop} {r : Nat} {x : Md.Rs} (h : Md.RfAt w J r x) (hk : Kept S w w') (hS : ∀ k, J k → k < w.heap.size → NotM w k → ¬ S k ∧ J' k) : Md.RfAt w' J' r x := by
  obtain ⟨g, ba, bc, bh, bm, h⟩ := RfAt.cut h
  have hb : ∀ (i : Nat) g T cs, _ → ¬ S g ∧ J' g := fun i g' T cs hi => by
    have hj := (h.fq.low i g' T cs hi).elim (fun e => absurd (h.fq.box i g' T cs hi).lt (by omega)) id
    exact hS g' hj.1 hj.2.1 hj.2.2
  have hg : ∀ k, At g.a k → ¬ S k ∧ J' k := fun k e => hS k (h.gj k e).1 (h.gj k e).2.1 (h.gj k e).2.2
  exact ⟨g, ba, bc, bh, bm, ⟨Kept.refl _ _, fun i g T cs hi => (h.fq.box i g T cs hi).kept hk (hb i g T cs hi).1, fun i g T cs hi => .inr (hb i g T cs hi).2, h.fq.inj⟩, h.gr.kept hk (fun k e => (hg k e).1), fun k e => (hg k e).2, h.la, h.lc, h.lh, h.lm, h.hn⟩
/-- Both proposers in memory. -/
structure Wc (w0 : World) (I J : Nat → Prop) (p r : Nat) (s : PS) (x : Md.Rs) (w : World) : Prop where
  a : Prp w I p s
  b : Md.RfAt w J r x
  ia : ∀ k, I k → w0.heap.size ≤ k ∧ k < w.heap.size ∧ NotM w k
  jb : ∀ k, J k → w0.heap.size ≤ k ∧ k < w.heap.size ∧ NotM w k
  ij : ∀ k, I k → ¬ J k
  kp : Kept No w0 w
section
variable {w0 w w' : World} {I J S : Nat → Prop} {p r : Nat} {s s' : PS} {x x' : Md.Rs}
theorem Wc.kept (h : Wc w0 I J p r s x w) (hk : Kept S w w') (hS : ∀ k, S k → w0.heap.size ≤ k ∧ ¬ I k ∧ ¬ J k) : Wc w0 (fun k => I k ∧ NotM w' k) (fun k => J k ∧ NotM w' k) p r s x w' := by
  have ha := (h.a.kept hk (I' := I) (fun k e _ _ => ⟨fun f => (hS k f).2.1 e, e⟩)).cut
  have hb := RfAt.cut (RfAt.kept h.b hk (J' := J) (fun k e _ _ => ⟨fun f => (hS k f).2.2 e, e⟩))
  refine ⟨ha.wide (fun k e => ⟨e.1, e.2.2⟩), hb.wide (fun k e => ⟨e.1, e.2.2⟩), fun k e => ?_, fun k e => ?_, fun k e f => h.ij k e.1 f.1, h.kp.trans hk (fun _ e => e) (fun k hk' e => by have := (hS k e).1; omega)⟩
  · have := h.ia k e.1; have hs := hk.size; exact ⟨this.1, by omega, e.2⟩
  · have := h.jb k e.1; have hs := hk.size; exact ⟨this.1, by omega, e.2⟩
theorem Wc.no (h : Wc w0 I J p r s x w) (hk : Kept No w w') : Wc w0 I J p r s x w' := by
  have hn : ∀ k, k < w.heap.size → NotM w k → NotM w' k := fun k hl hm cs hb => hm cs (by
    unfold Box at hb ⊢
    rw [← hk.block k hl (fun e => e)]; exact hb)
  refine ⟨h.a.no hk, ?_, fun k e => ?_, fun k e => ?_, h.ij, h.kp.then hk⟩
  · exact RfAt.kept h.b hk (fun k e _ _ => ⟨fun f => f, e⟩)
  · have := h.ia k e; have hs := hk.size; exact ⟨this.1, by omega, hn k this.2.1 this.2.2⟩
  · have := h.jb k e; have hs := hk.size; exact ⟨this.1, by omega, hn k this.2.1 this.2.2⟩
/-- The program's call. -/
theorem Wc.prog {l : List Ms} {e : Ending} (h : Wc w0 I J p r s x w) (ho : PrOut w I p s' l e w') : ∃ la lc I' J', e = .returned (.slice la l.length lc) ∧ Own 47 30 w' w.heap.size la lc l.length (msL l) ∧ Wc w0 I' J' p r s' x w' ∧ Kept I w w' ∧ (∀ k, I' k ∨ J' k → I k ∨ J k ∨ w.heap.size ≤ k) := by
  obtain ⟨la, lc, I', he, hO, hP, hI, hk⟩ := ho
  have hs0 := h.kp.size
  have hb := RfAt.cut (RfAt.kept h.b hk (J' := J) (fun k e _ _ => ⟨fun f => h.ij k f e, e⟩))
  refine ⟨la, lc, I', _, he, hO, ⟨hP, hb, fun k e => ?_, fun k e => ⟨(h.jb k e.1).1, e.2⟩, fun k e f => ?_, h.kp.trans hk (fun _ e => e) (fun k hk' e => by have := (h.ia k e).1; omega)⟩, hk, fun k e => ?_⟩
  · obtain ⟨h1, h2, h3⟩ := hI k e
    exact ⟨h1.elim (fun a => (h.ia k a).1) (fun a => Nat.le_trans hs0 a), h2, h3⟩
  · rcases (hI k e).1 with h1 | h1
    · exact h.ij k h1 f.1
    · have := (h.jb k f.1).2.1; omega
  · rcases e with e | e
    · exact (hI k e).1.imp id .inr
    · exact .inr (.inl e.1)
end
/-- A bucket of the script. -/
def Bw (w0 : World) (b : Md.Bv) (es : List En) (ls : List La) : Prop := RdE w0 (jL b.e) es ∧ RdL w0 (jL b.l) ls ∧ b.e.l ≤ 3518437208780 ∧ b.l.l ≤ 2513169434843

end Go.Proofs.Ytpabpeppgpeaoaa
namespace Go.Proofs.Ytpabpeppgpeaoaa
open Go.RowKit Gt
set_option linter.unusedVariables false
set_option linter.unusedSimpArgs false

def cE (e : En) : Md.En := ⟨e.nm, e.f0, e.f1, e.sz⟩
def cL (e : La) : Md.La := ⟨e.cl, e.op, e.ins, e.er, e.f0, e.f1, e.sz⟩
/-- What is shown is the same. -/
structure ShowR (w0 : World) (s : PS) (x : Md.Rs) : Prop where
  de : x.de = (decO s).2
  dc : jC x.dc = (decO s).1
  tr : x.tr = (triO s).2.2.2
  wo : x.wo = worO s
  up : x.bk.up = (triO s).1
  bk : Bw w0 x.bk (triO s).2.1 (triO s).2.2.1
  nt : x.nt = s.top
  rd : x.rd = s.rd
end Go.Proofs.Ytpabpeppgpeaoaa
namespace Go.Proofs.Ytpabpeppgpeaoaa
open Go.RowKit Gt
set_option linter.unusedVariables false
set_option linter.unusedSimpArgs false

section
variable {w0 w w' : World} {I J S : Nat → Prop} {p r : Nat} {s s' : PS} {x x' : Md.Rs}
theorem Wc.kept' (h : Wc w0 I J p r s x w) (hk : Kept S w w') (hS : ∀ k, S k → w0.heap.size ≤ k ∧ ¬ I k ∧ ¬ J k) : Wc w0 I J p r s x w' := by
  have hn : ∀ k, k < w.heap.size → ¬ S k → NotM w k → NotM w' k := fun k hl hs hm cs hb => hm cs (by
    unfold Box at hb ⊢
    rw [← hk.block k hl hs]; exact hb)
  refine ⟨h.a.kept hk (fun k e _ _ => ⟨fun f => (hS k f).2.1 e, e⟩), RfAt.kept h.b hk (fun k e _ _ => ⟨fun f => (hS k f).2.2 e, e⟩), fun k e => ?_, fun k e => ?_, h.ij, h.kp.trans hk (fun _ e => e) (fun k hk' e => by have := (hS k e).1; omega)⟩
  · have := h.ia k e; have hs := hk.size; exact ⟨this.1, by omega, hn k this.2.1 (fun f => (hS k f).2.1 e) this.2.2⟩
  · have := h.jb k e; have hs := hk.size; exact ⟨this.1, by omega, hn k this.2.1 (fun f => (hS k f).2.2 e) this.2.2⟩
end
/-- What a function over both holds while it runs. -/
structure Wf (w0 : World) (I0 J0 I J : Nat → Prop) (p r : Nat) (s : PS) (x : Md.Rs) (w W : World) (l : List (Nat × TypeId × Array Value)) : Prop where
  c : Wc w0 I J p r s x W
  w0le : w0.heap.size ≤ w.heap.size
  box : ∀ (i : Nat) g T cs, l[i]? = some (g, T, cs) → Box W g T cs
  low : ∀ (i : Nat) g T cs, l[i]? = some (g, T, cs) → w.heap.size ≤ g ∧ ¬ I g ∧ ¬ J g
  inj : ∀ (i j : Nat) g T cs T' cs', l[i]? = some (g, T, cs) → l[j]? = some (g, T', cs') → i = j
  kept : Kept (fun k => I0 k ∨ J0 k) w W
  sub : ∀ k, I k ∨ J k → I0 k ∨ J0 k ∨ w.heap.size ≤ k
section
variable {w0 w W W' : World} {I0 J0 I J S : Nat → Prop} {p r : Nat} {s s' : PS} {x x' : Md.Rs} {l : List (Nat × TypeId × Array Value)}
theorem Wf.start (h : Wc w0 I J p r s x w) : Wf w0 I J I J p r s x w w [] := ⟨h, h.kp.size, by simp, by simp, by simp, Kept.refl _ _, fun k e => e.elim .inl (fun e => .inr (.inl e))⟩
theorem Wf.fq (h : Wf w0 I0 J0 I J p r s x w W l) : Md.Fq (fun k => I0 k ∨ J0 k) w W l := ⟨h.kept, h.box, fun i g T cs hi => .inl (h.low i g T cs hi).1, h.inj⟩
theorem Wf.no (h : Wf w0 I0 J0 I J p r s x w W l) (hk : Kept No W W') : Wf w0 I0 J0 I J p r s x w W' l :=
  ⟨h.c.no hk, h.w0le, (h.fq.no hk).box, h.low, h.inj, (h.fq.no hk).kept, h.sub⟩
theorem Wf.drew (h : Wf w0 I0 J0 I J p r s x w W l) : Wf w0 I0 J0 I J p r s x w W.drew l := h.no (Kept.refl No W).drew
theorem Wf.ne (h : Wf w0 I0 J0 I J p r s x w W l) (i j : Nat) {g g' : Nat} {T T' : TypeId} {cs cs' : Array Value} (hi : l[i]? = some (g, T, cs)) (hj : l[j]? = some (g', T', cs')) (hne : i ≠ j) : g ≠ g' := h.fq.ne i j hi hj hne
theorem Wf.alloc (h : Wf w0 I0 J0 I J p r s x w W l) (T : TypeId) (cs : Array Value) : Wf w0 I0 J0 I J p r s x w (W.alloc (.cells cs T)) (l ++ [(W.heap.size, T, cs)]) := by
  have hf := h.fq.alloc T cs
  refine ⟨h.c.no ((Kept.refl No W).alloc _), h.w0le, hf.box, ?_, hf.inj, hf.kept, h.sub⟩
  intro i g T' cs' hi
  rw [List.getElem?_append] at hi
  split at hi
  · exact h.low i g T' cs' hi
  · have hg : W.heap.size = g := by
      have := List.mem_of_getElem? hi
      simp at this
      exact this.1.symm
    subst hg
    exact ⟨h.kept.size, fun e => by have := (h.c.ia _ e).2.1; omega, fun e => by have := (h.c.jb _ e).2.1; omega⟩
theorem Wf.set (h : Wf w0 I0 J0 I J p r s x w W l) (i : Nat) {g : Nat} {T : TypeId} {cs : Array Value} (hi : l[i]? = some (g, T, cs)) (cs' : Array Value) : Wf w0 I0 J0 I J p r s x w (W.setRow g cs') (l.set i (g, T, cs')) := by
  have hf := h.fq.set i hi cs'
  have hl := h.low i g T cs hi
  have hw := h.w0le
  refine ⟨h.c.kept' (Kept.setRow W g cs') (fun k e => by have e : k = g := e; subst e; exact ⟨by omega, hl.2⟩), h.w0le, hf.box, ?_, hf.inj, hf.kept, h.sub⟩
  intro j g1 T1 cs1 hj
  rw [List.getElem?_set] at hj
  split at hj
  · split at hj
    · obtain ⟨rfl, rfl, rfl⟩ : g = g1 ∧ T = T1 ∧ cs' = cs1 := by simpa using hj
      exact hl
    · cases hj
  · exact h.low j g1 T1 cs1 hj
theorem Wf.prog {a : PS × List Ms} {e : Ending} (h : Wf w0 I0 J0 I J p r s x w W l) (ho : PrOut W I p a.1 a.2 e W') : ∃ la lc I' J', e = .returned (.slice la a.2.length lc) ∧ Own 47 30 W' W.heap.size la lc a.2.length (msL a.2) ∧ Wf w0 I0 J0 I' J' p r a.1 x w W' l ∧ Kept I W W' ∧ (∀ k, I k → NotM W k) := by
  obtain ⟨la, lc, I', J', he, hO, hC, hk, hs⟩ := h.c.prog ho
  have hsz := h.kept.size
  refine ⟨la, lc, I', J', he, hO, ⟨hC, h.w0le, fun i g T cs hi => (h.box i g T cs hi).kept hk (h.low i g T cs hi).2.1, fun i g T cs hi => ?_, h.inj, h.kept.trans hk (fun _ e => e) (fun k hk' e => ?_), fun k e => ?_⟩, hk, fun k e => (h.c.ia k e).2.2⟩
  · have hl := h.low i g T cs hi
    have hb := (h.box i g T cs hi).lt
    refine ⟨hl.1, fun e => ?_, fun e => ?_⟩
    · rcases hs g (.inl e) with e | e | e
      · exact hl.2.1 e
      · exact hl.2.2 e
      · omega
    · rcases hs g (.inr e) with e | e | e
      · exact hl.2.1 e
      · exact hl.2.2 e
      · omega
  · rcases h.sub k (.inl e) with e | e | e
    · exact .inl e
    · exact .inr e
    · omega
  · rcases hs k e with e | e | e
    · exact h.sub k (.inl e)
    · exact h.sub k (.inr e)
    · exact .inr (.inr (by omega))
end
/-- A step of both has been done. -/
def StOut (w0 : World) (I J : Nat → Prop) (p r : Nat) (s : PS) (w : World) (e : Ending) (w' : World) : Prop := ∃ I' J' s' x', e = .returned (.bool true) ∧ Wc w0 I' J' p r s' x' w' ∧ Rel (Bw w0) s' x' ∧ s'.zs = s.zs ∧ Kept (fun k => I k ∨ J k) w w' ∧ (∀ k, I' k ∨ J' k → I k ∨ J k ∨ w.heap.size ≤ k)
theorem Wf.out {w0 w W : World} {I0 J0 I J : Nat → Prop} {p r : Nat} {s s0 : PS} {x : Md.Rs} {l : List (Nat × TypeId × Array Value)} (h : Wf w0 I0 J0 I J p r s x w W l) (hr : Rel (Bw w0) s x) (hz : s.zs = s0.zs) : StOut w0 I0 J0 p r s0 w (.returned (.bool true)) W :=
  ⟨I, J, s, x, rfl, h.c, hr, hz, h.kept, h.sub⟩

section
variable {w0 w W W' : World} {I0 J0 I J S : Nat → Prop} {p r : Nat} {s s' : PS} {x x' : Md.Rs} {l : List (Nat × TypeId × Array Value)}
theorem Wf.step {e : Ending} (h : Wf w0 I0 J0 I J p r s x w W l) (ho : StOut w0 I J p r s W e W') : ∃ I' J' s' x', e = .returned (.bool true) ∧ Wf w0 I0 J0 I' J' p r s' x' w W' l ∧ Rel (Bw w0) s' x' ∧ s'.zs = s.zs := by
  obtain ⟨I', J', s', x', he, hC, hR, hz, hk, hs⟩ := ho
  have hsz := h.kept.size
  refine ⟨I', J', s', x', he, ⟨hC, h.w0le, fun i g T cs hi => (h.box i g T cs hi).kept hk (fun e => e.elim (h.low i g T cs hi).2.1 (h.low i g T cs hi).2.2), fun i g T cs hi => ?_, h.inj, h.kept.trans hk (fun _ e => e) (fun k hk' e => ?_), fun k e => ?_⟩, hR, hz⟩
  · have hl := h.low i g T cs hi
    have hb := (h.box i g T cs hi).lt
    refine ⟨hl.1, fun e => ?_, fun e => ?_⟩
    · rcases hs g (.inl e) with e | e | e
      · exact hl.2.1 e
      · exact hl.2.2 e
      · omega
    · rcases hs g (.inr e) with e | e | e
      · exact hl.2.1 e
      · exact hl.2.2 e
      · omega
  · rcases h.sub k e with e | e | e
    · exact .inl e
    · exact .inr e
    · omega
  · rcases hs k e with e | e | e
    · exact h.sub k (.inl e)
    · exact h.sub k (.inr e)
    · exact .inr (.inr (by omega))
/-- Both are new. -/
theorem Wf.make {w W1 W2 W3 : World} {I : Nat → Prop} {p r : Nat} {s : PS} {x : Md.Rs} (hP : Prp W1 I p s) (hI : ∀ k, I k → w.heap.size ≤ k ∧ k < W1.heap.size ∧ NotM W1 k) (hk : Kept No w W1) (hk2 : Kept No W1 W2) (hR : Md.RfAt W3 (fun k => W2.heap.size ≤ k) r x) (hk3 : Kept No W2 W3) :
    ∃ I' J', Wf w No No I' J' p r s x w W3 [] := by
  have hkk : Kept No W1 W3 := hk2.then hk3
  have s1 := hk.size
  have s2 := hk2.size
  refine ⟨_, _, ⟨⟨(hP.no hkk).cut, RfAt.cut hR, fun k e => ⟨(hI k e.1).1, e.2⟩, fun k e => ⟨?_, e.2⟩, fun k e f => ?_, hk.then hkk⟩, Nat.le_refl _, by simp, by simp, by simp, (hk.then hkk).of_no, fun k e => ?_⟩⟩
  · have := e.1; omega
  · have h1 := (hI k e.1).2.1
    have h2 := f.1
    omega
  · rcases e with e | e
    · exact .inr (.inr (hI k e.1).1)
    · have := e.1; exact .inr (.inr (by omega))
end
end Go.Proofs.Ytpabpeppgpeaoaa
namespace Go.Proofs.Ytpabpeppgpeaoaa
open Go.RowKit Gt
set_option linter.unusedVariables false
set_option linter.unusedSimpArgs false

section
variable {w0 w W W' : World} {I0 J0 I J S : Nat → Prop} {p r : Nat} {s s' : PS} {x x' : Md.Rs} {l m : List (Nat × TypeId × Array Value)}
theorem Wf.ins (h : Wf w0 I0 J0 I J p r s x w W l) {g : Nat} {T : TypeId} {cs : Array Value} (hb : Box W g T cs) (hl : w.heap.size ≤ g ∧ ¬ I g ∧ ¬ J g) (hd : ∀ y ∈ l, y.1 ≠ g) : Wf w0 I0 J0 I J p r s x w W (l ++ [(g, T, cs)]) := by
  have one : ∀ {i : Nat} {g1 T1 cs1}, ¬ i < l.length → [(g, T, cs)][i - l.length]? = some (g1, T1, cs1) → i = l.length ∧ g = g1 ∧ T = T1 ∧ cs = cs1 := by
    intro i g1 T1 cs1 hi h1
    have h2 := (List.getElem?_eq_some_iff.1 h1).1
    simp at h2
    have e : i - l.length = 0 := by omega
    rw [e] at h1
    simp at h1
    exact ⟨by omega, h1.1, h1.2.1, h1.2.2⟩
  refine ⟨h.c, h.w0le, ?_, ?_, ?_, h.kept, h.sub⟩
  · intro i g1 T1 cs1 hi
    rw [List.getElem?_append] at hi
    split at hi
    · exact h.box i g1 T1 cs1 hi
    · rename_i hh
      obtain ⟨_, rfl, rfl, rfl⟩ := one hh hi
      exact hb
  · intro i g1 T1 cs1 hi
    rw [List.getElem?_append] at hi
    split at hi
    · exact h.low i g1 T1 cs1 hi
    · rename_i hh
      obtain ⟨_, rfl, rfl, rfl⟩ := one hh hi
      exact hl
  · intro i j g1 T1 cs1 T2 cs2 hi hj
    rw [List.getElem?_append] at hi hj
    split at hi <;> split at hj
    · exact h.inj i j g1 T1 cs1 T2 cs2 hi hj
    · rename_i h1 h2
      obtain ⟨_, rfl, rfl, rfl⟩ := one h2 hj
      exact absurd rfl (hd _ (List.mem_of_getElem? hi))
    · rename_i h1 h2
      obtain ⟨_, rfl, rfl, rfl⟩ := one h1 hi
      exact absurd rfl (hd _ (List.mem_of_getElem? hj))
    · rename_i h1 h2
      obtain ⟨e1, _⟩ := one h1 hi
      obtain ⟨e2, _⟩ := one h2 hj
      omega
/-- Its blocks are spoken of no more. -/
theorem Wf.none (h : Wf w0 I0 J0 I J p r s x w W l) : Wf w0 I0 J0 I J p r s x w W [] := ⟨h.c, h.w0le, by simp, by simp, by simp, h.kept, h.sub⟩
end
end Go.Proofs.Ytpabpeppgpeaoaa
namespace Go.Proofs.Ytpabpeppgpeaoaa.Md
open Go.RowKit Gt
set_option linter.unusedVariables false
set_option linter.unusedSimpArgs false

structure Stp where
  k : Int
  m : Mg
def Stp.cs (x : Stp) : List Value := [.int .i64 x.k] ++ x.m.cs
def Stp.cells (x : Stp) : Array Value := x.cs.toArray
theorem Stp.oneL (x : Stp) : ∀ v ∈ x.cs, v.oneCell' = true := by
  intro v hv
  rcases List.mem_append.1 hv with h | h
  · simp at h; subst h; rfl
  · exact Mg.oneL x.m v h
theorem MgAt.of {w : World} {m m' : Mg} {bs : List Int} {es : List En} {ls : List La} {cs : List Cm} (h : MgAt w m bs es ls cs) (e1 : m'.bl = m.bl) (e2 : m'.bk = m.bk) (e3 : m'.cm = m.cm) : MgAt w m' bs es ls cs := by
  obtain ⟨a, b, c, d, n1, n2, n3, n4⟩ := h
  exact ⟨by rw [e1]; exact a, by rw [e2]; exact b, by rw [e2]; exact c, by rw [e3]; exact d, by rw [e1]; exact n1, by rw [e2]; exact n2, by rw [e2]; exact n3, by rw [e3]; exact n4⟩
end Go.Proofs.Ytpabpeppgpeaoaa.Md
namespace Go.Proofs.Ytpabpeppgpeaoaa.Md
open Go.RowKit Gt
set_option linter.unusedVariables false
set_option linter.unusedSimpArgs false

/-- The row that is handed in: the group, then marks up to a place. -/
def mkI (zs : List Int) (i : Nat) : List Int := zs ++ (List.replicate i (-77) ++ List.replicate (9 - i) 0)
theorem mkI_len {zs : List Int} {i : Nat} (h : i ≤ 9) : (mkI zs i).length = zs.length + 9 := by simp [mkI]; omega
/-- What the row still holds from a place on. -/
def MkR (zs ms : List Int) (i : Nat) : Prop := ms.length = zs.length + 9 ∧ ∀ j, i ≤ j → j < zs.length + 9 → ms[j]? = some (if j < zs.length then zs[j]?.getD 0 else -77)
theorem MkR.start (zs : List Int) : MkR zs (mkI zs 9) 0 := by
  refine ⟨mkI_len (Nat.le_refl _), fun j _ hj => ?_⟩
  unfold mkI
  split
  · rename_i h
    rw [List.getElem?_append_left h, List.getElem?_eq_getElem h]; rfl
  · rename_i h
    rw [List.getElem?_append_right (by omega), List.getElem?_append_left (by simp; omega), List.getElem?_replicate, if_pos (by omega)]
theorem MkR.next {zs ms : List Int} {i : Nat} (y : Int) (h : MkR zs ms i) : MkR zs (ms.set i y) (i + 1) :=
  ⟨by rw [List.length_set]; exact h.1, fun j hj hl => by rw [List.getElem?_set_ne (by omega)]; exact h.2 j (by omega) hl⟩
theorem MkR.lo {zs ms : List Int} {i : Nat} (h : MkR zs ms i) (hi : i < zs.length) : ms[i]? = some (zs[i]?.getD 0) := by rw [h.2 i (Nat.le_refl _) (by omega), if_pos hi]
theorem MkR.hi {zs ms : List Int} {i : Nat} (h : MkR zs ms i) (h1 : ¬ i < zs.length) (h2 : i < zs.length + 9) : ms[i]? = some (-77) := by rw [h.2 i (Nat.le_refl _) h2, if_neg h1]
/-- A proposer that lies behind a row. -/
def PrK (w : World) (gm : Nat) (W : World) (I : Nat → Prop) (p : Nat) (s : PS) : Prop := Prp W I p s ∧ ∀ k, I k → gm < k ∧ w.heap.size ≤ k ∧ k < W.heap.size ∧ NotM W k
theorem PrK.kept {w W W' : World} {gm p : Nat} {I S : Nat → Prop} {s : PS} (h : PrK w gm W I p s) (hk : Kept S W W') (hS : ∀ k, S k → k ≤ gm) : PrK w gm W' I p s := by
  refine ⟨h.1.kept hk (fun k e _ _ => ⟨fun f => ?_, e⟩), fun k e => ?_⟩
  · have := (h.2 k e).1; have := hS k f; omega
  · obtain ⟨h1, h2, h3, h4⟩ := h.2 k e
    have hs := hk.size
    refine ⟨h1, h2, by omega, fun cs hb => h4 cs ?_⟩
    unfold Box at hb ⊢
    rw [← hk.block k h3 (fun f => by have := hS k f; omega)]; exact hb
theorem PrK.no {w W W' : World} {gm p : Nat} {I : Nat → Prop} {s : PS} (h : PrK w gm W I p s) (hk : Kept No W W') : PrK w gm W' I p s := h.kept hk (fun _ e => e.elim)
theorem PrK.row {w W : World} {gm p : Nat} {I : Nat → Prop} {s : PS} (h : PrK w gm W I p s) (cs : Array Value) : PrK w gm (W.setRow gm cs) I p s := h.kept (Kept.setRow W gm cs) (fun k e => by have e : k = gm := e; omega)
/-- Steps that came in. -/
structure RdS (w : World) (t : Sl) (xs : List Stp) : Prop where
  row : RowsAt 31 w t.a (xs.map Stp.cs)
  len : xs.length = t.l
  each : ∀ x ∈ xs, ∃ (bs : List Int) (es : List En) (ls : List La) (cs : List Cm), MgAt w x.m bs es ls cs ∧ x.m.st.n ≤ 9223372036854775807
theorem RdS.at {w : World} {t : Sl} {xs : List Stp} (h : RdS w t xs) {i : Nat} (hi : i < t.l) : ∃ tb tq a bs es ls cs, t.a = some ⟨tb, tq, none⟩ ∧ (∀ (j : Nat) v, (Stp.cs a)[j]? = some v → w.cell? ⟨tb, tq + i * 31 + j, none⟩ = some v) ∧ MgAt w a.m bs es ls cs ∧ a.m.st.n ≤ 9223372036854775807 := by
  have hx : xs[i]? = some (xs[i]'(by rw [h.len]; exact hi)) := List.getElem?_eq_getElem _
  obtain ⟨b, off, e, hc⟩ := h.row i _ (by rw [List.getElem?_map, hx]; rfl)
  obtain ⟨bs, es, ls, cs, h1, h2⟩ := h.each _ (List.mem_of_getElem? hx)
  exact ⟨b, off, _, bs, es, ls, cs, e, hc, h1, h2⟩
end Go.Proofs.Ytpabpeppgpeaoaa.Md
