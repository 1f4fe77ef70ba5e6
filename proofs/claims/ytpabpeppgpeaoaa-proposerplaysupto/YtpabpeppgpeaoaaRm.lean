import Derived.Test.YtpabpeppgpeaoaaRi
namespace Go.Proofs.Ytpabpeppgpeaoaa
open Go.RowKit Gt
set_option linter.unusedVariables false
set_option linter.unusedSimpArgs false
/-- The mend's words as this seat's. -/
def jC (c : Md.Cm) : Cm := ⟨c.k, c.cl, c.op, c.nm, c.f0, c.f1, c.g0, c.g1, c.sz⟩
def uS (s : Md.Sp) : Sp := ⟨s.n, s.c⟩
def jK (k : Md.Ky) : Ky := ⟨k.k, k.a, k.b, k.c⟩
def jL (s : Md.Sl) : Sl := ⟨s.a, s.l, s.k⟩
def uM (m : Md.Mg) : Ms := ⟨m.k, m.fr.cl, m.fr.id, m.too.cl, m.too.id, m.op, m.rd, jK m.ky, uS m.st, uS m.hd, jL m.bl, jC m.c, m.bk.up, jL m.bk.e, jL m.bk.l, jL m.cm, m.mo⟩
def vS (v : Vt) : Md.Sp := ⟨v.n, v.b⟩
def vC (v : Vt) : Md.Cm := ⟨v.k, v.cl, v.op, v.nm, v.f0, v.f1, v.g0, v.g1, v.sz⟩
theorem uC_inj {a b : Md.Cm} (h : jC a = jC b) : a = b := by
  cases a; cases b
  simpa [jC] using h

theorem lit_nodup (l : List Int) (h : l.Nodup) (i j : Nat) (z : Int) (hi : l[i]? = some z) (hj : l[j]? = some z) : i = j :=
  (List.getElem?_inj (List.getElem?_eq_some_iff.1 hi).1 h).1 (hi.trans hj.symm)
theorem uq_self_gen : ∀ (l acc : List Int), (acc ++ l).Nodup → l.foldl (fun acc n => if n ∈ acc then acc else acc ++ [n]) acc = acc ++ l
  | [], acc, _ => by simp
  | z :: l, acc, h => by
    have hz : z ∉ acc := by
      intro e
      have := List.nodup_append.1 h
      exact this.2.2 z e z (by simp) rfl
    rw [List.foldl_cons, if_neg hz, uq_self_gen l (acc ++ [z]) (by simpa using h)]
    simp
theorem uq_self {l : List Int} (h : l.Nodup) : uq l = l := by
  unfold uq
  rw [uq_self_gen l [] (by simpa using h)]
  rfl
theorem map_set {zs : List Int} (hn : zs.Nodup) {i : Nat} {z : Int} (hz : zs[i]? = some z) {f f' : Int → Bool} (h1 : f' z = true) (h2 : ∀ y, y ≠ z → f' y = f y) : (zs.map f).set i true = zs.map f' := by
  apply List.ext_getElem?
  intro j
  rw [List.getElem?_set]
  by_cases e : i = j
  · subst e
    have hi := (List.getElem?_eq_some_iff.1 hz).1
    simp [hi, hz, h1]
    have := (List.getElem?_eq_some_iff.1 hz).2
    rw [this, h1]
  · rw [if_neg e, List.getElem?_map, List.getElem?_map]
    cases hj : zs[j]? with
    | none => rfl
    | some y =>
      have : y ≠ z := fun e2 => e (lit_nodup zs hn i j z hz (e2 ▸ hj))
      simp [h2 y this]
theorem cntB_map (zs : List Int) (f : Int → Bool) : Md.cntB (zs.map f) = zs.countP f := by
  unfold Md.cntB
  rw [List.countP_map]
  rfl
/-- What has answered, by places and by servers. -/
structure QRel {α : Type} (zs : List Int) (X : TS Unit) (Y : TS α) (qa qc : List Bool) : Prop where
  nd : zs.Nodup
  gx : X.g = zs
  gy : Y.g = zs
  nx : X.need = (zs.length : Int)
  ny : Y.need = needN zs.length
  ea : qa = zs.map (fun z => (X.v z).isSome)
  ec : qc = zs.map (fun z => (Y.v z).isSome)
  few : cnt Y < zs.length / 2 + 1
  le : ∀ z, (Y.v z).isSome = true → (X.v z).isSome = true
theorem QRel.new {α : Type} {zs : List Int} (hn : zs.Nodup) : QRel zs (tNew Unit zs (zs.length : Int)) (tNew α zs (needN zs.length)) (List.replicate zs.length false) (List.replicate zs.length false) where
  nd := hn
  gx := uq_self hn
  gy := uq_self hn
  nx := rfl
  ny := rfl
  ea := by
    show _ = zs.map (fun z => false)
    rw [List.map_const']
  ec := by
    show _ = zs.map (fun z => false)
    rw [List.map_const']
  few := by rw [cnt_new]; omega
  le := fun z h => by cases h
theorem miss_iff {zs : List Int} {X : TS Unit} (gx : X.g = zs) {z : Int} (hz : z ∈ zs) : z ∈ missL X ↔ (X.v z).isSome = false := by
  unfold missL
  rw [gx, List.mem_filter]
  cases X.v z <;> simp [hz]
theorem cnt_lt {zs : List Int} {X : TS Unit} (gx : X.g = zs) {z : Int} (hz : z ∈ zs) (hv : (X.v z).isSome = false) : cnt X < zs.length := by
  unfold cnt
  rw [gx]
  rcases Nat.lt_or_ge (zs.countP fun n => (X.v n).isSome) zs.length with h | h
  · exact h
  · have h1 := List.countP_le_length (p := fun n => (X.v n).isSome) (l := zs)
    have h2 := (List.countP_eq_length.1 (Nat.le_antisymm h1 h)) z hz
    rw [hv] at h2
    cases h2
theorem hear_v {zs : List Int} {X : TS Unit} (gx : X.g = zs) (nx : X.need = (zs.length : Int)) {z : Int} (hz : z ∈ zs) (hv : (X.v z).isSome = false) : hearS X z = putS X z () := by
  unfold hearS
  rw [if_pos ((miss_iff gx hz).2 hv)]
  unfold takeS
  rw [if_pos]
  have h1 := cnt_lt gx hz hv
  unfold mayB enB
  rw [gx, nx]
  simp only [Bool.and_eq_true, decide_eq_true_eq, Bool.not_eq_true', decide_eq_false_iff_not]
  refine ⟨⟨hz, ?_⟩, by omega⟩
  cases h : X.v z
  · rfl
  · rw [h] at hv; cases hv
theorem put_some {α : Type} (X : TS α) (z : Int) (v : α) : ((putS X z v).v z).isSome = true := by simp [putS]
theorem put_ne {α : Type} (X : TS α) (z y : Int) (v : α) (h : y ≠ z) : ((putS X z v).v y).isSome = (X.v y).isSome := by simp [putS, h]
theorem may_y {α : Type} {zs : List Int} {X : TS Unit} {Y : TS α} {qa qc : List Bool} (h : QRel zs X Y qa qc) {z : Int} (hz : z ∈ zs) (hv : (X.v z).isSome = false) : mayB Y z = true ∧ (Y.v z).isSome = false := by
  have hy : (Y.v z).isSome = false := by
    cases e : (Y.v z).isSome
    · rfl
    · rw [h.le z e] at hv; cases hv
  refine ⟨?_, hy⟩
  unfold mayB enB
  rw [h.gy, h.ny]
  have hf := h.few
  have hnn : ¬ (needN zs.length ≤ ((cnt Y : Nat) : Int)) := by unfold needN; omega
  have hvn : (Y.v z).isNone = true := by
    cases e : Y.v z
    · rfl
    · rw [e] at hy; cases hy
  rw [decide_eq_true hz, hvn, decide_eq_false hnn]
  rfl
theorem takeB_iff {α : Type} {zs : List Int} {X : TS Unit} {Y : TS α} {qa qc : List Bool} (h : QRel zs X Y qa qc) {z : Int} {i : Nat} (hz : zs[i]? = some z) (hv : (X.v z).isSome = false) (v : α) :
    takeS Y z v = putS Y z v ∧ takeB Y z = decide (¬ Md.cntB (qc.set i true) < zs.length / 2 + 1) ∧ qc.set i true = zs.map (fun y => ((putS Y z v).v y).isSome) ∧ Md.cntB (qc.set i true) = cnt Y + 1 := by
  have hm : z ∈ zs := List.mem_of_getElem? hz
  obtain ⟨h1, h2⟩ := may_y h hm hv
  have e1 : takeS Y z v = putS Y z v := by unfold takeS; rw [if_pos h1]
  have e2 : qc.set i true = zs.map (fun y => ((putS Y z v).v y).isSome) := by
    rw [h.ec]
    exact map_set h.nd hz (put_some Y z v) (fun y hy => put_ne Y z y v hy)
  have e3 : Md.cntB (qc.set i true) = cnt Y + 1 := by
    rw [e2, cntB_map]
    have hvn : Y.v z = none := by
      cases e : Y.v z
      · rfl
      · rw [e] at h2; cases h2
    have := cnt_put (v := v) (by rw [h.gy]; exact h.nd) (by rw [h.gy]; exact hm) hvn
    unfold cnt at this
    rw [show (putS Y z v).g = Y.g from rfl, h.gy] at this
    unfold cnt
    rw [h.gy]
    exact this
  refine ⟨e1, ?_, e2, e3⟩
  unfold takeB
  rw [h1, h.ny, e3, Bool.true_and]
  unfold needN
  congr 1
  apply propext
  constructor <;> intro hh <;> omega
theorem QRel.put {α : Type} {zs : List Int} {X : TS Unit} {Y : TS α} {qa qc : List Bool} (h : QRel zs X Y qa qc) {z : Int} {i : Nat} (hz : zs[i]? = some z) (hv : (X.v z).isSome = false) (v : α) (hf : Md.cntB (qc.set i true) < zs.length / 2 + 1) :
    QRel zs (hearS X z) (takeS Y z v) (qa.set i true) (qc.set i true) := by
  have hm : z ∈ zs := List.mem_of_getElem? hz
  obtain ⟨e1, _, e2, e3⟩ := takeB_iff h hz hv v
  have hh := hear_v h.gx h.nx hm hv
  rw [hh, e1]
  refine ⟨h.nd, h.gx, h.gy, h.nx, h.ny, ?_, e2, ?_, ?_⟩
  · rw [h.ea]
    exact map_set h.nd hz (put_some X z ()) (fun y hy => put_ne X z y () hy)
  · have hc : cnt (putS Y z v) = Md.cntB (qc.set i true) := by
      rw [e2, cntB_map]
      unfold cnt
      rw [show (putS Y z v).g = Y.g from rfl, h.gy]
    omega
  · intro y hy
    by_cases e : y = z
    · subst e; exact put_some X y ()
    · rw [put_ne X z y () e]
      rw [put_ne Y z y v e] at hy
      exact h.le y hy
theorem QRel.nack {α : Type} {zs : List Int} {X : TS Unit} {Y : TS α} {qa qc : List Bool} (h : QRel zs X Y qa qc) {z : Int} {i : Nat} (hz : zs[i]? = some z) (hv : (X.v z).isSome = false) : QRel zs (hearS X z) Y (qa.set i true) qc := by
  have hm : z ∈ zs := List.mem_of_getElem? hz
  rw [hear_v h.gx h.nx hm hv]
  refine ⟨h.nd, h.gx, h.gy, h.nx, h.ny, ?_, h.ec, h.few, ?_⟩
  · rw [h.ea]
    exact map_set h.nd hz (put_some X z ()) (fun y hy => put_ne X z y () hy)
  · intro y hy
    by_cases e : y = z
    · subst e; exact put_some X y ()
    · rw [put_ne X z y () e]; exact h.le y hy
theorem snd_map (x : Md.Rs) (f : Int → Bool) (h : x.qa = x.zs.map f) : Md.sendR x = (x.zs.filter (fun z => !f z)).map (Md.msgR x) := by
  have key : ∀ i, i ≤ x.zs.length → Md.sndK x i = ((x.zs.take i).filter (fun z => !f z)).map (Md.msgR x) := by
    intro i
    induction i with
    | zero => intro _; rfl
    | succ i ih =>
      intro hi
      have hlt : i < x.zs.length := hi
      rw [take_snoc hlt, List.filter_append, List.map_append, ← ih (by omega)]
      show Md.sndK x i ++ _ = _
      congr 1
      rw [h, List.getElem?_map, List.getElem?_eq_getElem hlt]
      simp only [Option.map_some, Option.getD_some]
      cases hf : f x.zs[i] <;> simp [hf]
  unfold Md.sendR
  rw [key _ (Nat.le_refl _), List.take_length]
theorem miss_map {zs : List Int} {X : TS Unit} (gx : X.g = zs) : missL X = zs.filter (fun z => !(X.v z).isSome) := by
  unfold missL
  rw [gx]
  congr 1
  funext z
  cases X.v z <;> rfl

/-- The best of some votes, gone through from the left. -/
def stepV (b v : Vt) : Vt := if vLess b v then v else b
theorem vAt_app {ps : List Vt} {v : Vt} {k : Nat} (h : k < ps.length) : vAt (ps ++ [v]) k = vAt ps k := by
  unfold vAt
  rw [List.getElem?_append_left h]
theorem bi_app {ps : List Vt} {v : Vt} : ∀ k, k < ps.length → bi (ltV (ps ++ [v])) k = bi (ltV ps) k
  | 0, _ => rfl
  | k + 1, h => by
    have ih := bi_app (ps := ps) (v := v) k (by omega)
    have hb := bi_le (ltV ps) k
    unfold bi
    rw [ih]
    have e : ltV (ps ++ [v]) (bi (ltV ps) k) (k + 1) = ltV ps (bi (ltV ps) k) (k + 1) := by
      show vLess (vAt (ps ++ [v]) (bi (ltV ps) k)) (vAt (ps ++ [v]) (k + 1)) = vLess (vAt ps (bi (ltV ps) k)) (vAt ps (k + 1))
      rw [vAt_app (by omega), vAt_app h]
    rw [e]
theorem best_snoc {ps : List Vt} (v : Vt) (h : 0 < ps.length) : bestV (ps ++ [v]) = stepV (bestV ps) v := by
  obtain ⟨n, hn⟩ : ∃ n, ps.length = n + 1 := ⟨ps.length - 1, by omega⟩
  unfold bestV
  rw [List.length_append, hn]
  show vAt (ps ++ [v]) (bi (ltV (ps ++ [v])) (n + 1)) = stepV (vAt ps (bi (ltV ps) n)) v
  have hb := bi_le (ltV ps) n
  have ih := bi_app (ps := ps) (v := v) n (by omega)
  have hl : vAt (ps ++ [v]) (n + 1) = v := by
    unfold vAt
    rw [List.getElem?_append_right (by omega), hn]
    simp
  have e : ltV (ps ++ [v]) (bi (ltV (ps ++ [v])) n) (n + 1) = vLess (vAt ps (bi (ltV ps) n)) v := by
    show vLess (vAt (ps ++ [v]) (bi (ltV (ps ++ [v])) n)) (vAt (ps ++ [v]) (n + 1)) = _
    rw [ih, vAt_app (by omega), hl]
  unfold stepV
  cases hc : vLess (vAt ps (bi (ltV ps) n)) v with
  | true => rw [bi_yes (by rw [e, hc]), hl]; rfl
  | false =>
    rw [bi_no (by rw [e, hc]), ih, vAt_app (by omega)]
    rfl
theorem less_vS (a b : Vt) : Md.lessB' (vS a) (vS b) = vLess a b := by
  unfold Md.lessB' vLess vS
  simp only
  congr 2
theorem choose_eq {zs : List Int} {Y : TS Vt} {x : Md.Rs} (s : PS) (hn : x.zs = zs) (gy : Y.g = zs) (ec : x.qc = zs.map (fun z => (Y.v z).isSome)) (hv : ∀ (i : Nat) z v, zs[i]? = some z → Y.v z = some v → x.qh[i]? = some (vS v) ∧ x.qm[i]? = some (vC v)) (hm : jC x.mine = s.mine) :
    jC (Md.chooseR x).ch = choiceS s Y := by
  have key : ∀ i, i ≤ zs.length → Md.chK x i = (vS (bestV (ownV s.v0 :: (gotK Y i).map Prod.snd)), vC (bestV (ownV s.v0 :: (gotK Y i).map Prod.snd))) := by
    intro i
    induction i with
    | zero =>
      intro _
      have e : gotK Y 0 = [] := by simp [gotK]
      rw [e]
      show (Md.spZ, x.mine) = _
      have e2 : bestV [ownV s.v0] = ownV s.v0 := rfl
      rw [show ownV s.v0 :: List.map Prod.snd ([] : List (Int × Vt)) = [ownV s.v0] from rfl, e2]
      refine Prod.ext rfl (uC_inj ?_)
      rw [hm]
      rfl
    | succ i ih =>
      intro hi
      have hlt : i < zs.length := hi
      obtain ⟨z, hz⟩ : ∃ z, zs[i]? = some z := ⟨zs[i], List.getElem?_eq_getElem hlt⟩
      have ht : Y.g.take (i + 1) = Y.g.take i ++ [z] := by rw [gy, take_snoc hlt, hz]; rfl
      have ih := ih (by omega)
      show (if x.qc[i]?.getD false && Md.lessB' (Md.chK x i).1 (x.qh[i]?.getD Md.spZ) then (x.qh[i]?.getD Md.spZ, x.qm[i]?.getD Md.cZ) else Md.chK x i) = _
      rw [ec, List.getElem?_map, hz]
      cases hy : Y.v z with
      | none =>
        rw [gotK_none ht hy]
        simp [hy, ih]
      | some v =>
        obtain ⟨h1, h2⟩ := hv i z v hz hy
        rw [gotK_some ht hy, List.map_append, h1, h2, ih]
        rw [show ownV s.v0 :: (List.map Prod.snd (gotK Y i) ++ List.map Prod.snd [(z, v)]) = (ownV s.v0 :: List.map Prod.snd (gotK Y i)) ++ [v] from rfl, best_snoc v (by simp)]
        simp only [Option.map_some, Option.getD_some, hy, Option.isSome_some, Bool.true_and, less_vS]
        unfold stepV
        split <;> rfl
  unfold Md.chooseR choiceS
  show jC (Md.chK x x.zs.length).2 = _
  rw [hn, key zs.length (Nat.le_refl _), ← gy, gotK_all]
  rfl

/-- Both proposers stand at the same place. -/
structure Same0 (s : PS) (x : Md.Rs) : Prop where
  cl : x.cl = s.cl
  op : x.op = s.op
  ky : jK x.ky = s.ky
  zs : x.zs = s.zs
  mine : jC x.mine = s.mine
  n : x.n = s.n
  nt : x.nt = s.top
  rd : x.rd = s.rd
  nd : s.zs.Nodup
  tp : s.top ≤ 9223372036854775807
def EndR (x : Md.Rs) (a b c : Bool) : Prop := x.de = a ∧ x.tr = b ∧ x.wo = c
structure LiveR (s : PS) : Prop where
  n : okN s.n = true
  rd : okN s.rd = true
  tp : s.n ≤ s.top
def PhR (B : Md.Bv → List En → List La → Prop) (s : PS) (x : Md.Rs) : Ph → Prop
  | .fresh => x.ph = 0 ∧ EndR x false false false ∧ x.dc = Md.cZ ∧ x.bk = Md.bvZ ∧ x.nk = false ∧ s.top = s.n ∧ x.qa = List.replicate s.zs.length false ∧ x.qc = List.replicate s.zs.length false ∧ x.qh.length = s.zs.length ∧ x.qm.length = s.zs.length
  | .pre X Y rf => x.ph = 1 ∧ EndR x false false false ∧ x.dc = Md.cZ ∧ x.bk = Md.bvZ ∧ x.nk = rf ∧ LiveR s ∧ QRel s.zs X Y x.qa x.qc ∧ x.qh.length = s.zs.length ∧ x.qm.length = s.zs.length ∧ (∀ (i : Nat) z v, s.zs[i]? = some z → Y.v z = some v → x.qh[i]? = some (vS v) ∧ x.qm[i]? = some (vC v))
  | .acc c X Y rf => x.ph = 2 ∧ EndR x false false false ∧ x.dc = Md.cZ ∧ x.bk = Md.bvZ ∧ x.nk = rf ∧ LiveR s ∧ jC x.ch = c ∧ QRel s.zs X Y x.qa x.qc
  | .dec c => x.ph = 3 ∧ EndR x true false false ∧ jC x.dc = c ∧ x.bk = Md.bvZ
  | .tri u es ls => x.ph = 3 ∧ EndR x false true false ∧ x.dc = Md.cZ ∧ x.bk.up = u ∧ B x.bk es ls
  | .worn => x.ph = 3 ∧ EndR x false false true ∧ x.dc = Md.cZ ∧ x.bk = Md.bvZ
structure Rel (B : Md.Bv → List En → List La → Prop) (s : PS) (x : Md.Rs) : Prop where
  s0 : Same0 s x
  ph : PhR B s x s.ph

theorem msg_pre {s : PS} {x : Md.Rs} (h : Same0 s x) (hp : x.ph = 1) (z : Int) : uM (Md.msgR x z) = (prepM s.v0).to z := by
  unfold Md.msgR
  rw [hp]
  show (⟨3, true, x.cl, false, z, x.op, x.rd, jK x.ky, ⟨x.n, x.cl⟩, sZ, slZ, cZ, 0, slZ, slZ, slZ, false⟩ : Ms) = ⟨3, true, s.cl, false, z, s.op, s.rd, s.ky, ⟨s.n, s.cl⟩, sZ, slZ, cZ, 0, slZ, slZ, slZ, false⟩
  rw [h.cl, h.op, h.rd, h.ky, h.n]
theorem msg_acc {s : PS} {x : Md.Rs} {c : Cm} (h : Same0 s x) (hp : x.ph = 2) (hc : jC x.ch = c) (z : Int) : uM (Md.msgR x z) = (accM s.v0 c).to z := by
  unfold Md.msgR
  rw [hp]
  show (⟨4, true, x.cl, false, z, x.op, x.rd, jK x.ky, ⟨x.n, x.cl⟩, sZ, slZ, jC x.ch, 0, slZ, slZ, slZ, false⟩ : Ms) = ⟨4, true, s.cl, false, z, s.op, s.rd, s.ky, ⟨s.n, s.cl⟩, sZ, slZ, c, 0, slZ, slZ, slZ, false⟩
  rw [h.cl, h.op, h.rd, h.ky, h.n, hc]
theorem msg_lrn {s : PS} {x : Md.Rs} {c : Cm} (h : Same0 s x) (hc : jC x.ch = c) (z : Int) : uM (Md.lrnG x z) = (lrnM s.v0 c).to z := by
  show (⟨5, true, x.cl, false, z, x.op, x.rd, jK x.ky, sZ, sZ, slZ, jC x.ch, 0, slZ, slZ, slZ, false⟩ : Ms) = ⟨5, true, s.cl, false, z, s.op, s.rd, s.ky, sZ, sZ, slZ, c, 0, slZ, slZ, slZ, false⟩
  rw [h.cl, h.op, h.rd, h.ky, hc]
theorem send_all {x : Md.Rs} {zs : List Int} (hz : x.zs = zs) (h : x.qa = List.replicate zs.length false) : Md.sendR x = zs.map (Md.msgR x) := by
  rw [snd_map x (fun _ => false) (by rw [h, hz, List.map_const']), hz]
  congr 1
  rw [List.filter_eq_self]
  intro a _; rfl
theorem send_miss {x : Md.Rs} {zs : List Int} {X : TS Unit} (hz : x.zs = zs) (gx : X.g = zs) (h : x.qa = zs.map (fun z => (X.v z).isSome)) : Md.sendR x = (missL X).map (Md.msgR x) := by
  rw [snd_map x (fun z => (X.v z).isSome) (by rw [h, hz]), hz, miss_map gx]
theorem ok_iff (n : Int) : okN n = true ↔ 1 ≤ n ∧ n ≤ 1099511627776 := by simp [okN]
theorem wr1_small {n : Int} (h : -9223372036854775808 ≤ n) (h2 : n < 9223372036854775807) : wr1 n = n + 1 := by
  unfold wr1
  rw [IntKind.wrap_i64]
  omega
theorem ok_wr {n : Int} (h : 1 ≤ n) (h2 : n ≤ 9223372036854775807) : okN (wr1 n) = decide (n < 1099511627776) := by
  rcases Int.lt_or_le n 9223372036854775807 with hl | hl
  · rw [wr1_small (by omega) hl]
    unfold okN
    rcases Int.lt_or_le n 1099511627776 with h3 | h3
    · rw [decide_eq_true h3, decide_eq_true (show 1 ≤ n + 1 by omega), decide_eq_true (show n + 1 ≤ 1099511627776 by omega)]; rfl
    · rw [decide_eq_false (show ¬ n < 1099511627776 by omega), decide_eq_false (show ¬ n + 1 ≤ 1099511627776 by omega), Bool.and_false]
  · have : n = 9223372036854775807 := by omega
    subst this
    rfl

variable {B : Md.Bv → List En → List La → Prop}
/-- Two answers are the same. -/
def Both (B : Md.Bv → List En → List La → Prop) (a : PS × List Ms) (b : Md.Rs × List Md.Mg) : Prop := Rel B a.1 b.1 ∧ a.2 = b.2.map uM
theorem Same0.freshR {s : PS} {x : Md.Rs} (h : Same0 s x) : Same0 s (Md.freshR x) := ⟨h.cl, h.op, h.ky, h.zs, h.mine, h.n, h.nt, h.rd, h.nd, h.tp⟩
theorem worn_both {s : PS} {x : Md.Rs} (h : Same0 s x) (he : EndR x false false false) (hd : x.dc = Md.cZ) (hb : x.bk = Md.bvZ) : Both B ({ s with ph := .worn }, []) ({ x with wo := true, ph := 3 }, []) :=
  ⟨⟨⟨h.cl, h.op, h.ky, h.zs, h.mine, h.n, h.nt, h.rd, h.nd, h.tp⟩, rfl, ⟨he.1, he.2.1, rfl⟩, hd, hb⟩, rfl⟩
/-- A first phase, whichever way it was come to. -/
theorem pre_both {s : PS} {x : Md.Rs} {n r tp : Int} (h : Same0 { s with n := n, rd := r, top := tp } x) (hp : x.ph = 1) (he : EndR x false false false) (hd : x.dc = Md.cZ) (hb : x.bk = Md.bvZ) (hk : x.nk = false) (hn : okN n = true) (hr : okN r = true) (htp : n ≤ tp) (hqa : x.qa = List.replicate s.zs.length false) (hqc : x.qc = List.replicate s.zs.length false) (hqh : x.qh.length = s.zs.length) (hqm : x.qm.length = s.zs.length) :
    Both B ({ s with n := n, rd := r, top := tp, ph := .pre (tNew Unit s.zs (s.zs.length : Int)) (tNew Vt s.zs (needN s.zs.length)) false }, s.zs.map (prepM ({ s with n := n, rd := r, top := tp } : PS).v0).to) (x, Md.sendR x) := by
  refine ⟨⟨⟨h.cl, h.op, h.ky, h.zs, h.mine, h.n, h.nt, h.rd, h.nd, h.tp⟩, hp, he, hd, hb, hk, ⟨hn, hr, htp⟩, ?_, hqh, hqm, ?_⟩, ?_⟩
  · show QRel s.zs _ _ x.qa x.qc
    rw [hqa, hqc]
    exact QRel.new h.nd
  · intro i z v _ hv
    cases hv
  · show _ = List.map uM (Md.sendR x)
    rw [send_all (zs := s.zs) h.zs hqa, List.map_map]
    apply List.map_congr_left
    intro z _
    exact (msg_pre h hp z).symm
theorem rel_begin {s : PS} {x : Md.Rs} (h : Rel B s x) : Both B (begS s) (Md.begR x) := by
  obtain ⟨h0, hp⟩ := h
  have hno : x.ph ≠ 0 → begS s = (s, []) → Both B (begS s) (Md.begR x) := fun h1 h2 => by
    rw [h2]
    unfold Md.begR
    rw [if_neg h1]
    exact ⟨⟨h0, hp⟩, rfl⟩
  cases e : s.ph with
  | fresh =>
    have hp' := hp
    rw [e] at hp'
    obtain ⟨p1, p2, p3, p4, p5, p6, p7, p8, p9, p10⟩ := hp'
    have eb : begS s = prepS s s.n s.rd := by unfold begS; rw [e]
    rw [eb]
    unfold Md.begR prepS
    rw [if_pos p1]
    have e1 := h0.n
    have e2 := h0.rd
    by_cases ho : (okN s.n && okN s.rd) = true
    · have ho' := ho
      rw [Bool.and_eq_true, ok_iff, ok_iff] at ho'
      rw [if_pos ho, if_neg (by omega)]
      have hmax : max s.top s.n = s.top := by omega
      unfold mov
      rw [hmax]
      exact pre_both (s := s) (x := { x with ph := 1 }) (n := s.n) (r := s.rd) (tp := s.top) ⟨h0.cl, h0.op, h0.ky, h0.zs, h0.mine, h0.n, h0.nt, h0.rd, h0.nd, h0.tp⟩ rfl p2 p3 p4 p5 (by rw [Bool.and_eq_true] at ho; exact ho.1) (by rw [Bool.and_eq_true] at ho; exact ho.2) (by omega) p7 p8 p9 p10
    · have ho2 := Bool.eq_false_iff.2 ho
      rw [if_neg ho, if_pos (by
        have h3 : ¬ (1 ≤ s.n ∧ s.n ≤ 1099511627776) ∨ ¬ (1 ≤ s.rd ∧ s.rd ≤ 1099511627776) := by
          rw [← ok_iff, ← ok_iff]
          rw [Bool.and_eq_true] at ho
          exact Classical.not_and_iff_not_or_not.1 ho
        omega)]
      exact worn_both h0 p2 p3 p4
  | pre X Y rf => rw [e] at hp; exact hno (by rw [hp.1]; decide) (by unfold begS; rw [e])
  | acc c X Y rf => rw [e] at hp; exact hno (by rw [hp.1]; decide) (by unfold begS; rw [e])
  | dec c => rw [e] at hp; exact hno (by rw [hp.1]; decide) (by unfold begS; rw [e])
  | tri u es ls => rw [e] at hp; exact hno (by rw [hp.1]; decide) (by unfold begS; rw [e])
  | worn => rw [e] at hp; exact hno (by rw [hp.1]; decide) (by unfold begS; rw [e])

theorem next_pre {s : PS} {x : Md.Rs} (h : Same0 s x) (he : EndR x false false false) (hd : x.dc = Md.cZ) (hb : x.bk = Md.bvZ) (hl : LiveR s) :
    Both B (prepS s (wr1 s.top) (wr1 s.rd)) (if 1099511627776 ≤ x.nt ∨ 1099511627776 ≤ x.rd then ({ x with wo := true, ph := 3 }, []) else Md.nextR { x with n := wr1 x.nt, nt := wr1 x.nt, ph := 1 }) := by
  have e1 := h.nt
  have e2 := h.rd
  have o1 := (ok_iff _).1 hl.n
  have o2 := (ok_iff _).1 hl.rd
  have o3 := hl.tp
  have htp := h.tp
  unfold prepS
  rw [ok_wr (by omega) htp, ok_wr (by omega) (by omega)]
  by_cases hc : 1099511627776 ≤ x.nt ∨ 1099511627776 ≤ x.rd
  · rw [if_pos hc, if_neg (by simp only [Bool.and_eq_true, decide_eq_true_eq]; omega)]
    exact worn_both h he hd hb
  · rw [if_neg hc, if_pos (by simp only [Bool.and_eq_true, decide_eq_true_eq]; omega)]
    have w1 : wr1 s.top = s.top + 1 := wr1_small (by omega) (by omega)
    have w2 : wr1 s.rd = s.rd + 1 := wr1_small (by omega) (by omega)
    have hn : Md.nextR { x with n := wr1 x.nt, nt := wr1 x.nt, ph := 1 } = (Md.freshR { x with n := wr1 x.nt, nt := wr1 x.nt, ph := 1, rd := wr1 x.rd }, Md.sendR (Md.freshR { x with n := wr1 x.nt, nt := wr1 x.nt, ph := 1, rd := wr1 x.rd })) := by
      unfold Md.nextR
      rw [if_neg (by show ¬ 1099511627776 ≤ x.rd; omega)]
    rw [hn]
    unfold mov
    have hmx : max s.top (wr1 s.top) = wr1 s.top := by omega
    rw [hmx]
    have hz : x.zs.length = s.zs.length := by rw [h.zs]
    refine pre_both (s := s) (n := wr1 s.top) (r := wr1 s.rd) (tp := wr1 s.top) ⟨h.cl, h.op, h.ky, h.zs, h.mine, ?_, ?_, ?_, h.nd, ?_⟩ rfl he hd hb rfl ?_ ?_ (Int.le_refl _) ?_ ?_ ?_ ?_
    · show wr1 x.nt = wr1 s.top; rw [e1]
    · show wr1 x.nt = wr1 s.top; rw [e1]
    · show wr1 x.rd = wr1 s.rd; rw [e2]
    · show wr1 s.top ≤ _; omega
    · rw [ok_wr (by omega) htp, decide_eq_true_eq]; omega
    · rw [ok_wr (by omega) (by omega), decide_eq_true_eq]; omega
    · show List.replicate x.zs.length false = _; rw [hz]
    · show List.replicate x.zs.length false = _; rw [hz]
    · show (List.replicate x.zs.length Md.spZ).length = _; rw [List.length_replicate, hz]
    · show (List.replicate x.zs.length Md.cZ).length = _; rw [List.length_replicate, hz]
theorem rel_tick {s : PS} {x : Md.Rs} (h : Rel B s x) : Both B (tickS s) (Md.tickR x) := by
  have hR := h
  obtain ⟨h0, hp⟩ := h
  have hno : x.ph ≠ 1 → x.ph ≠ 2 → tickS s = (s, []) → Both B (tickS s) (Md.tickR x) := fun h1 h2 h3 => by
    rw [h3]
    unfold Md.tickR
    rw [if_neg (by omega)]
    exact ⟨hR, rfl⟩
  cases e : s.ph with
  | fresh => rw [e] at hp; exact hno (by rw [hp.1]; decide) (by rw [hp.1]; decide) (by unfold tickS; rw [e])
  | dec c => rw [e] at hp; exact hno (by rw [hp.1]; decide) (by rw [hp.1]; decide) (by unfold tickS; rw [e])
  | tri u es ls => rw [e] at hp; exact hno (by rw [hp.1]; decide) (by rw [hp.1]; decide) (by unfold tickS; rw [e])
  | worn => rw [e] at hp; exact hno (by rw [hp.1]; decide) (by rw [hp.1]; decide) (by unfold tickS; rw [e])
  | pre X Y rf =>
    rw [e] at hp
    obtain ⟨p1, p2, p3, p4, p5, p6, p7, p8, p9, p10⟩ := hp
    have et : tickS s = if rf then prepS s (wr1 s.top) (wr1 s.rd) else (s, (missL X).map (prepM s.v0).to) := by unfold tickS; rw [e]
    have er : Md.tickR x = if x.nk then (if 1099511627776 ≤ x.nt ∨ 1099511627776 ≤ x.rd then ({ x with wo := true, ph := 3 }, []) else Md.nextR { x with n := wr1 x.nt, nt := wr1 x.nt, ph := 1 }) else (x, Md.sendR x) := by
      unfold Md.tickR
      rw [if_pos (Or.inl p1)]
    rw [et, er]
    cases rf with
    | true => rw [if_pos rfl, if_pos p5]; exact next_pre h0 p2 p3 p4 p6
    | false =>
      rw [if_neg (by simp), if_neg (by rw [p5]; simp)]
      refine ⟨hR, ?_⟩
      show _ = List.map uM (Md.sendR x)
      rw [send_miss h0.zs p7.gx p7.ea, List.map_map]
      apply List.map_congr_left
      intro z _
      exact (msg_pre h0 p1 z).symm
  | acc c X Y rf =>
    rw [e] at hp
    obtain ⟨p1, p2, p3, p4, p5, p6, p7, p8⟩ := hp
    have et : tickS s = if rf then prepS s (wr1 s.top) (wr1 s.rd) else (s, (missL X).map (accM s.v0 c).to) := by unfold tickS; rw [e]
    have er : Md.tickR x = if x.nk then (if 1099511627776 ≤ x.nt ∨ 1099511627776 ≤ x.rd then ({ x with wo := true, ph := 3 }, []) else Md.nextR { x with n := wr1 x.nt, nt := wr1 x.nt, ph := 1 }) else (x, Md.sendR x) := by
      unfold Md.tickR
      rw [if_pos (Or.inr p1)]
    rw [et, er]
    cases rf with
    | true => rw [if_pos rfl, if_pos p5]; exact next_pre h0 p2 p3 p4 p6
    | false =>
      rw [if_neg (by simp), if_neg (by rw [p5]; simp)]
      refine ⟨hR, ?_⟩
      show _ = List.map uM (Md.sendR x)
      rw [send_miss h0.zs p8.gx p8.ea, List.map_map]
      apply List.map_congr_left
      intro z _
      exact (msg_acc h0 p1 p7 z).symm
theorem eqA_iff (a : Bool) (b : Int) (c : Int) : eqA a b true c = (a && (b == c)) := by
  unfold eqA
  cases a <;> rfl
theorem eqK_uK (a b : Md.Ky) : Md.eqK a b = eqK (jK a) (jK b) := rfl
/-- Where a message's sender stands. -/
theorem place_of {s : PS} {x : Md.Rs} (h : Same0 s x) (hp : x.ph = 1 ∨ x.ph = 2) (m : Md.Mg) : (ansB s.v0 s.zs (uM m) = false ∧ Md.placeR x m < 0) ∨ (ansB s.v0 s.zs (uM m) = true ∧ ∃ i : Nat, Md.placeR x m = (i : Int) ∧ s.zs[i]? = some m.fr.id) := by
  have ha : ansB s.v0 s.zs (uM m) = (Md.ansR x m && decide (m.fr.id ∈ s.zs)) := by
    have hph : (x.ph == 1 || x.ph == 2) = true := by rcases hp with e | e <;> rw [e] <;> rfl
    unfold ansB Md.ansR hasB
    rw [hph, eqK_uK, h.cl, h.op, h.rd, h.ky]
    show (eqA m.too.cl m.too.id true s.cl && ((m.op == s.op) && ((m.rd == s.rd) && (eqK (jK m.ky) s.ky && (!m.fr.cl && decide (m.fr.id ∈ s.zs)))))) = _
    rw [eqA_iff]
    cases m.fr.cl <;> cases m.too.cl <;> cases (m.too.id == s.cl) <;> cases (m.op == s.op) <;> cases (m.rd == s.rd) <;> cases (eqK (jK m.ky) s.ky) <;> simp
  unfold Md.placeR
  rw [ha, h.zs]
  cases hA : Md.ansR x m with
  | false => exact .inl ⟨rfl, by simp⟩
  | true =>
    simp only [Bool.true_and, if_true]
    by_cases hm : m.fr.id ∈ s.zs
    · refine .inr ⟨decide_eq_true hm, ?_⟩
      have h1 : ¬ Md.plcR s.zs m.fr.id 0 < 0 := fun e => (Md.plcR_neg _ _ 0).1 e hm
      obtain ⟨i, hi⟩ : ∃ i : Nat, Md.plcR s.zs m.fr.id 0 = (i : Int) := ⟨(Md.plcR s.zs m.fr.id 0).toNat, by omega⟩
      obtain ⟨_, h2, h3⟩ := Md.plc_lt _ _ _ _ hi
      refine ⟨i, hi, ?_⟩
      have hlt : i < s.zs.length := by omega
      rw [Nat.sub_zero, List.getElem?_eq_getElem hlt] at h3
      rw [List.getElem?_eq_getElem hlt]
      exact congrArg some h3
    · exact .inl ⟨decide_eq_false hm, (Md.plcR_neg _ _ 0).2 hm⟩

variable {B : Md.Bv → List En → List La → Prop}
theorem place_no {x : Md.Rs} (h1 : x.ph ≠ 1) (h2 : x.ph ≠ 2) (m : Md.Mg) : Md.placeR x m < 0 := by
  unfold Md.placeR Md.ansR
  have e : (x.ph == 1 || x.ph == 2) = false := by simp [h1, h2]
  rw [e]
  simp
/-- The second phase, or the end of the numbers. -/
theorem acc_both {s : PS} {x : Md.Rs} {c : Cm} (h : Same0 s x) (he : EndR x false false false) (hd : x.dc = Md.cZ) (hb : x.bk = Md.bvZ) (hl : LiveR s) (hp : x.ph = 2) (hc : jC x.ch = c) : Both B (accS s c) (Md.nextR x) := by
  have e2 := h.rd
  have o1 := (ok_iff _).1 hl.n
  have o2 := (ok_iff _).1 hl.rd
  have o3 := hl.tp
  unfold accS Md.nextR
  rw [hl.n, ok_wr (by omega) (by omega), Bool.true_and]
  by_cases hr : 1099511627776 ≤ x.rd
  · rw [if_pos hr, if_neg (by simp only [decide_eq_true_eq]; omega)]
    exact worn_both h he hd hb
  · rw [if_neg hr, if_pos (by simp only [decide_eq_true_eq]; omega)]
    have w2 : wr1 s.rd = s.rd + 1 := wr1_small (by omega) (by omega)
    have hmx : max s.top s.n = s.top := by omega
    unfold mov
    rw [hmx]
    have hz : x.zs.length = s.zs.length := by rw [h.zs]
    have hS : Same0 { s with rd := wr1 s.rd } (Md.freshR { x with rd := wr1 x.rd }) := ⟨h.cl, h.op, h.ky, h.zs, h.mine, h.n, h.nt, by show wr1 x.rd = wr1 s.rd; rw [e2], h.nd, h.tp⟩
    refine ⟨⟨⟨hS.cl, hS.op, hS.ky, hS.zs, hS.mine, hS.n, hS.nt, hS.rd, hS.nd, hS.tp⟩, hp, he, hd, hb, rfl, ⟨hl.n, ?_, hl.tp⟩, hc, ?_⟩, ?_⟩
    · show okN (wr1 s.rd) = true
      rw [ok_wr (by omega) (by omega), decide_eq_true_eq]; omega
    · show QRel s.zs _ _ (List.replicate x.zs.length false) (List.replicate x.zs.length false)
      rw [hz]
      exact QRel.new h.nd
    · show _ = List.map uM (Md.sendR (Md.freshR { x with rd := wr1 x.rd }))
      rw [send_all (x := Md.freshR { x with rd := wr1 x.rd }) (zs := s.zs) h.zs (by show List.replicate x.zs.length false = _; rw [hz]), List.map_map]
      apply List.map_congr_left
      intro z _
      exact (msg_acc hS hp hc z).symm
theorem qa_at {α : Type} {zs : List Int} {X : TS Unit} {Y : TS α} {qa qc : List Bool} (h : QRel zs X Y qa qc) {i : Nat} {z : Int} (hz : zs[i]? = some z) : qa[i]?.getD false = (X.v z).isSome := by
  rw [h.ea, List.getElem?_map, hz]
  rfl
/-- What is the same in both phases. -/
theorem oth_both {α : Type} {s : PS} {x : Md.Rs} {X : TS Unit} {Y : TS α} (hR : Rel B s x) (hp : x.ph = 1 ∨ x.ph = 2) (he : EndR x false false false) (hd : x.dc = Md.cZ) (hb : x.bk = Md.bvZ) (hQ : QRel s.zs X Y x.qa x.qc) (nk : TS Unit → Ph) (m : Md.Mg) (es : List En) (ls : List La) (hB : B m.bk es ls) (t : PS × List Ms)
    (hn : ∀ i : Nat, s.zs[i]? = some m.fr.id → (X.v m.fr.id).isSome = false → m.k = 14 → Both B ({ s with top := max s.top m.st.n, ph := nk (hearS X m.fr.id) }, []) ({ x with qa := x.qa.set i true, nk := true, nt := if x.nt < m.st.n then m.st.n else x.nt }, []))
    (hh : (X.v m.fr.id).isSome = true → t = (s, []))
    (ht : ∀ i : Nat, s.zs[i]? = some m.fr.id → (X.v m.fr.id).isSome = false → (m.k = 13 ∨ m.k = 15) → Both B t (Md.tk2R x m i)) :
    Both B (othS s X nk (uM m) es ls t) (Md.takeR x m) := by
  have h0 := hR.s0
  unfold othS
  rcases place_of h0 hp m with ⟨ha, hpl⟩ | ⟨ha, i, hpl, hz⟩
  · rw [ha, if_neg (by simp)]
    unfold Md.takeR
    rw [if_pos hpl]
    exact ⟨hR, rfl⟩
  · rw [ha, if_pos rfl]
    unfold Md.takeR
    have hnl : ¬ Md.placeR x m < 0 := by omega
    rw [if_neg hnl, hpl]
    show Both B (if m.k == 16 then ({ s with ph := .dec (jC m.c) }, []) else if m.k == 17 then ({ s with ph := .tri m.bk.up es ls }, []) else if m.k == 14 then (if m.fr.id ∈ missL X then { s with top := max s.top m.st.n, ph := nk (hearS X m.fr.id) } else s, []) else if m.k == 13 || m.k == 15 then t else (s, [])) _
    cases h16 : m.k == 16 with
    | true =>
      simp only [↓reduceIte, Bool.false_eq_true]
      exact ⟨⟨⟨h0.cl, h0.op, h0.ky, h0.zs, h0.mine, h0.n, h0.nt, h0.rd, h0.nd, h0.tp⟩, rfl, ⟨rfl, he.2.1, he.2.2⟩, rfl, hb⟩, rfl⟩
    | false =>
    simp only [↓reduceIte, Bool.false_eq_true]
    cases h17 : m.k == 17 with
    | true =>
      simp only [↓reduceIte, Bool.false_eq_true]
      exact ⟨⟨⟨h0.cl, h0.op, h0.ky, h0.zs, h0.mine, h0.n, h0.nt, h0.rd, h0.nd, h0.tp⟩, rfl, ⟨he.1, rfl, he.2.2⟩, hd, rfl, hB⟩, rfl⟩
    | false =>
    simp only [↓reduceIte, Bool.false_eq_true]
    rw [Int.toNat_natCast, qa_at hQ hz]
    have hm : m.fr.id ∈ s.zs := List.mem_of_getElem? hz
    cases hv : (X.v m.fr.id).isSome with
    | true =>
      simp only [↓reduceIte, Bool.false_eq_true]
      have hno : m.fr.id ∉ missL X := fun e => by rw [(miss_iff hQ.gx hm).1 e] at hv; cases hv
      rw [if_neg hno, hh hv]
      have : (if m.k == 14 then (s, ([] : List Ms)) else if m.k == 13 || m.k == 15 then (s, []) else (s, [])) = (s, []) := by split <;> (try split) <;> rfl
      rw [this]
      exact ⟨hR, rfl⟩
    | false =>
      simp only [↓reduceIte, Bool.false_eq_true]
      rw [if_pos ((miss_iff hQ.gx hm).2 hv)]
      cases h14 : m.k == 14 with
      | true =>
        simp only [↓reduceIte, Bool.false_eq_true]
        have hk : m.k = 14 := by simpa using h14
        have : Md.tk2R x m i = ({ x with qa := x.qa.set i true, nk := true, nt := if x.nt < m.st.n then m.st.n else x.nt }, []) := by unfold Md.tk2R; rw [h14]; rfl
        rw [this]
        exact hn i hz hv hk
      | false =>
        simp only [↓reduceIte, Bool.false_eq_true]
        cases h135 : (m.k == 13 || m.k == 15) with
        | true =>
          simp only [↓reduceIte, Bool.false_eq_true]
          exact ht i hz hv (by simpa using h135)
        | false =>
          simp only [↓reduceIte, Bool.false_eq_true]
          have h3 := Bool.or_eq_false_iff.1 h135
          have : Md.tk2R x m i = (x, []) := by
            unfold Md.tk2R
            rw [h14, h3.1, h3.2]
            rfl
          rw [this]
          exact ⟨hR, rfl⟩
theorem mine_eq {s : PS} {x : Md.Rs} (h : Same0 s x) (m : Md.Mg) : (m.st.n == x.n && m.st.c == x.cl) = eqS (uM m).st ⟨s.n, s.cl⟩ := by
  rw [h.n, h.cl]
  rfl
theorem max_if (a b : Int) : (if a < b then b else a) = max a b := by split <;> omega
theorem b11 : ((1 : Int) == 1) = true := rfl
theorem b12 : ((1 : Int) == 2) = false := rfl
theorem b21 : ((2 : Int) == 1) = false := rfl
theorem b22 : ((2 : Int) == 2) = true := rfl
theorem rel_take {s : PS} {x : Md.Rs} (h : Rel B s x) (m : Md.Mg) (es : List En) (ls : List La) (hB : B m.bk es ls) (hm : x.ph = 1 ∨ x.ph = 2 → m.st.n ≤ 9223372036854775807) : Both B (taksS s (uM m) es ls) (Md.takeR x m) := by
  have hR := h
  obtain ⟨h0, hp⟩ := h
  have hno : x.ph ≠ 1 → x.ph ≠ 2 → taksS s (uM m) es ls = (s, []) → Both B (taksS s (uM m) es ls) (Md.takeR x m) := fun h1 h2 h3 => by
    rw [h3]
    unfold Md.takeR
    rw [if_pos (place_no h1 h2 m)]
    exact ⟨hR, rfl⟩
  cases e : s.ph with
  | fresh => rw [e] at hp; exact hno (by rw [hp.1]; decide) (by rw [hp.1]; decide) (by unfold taksS; rw [e])
  | dec c => rw [e] at hp; exact hno (by rw [hp.1]; decide) (by rw [hp.1]; decide) (by unfold taksS; rw [e])
  | tri u es ls => rw [e] at hp; exact hno (by rw [hp.1]; decide) (by rw [hp.1]; decide) (by unfold taksS; rw [e])
  | worn => rw [e] at hp; exact hno (by rw [hp.1]; decide) (by rw [hp.1]; decide) (by unfold taksS; rw [e])
  | pre X Y rf =>
    rw [e] at hp
    obtain ⟨p1, p2, p3, p4, p5, p6, p7, p8, p9, p10⟩ := hp
    have et : taksS s (uM m) es ls = othS s X (fun x' => .pre x' Y true) (uM m) es ls (takP s X Y rf (uM m)) := by unfold taksS; rw [e]
    rw [et]
    refine oth_both hR (.inl p1) p2 p3 p4 p7 _ m es ls hB _ ?_ ?_ ?_
    · intro i hz hv hk
      refine ⟨⟨⟨h0.cl, h0.op, h0.ky, h0.zs, h0.mine, h0.n, ?_, h0.rd, h0.nd, ?_⟩, p1, p2, p3, p4, rfl, ⟨p6.n, p6.rd, ?_⟩, p7.nack hz hv, p8, p9, p10⟩, rfl⟩
      · show (if x.nt < m.st.n then m.st.n else x.nt) = _; rw [max_if, h0.nt]
      · show max s.top m.st.n ≤ _; have := h0.tp; have := hm (.inl p1); omega
      · show s.n ≤ max s.top m.st.n; have := p6.tp; omega
    · intro hv
      unfold takP
      have : decide ((uM m).fi ∈ missL X) = false := decide_eq_false (fun e => by
        have hm' : m.fr.id ∈ missL X := e
        unfold missL at hm'
        rw [List.mem_filter] at hm'
        rw [Option.isSome_iff_ne_none] at hv
        exact hv (Option.isNone_iff_eq_none.1 hm'.2))
      rw [this, Bool.and_false, if_neg (by simp)]
    · intro i hz hv hk
      have hmem : m.fr.id ∈ s.zs := List.mem_of_getElem? hz
      have hms : decide ((uM m).fi ∈ missL X) = true := decide_eq_true ((miss_iff p7.gx hmem).2 hv)
      obtain ⟨t1, t2, t3, t4⟩ := takeB_iff p7 hz hv (msV (uM m))
      unfold takP Md.tk2R
      rw [hms, Bool.and_true, mine_eq h0 m, p1]
      have hlz : x.zs.length = s.zs.length := by rw [h0.zs]
      rw [hlz]
      cases hm1 : eqS (uM m).st ⟨s.n, s.cl⟩ with
      | false =>
        have h14 : (m.k == 14) = false := by rcases hk with e | e <;> rw [e] <;> rfl
        rw [h14]
        simp only [Bool.true_and, Bool.and_true, Bool.and_false, Bool.false_and, ↓reduceIte, Bool.false_eq_true, b11, b12, b21, b22]
        exact ⟨hR, rfl⟩
      | true =>
        rcases hk with hk | hk
        · have k13 : ((uM m).k == 13) = true := by show (m.k == 13) = true; rw [hk]; rfl
          have k13' : (m.k == 13) = true := k13
          rw [k13, k13', show (m.k == 14) = false by rw [hk]; rfl]
          simp only [Bool.true_and, Bool.and_true, Bool.and_false, Bool.false_and, ↓reduceIte, Bool.false_eq_true, b11, b12, b21, b22]
          show Both B (if takeB Y m.fr.id then accS s (choiceS s (takeS Y m.fr.id (msV (uM m)))) else ({ s with ph := .pre (hearS X m.fr.id) (takeS Y m.fr.id (msV (uM m))) rf }, [])) _
          have hvv : ∀ (j : Nat) z v, s.zs[j]? = some z → (takeS Y m.fr.id (msV (uM m))).v z = some v → (x.qh.set i m.hd)[j]? = some (vS v) ∧ (x.qm.set i m.c)[j]? = some (vC v) := by
            intro j z v hj hv2
            rw [t1] at hv2
            by_cases ej : z = m.fr.id
            · subst ej
              have : j = i := lit_nodup s.zs h0.nd j i _ hj hz
              subst this
              have hlt := (List.getElem?_eq_some_iff.1 hj).1
              have hvv : v = msV (uM m) := by simpa [putS] using hv2.symm
              subst hvv
              rw [List.getElem?_set_self (by omega), List.getElem?_set_self (by omega)]
              exact ⟨rfl, rfl⟩
            · have hji : i ≠ j := fun e2 => by
                subst e2
                rw [hz] at hj
                exact ej (Option.some.inj hj).symm
              rw [List.getElem?_set_ne hji, List.getElem?_set_ne hji]
              exact p10 j z v hj (by simpa [putS, ej] using hv2)
          by_cases hf : Md.cntB (x.qc.set i true) < s.zs.length / 2 + 1
          · rw [if_pos hf, t2, if_neg (by simp [hf])]
            refine ⟨⟨⟨h0.cl, h0.op, h0.ky, h0.zs, h0.mine, h0.n, h0.nt, h0.rd, h0.nd, h0.tp⟩, p1, p2, p3, p4, p5, ⟨p6.n, p6.rd, p6.tp⟩, p7.put hz hv _ hf, ?_, ?_, hvv⟩, rfl⟩
            · show (x.qh.set i m.hd).length = _; rw [List.length_set]; exact p8
            · show (x.qm.set i m.c).length = _; rw [List.length_set]; exact p9
          · rw [if_neg hf, t2, if_pos (by simp [hf])]
            have hY : (takeS Y m.fr.id (msV (uM m))).g = s.zs := by rw [take_g]; exact p7.gy
            have hc : jC (Md.chooseR (Md.prmR x m i)).ch = choiceS s (takeS Y m.fr.id (msV (uM m))) :=
              choose_eq (zs := s.zs) s h0.zs hY (by rw [t1]; exact t3) hvv h0.mine
            exact acc_both (x := { Md.chooseR (Md.prmR x m i) with ph := 2 }) ⟨h0.cl, h0.op, h0.ky, h0.zs, h0.mine, h0.n, h0.nt, h0.rd, h0.nd, h0.tp⟩ p2 p3 p4 p6 rfl hc
        · have k13 : ((uM m).k == 13) = false := by show (m.k == 13) = false; rw [hk]; rfl
          have k13' : (m.k == 13) = false := k13
          rw [k13, k13', show (m.k == 14) = false by rw [hk]; rfl]
          simp only [Bool.true_and, Bool.and_true, Bool.and_false, Bool.false_and, ↓reduceIte, Bool.false_eq_true, b11, b12, b21, b22]
          exact ⟨hR, rfl⟩
  | acc c X Y rf =>
    rw [e] at hp
    obtain ⟨p1, p2, p3, p4, p5, p6, p7, p8⟩ := hp
    have et : taksS s (uM m) es ls = othS s X (fun x' => .acc c x' Y true) (uM m) es ls (takA s c X Y rf (uM m)) := by unfold taksS; rw [e]
    rw [et]
    refine oth_both hR (.inr p1) p2 p3 p4 p8 _ m es ls hB _ ?_ ?_ ?_
    · intro i hz hv hk
      refine ⟨⟨⟨h0.cl, h0.op, h0.ky, h0.zs, h0.mine, h0.n, ?_, h0.rd, h0.nd, ?_⟩, p1, p2, p3, p4, rfl, ⟨p6.n, p6.rd, ?_⟩, p7, p8.nack hz hv⟩, rfl⟩
      · show (if x.nt < m.st.n then m.st.n else x.nt) = _; rw [max_if, h0.nt]
      · show max s.top m.st.n ≤ _; have := h0.tp; have := hm (.inr p1); omega
      · show s.n ≤ max s.top m.st.n; have := p6.tp; omega
    · intro hv
      unfold takA
      have : decide ((uM m).fi ∈ missL X) = false := decide_eq_false (fun e => by
        have hm' : m.fr.id ∈ missL X := e
        unfold missL at hm'
        rw [List.mem_filter] at hm'
        rw [Option.isSome_iff_ne_none] at hv
        exact hv (Option.isNone_iff_eq_none.1 hm'.2))
      rw [this, Bool.and_false, if_neg (by simp)]
    · intro i hz hv hk
      have hmem : m.fr.id ∈ s.zs := List.mem_of_getElem? hz
      have hms : decide ((uM m).fi ∈ missL X) = true := decide_eq_true ((miss_iff p8.gx hmem).2 hv)
      obtain ⟨t1, t2, t3, t4⟩ := takeB_iff p8 hz hv ()
      unfold takA Md.tk2R
      rw [hms, Bool.and_true, mine_eq h0 m, p1]
      have hlz : x.zs.length = s.zs.length := by rw [h0.zs]
      rw [hlz]
      cases hm1 : eqS (uM m).st ⟨s.n, s.cl⟩ with
      | false =>
        have h14 : (m.k == 14) = false := by rcases hk with e | e <;> rw [e] <;> rfl
        rw [h14]
        simp only [Bool.true_and, Bool.and_true, Bool.and_false, Bool.false_and, ↓reduceIte, Bool.false_eq_true, b11, b12, b21, b22]
        exact ⟨hR, rfl⟩
      | true =>
        rcases hk with hk | hk
        · have k15 : ((uM m).k == 15) = false := by show (m.k == 15) = false; rw [hk]; rfl
          have k15' : (m.k == 15) = false := k15
          rw [k15, k15', show (m.k == 14) = false by rw [hk]; rfl]
          simp only [Bool.true_and, Bool.and_true, Bool.and_false, Bool.false_and, ↓reduceIte, Bool.false_eq_true, b11, b12, b21, b22]
          exact ⟨hR, rfl⟩
        · have k15 : ((uM m).k == 15) = true := by show (m.k == 15) = true; rw [hk]; rfl
          have k15' : (m.k == 15) = true := k15
          rw [k15, k15', show (m.k == 14) = false by rw [hk]; rfl, show (m.k == 13) = false by rw [hk]; rfl]
          simp only [Bool.true_and, Bool.and_true, Bool.and_false, Bool.false_and, ↓reduceIte, Bool.false_eq_true, b11, b12, b21, b22]
          show Both B (if takeB Y m.fr.id then ({ s with ph := .dec c }, s.zs.map (lrnM s.v0 c).to) else ({ s with ph := .acc c (hearS X m.fr.id) (takeS Y m.fr.id ()) rf }, [])) _
          by_cases hf : Md.cntB (x.qc.set i true) < s.zs.length / 2 + 1
          · rw [if_pos hf, t2, if_neg (by simp [hf])]
            exact ⟨⟨⟨h0.cl, h0.op, h0.ky, h0.zs, h0.mine, h0.n, h0.nt, h0.rd, h0.nd, h0.tp⟩, p1, p2, p3, p4, p5, ⟨p6.n, p6.rd, p6.tp⟩, p7, p8.put hz hv _ hf⟩, rfl⟩
          · rw [if_neg hf, t2, if_pos (by simp [hf])]
            refine ⟨⟨⟨h0.cl, h0.op, h0.ky, h0.zs, h0.mine, h0.n, h0.nt, h0.rd, h0.nd, h0.tp⟩, rfl, ⟨rfl, p2.2.1, p2.2.2⟩, p7, p4⟩, ?_⟩
            show _ = List.map uM (Md.lrnK x s.zs.length)
            unfold Md.lrnK
            rw [h0.zs, List.take_length, List.map_map]
            apply List.map_congr_left
            intro z _
            exact (msg_lrn h0 p7 z).symm

theorem n_bound {s : PS} {x : Md.Rs} (h : Rel B s x) (hp : x.ph = 1 ∨ x.ph = 2) : x.n ≤ 9223372036854775807 := by
  have h0 := h.s0
  have h1 := h.ph
  have htp := h0.tp
  rw [h0.n]
  cases e : s.ph with
  | fresh => rw [e] at h1; have := h1.1; omega
  | pre X Y rf => rw [e] at h1; have := h1.2.2.2.2.2.1.tp; omega
  | acc c X Y rf => rw [e] at h1; have := h1.2.2.2.2.2.1.tp; omega
  | dec c => rw [e] at h1; have := h1.1; omega
  | tri u es ls => rw [e] at h1; have := h1.1; omega
  | worn => rw [e] at h1; have := h1.1; omega

end Go.Proofs.Ytpabpeppgpeaoaa
